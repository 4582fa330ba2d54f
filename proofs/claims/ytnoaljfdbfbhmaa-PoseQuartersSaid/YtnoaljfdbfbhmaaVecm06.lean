/- Contracts of package vec: the closures, product, Near, normalize. -/
import Derived.Test.YtnoaljfdbfbhmaaVecl06
import Derived.Test.YtnoaljfdbfbhmaaRefb06
namespace Go.Proofs.Ytnoaljfdbfbhmaa
open Go.RowKit Go.Shelf Go.Shelf Go.Proofs.Sky
set_option linter.unusedVariables false

theorem vec_times (m n p : Int) (w : World) (h : wrap64 (m * n) = p) :
    Calls Try.prog 58 #[.int .i64 m, .int .i64 n] w fun e w' => e = .returned (.int .i64 p) ∧ Below w.heap.size w w' := by
  go_enter Try.func58, Try.ntmps58
  go_wp2
  go_ret
  exact ⟨ret_int (by first | rfl | simp only [h]), Below.refl _ _⟩

/-- A sum of three products that do not go round. -/
theorem vec_product (x y z a b c d1 d2 d3 : Int) (w : World) (h1 : d1 = x * a) (h2 : d2 = y * b) (h3 : d3 = z * c)
    (b1 : -2305843009213693952 ≤ d1 ∧ d1 ≤ 2305843009213693952) (b2 : -2305843009213693952 ≤ d2 ∧ d2 ≤ 2305843009213693952) (b3 : -2305843009213693952 ≤ d3 ∧ d3 ≤ 2305843009213693952) :
    Calls Try.prog 57 #[.agg #[.int .i64 x, .int .i64 y, .int .i64 z], .agg #[.int .i64 a, .int .i64 b, .int .i64 c]] w fun e w' => e = .returned (.int .i64 (d1 + d2 + d3)) ∧ Below w.heap.size w w' := by
  have K := Lib.hid (fun w => vec_pair 58 #[] x y z a b c d1 d2 d3 w (enters_of Try.func58 (by kernel_rfl) rfl)
    (fun w' _ => by simpa using vec_times x a d1 w' (by rw [← h1]; exact IntWalk.wrap64_in _ (by omega)))
    (fun w' _ => by simpa using vec_times y b d2 w' (by rw [← h2]; exact IntWalk.wrap64_in _ (by omega)))
    (fun w' _ => by simpa using vec_times z c d3 w' (by rw [← h3]; exact IntWalk.wrap64_in _ (by omega))))
  obtain ⟨s, hs⟩ : ∃ s, s = d1 + d2 := ⟨_, rfl⟩
  obtain ⟨t, ht⟩ : ∃ t, t = s + d3 := ⟨_, rfl⟩
  have w4 : wrap64 s = s := IntWalk.wrap64_in _ (by omega)
  have w5 : wrap64 t = t := IntWalk.wrap64_in _ (by omega)
  have e4 : d1 + d2 = s := hs.symm
  have e5 : s + d3 = t := ht.symm
  rw [e4, e5]
  clear hs ht h1 h2 h3 b1 b2 b3
  go_enter Try.func57, Try.ntmps57
  go_upto_region 1 with (fail)
  obtain ⟨W1, hW1⟩ : ∃ W, W = (w.alloc (.cells #[.int .i64 x, .int .i64 y, .int .i64 z] 23)).alloc (.cells #[.int .i64 a, .int .i64 b, .int .i64 c] 23) := ⟨_, rfl⟩
  have B1 : Below w.heap.size w W1 := by rw [hW1]; go_grown
  have k_v : Bk W1 (w.heap.size) 23 #[.int .i64 x, .int .i64 y, .int .i64 z] := by rw [hW1]; exact (Bk.new _ _ _).alloc _
  have k_u : Bk W1 (w.heap.size + 1) 23 #[.int .i64 a, .int .i64 b, .int .i64 c] := by rw [hW1]; exact Bk.new_at _ _ _ _ (by simp)
  rw [← hW1]
  clear hW1
  have l_u : w.heap.size < w.heap.size + 1 := by omega
  generalize w.heap.size + 1 = g_u at *
  have c_v_0 : ∀ p : BW W1, p.w.cell? ⟨w.heap.size, 0, none⟩ = some (.int .i64 x) := bw_cell (k_v.cell rfl)
  have c_v_1 : ∀ p : BW W1, p.w.cell? ⟨w.heap.size, 1, none⟩ = some (.int .i64 y) := bw_cell (k_v.cell rfl)
  have c_v_2 : ∀ p : BW W1, p.w.cell? ⟨w.heap.size, 2, none⟩ = some (.int .i64 z) := bw_cell (k_v.cell rfl)
  have c_u_0 : ∀ p : BW W1, p.w.cell? ⟨g_u, 0, none⟩ = some (.int .i64 a) := bw_cell (k_u.cell rfl)
  have c_u_1 : ∀ p : BW W1, p.w.cell? ⟨g_u, 1, none⟩ = some (.int .i64 b) := bw_cell (k_u.cell rfl)
  have c_u_2 : ∀ p : BW W1, p.w.cell? ⟨g_u, 2, none⟩ = some (.int .i64 c) := bw_cell (k_u.cell rfl)
  obtain ⟨p1, hp1⟩ : ∃ p : BW W1, p.w = W1 := ⟨BW.start W1, rfl⟩
  rw [← hp1]
  clear hp1
  go_upto_region 2 with (first
    | (go_at_call 50; (first | (with_reducible refine (bw_call K.out _).mono ?_)); rintro e w' ⟨rfl, q, rfl⟩))
  obtain ⟨W2, hW2⟩ : ∃ W, W = q.w.alloc (.cells #[.int .i64 d1, .int .i64 d2, .int .i64 d3] 23) := ⟨_, rfl⟩
  have B2 : Below w.heap.size w W2 := by rw [hW2]; exact (bw_below B1 q).alloc (bw_below B1 q).size _
  have l_l : g_u < q.w.heap.size := (k_u.below q.h).lt
  have k_v := (k_v.below q.h).alloc (.cells #[.int .i64 d1, .int .i64 d2, .int .i64 d3] 23)
  rw [← hW2] at k_v
  have k_u := (k_u.below q.h).alloc (.cells #[.int .i64 d1, .int .i64 d2, .int .i64 d3] 23)
  rw [← hW2] at k_u
  have k_l : Bk W2 q.w.heap.size 23 #[.int .i64 d1, .int .i64 d2, .int .i64 d3] := by rw [hW2]; exact Bk.new _ _ _
  rw [← hW2]
  clear hW2
  clear B1
  clear c_v_0 c_v_1 c_v_2 c_u_0 c_u_1 c_u_2
  generalize q.w.heap.size = g_l at *
  have c_v_0 : ∀ p : BW W2, p.w.cell? ⟨w.heap.size, 0, none⟩ = some (.int .i64 x) := bw_cell (k_v.cell rfl)
  have c_v_1 : ∀ p : BW W2, p.w.cell? ⟨w.heap.size, 1, none⟩ = some (.int .i64 y) := bw_cell (k_v.cell rfl)
  have c_v_2 : ∀ p : BW W2, p.w.cell? ⟨w.heap.size, 2, none⟩ = some (.int .i64 z) := bw_cell (k_v.cell rfl)
  have c_u_0 : ∀ p : BW W2, p.w.cell? ⟨g_u, 0, none⟩ = some (.int .i64 a) := bw_cell (k_u.cell rfl)
  have c_u_1 : ∀ p : BW W2, p.w.cell? ⟨g_u, 1, none⟩ = some (.int .i64 b) := bw_cell (k_u.cell rfl)
  have c_u_2 : ∀ p : BW W2, p.w.cell? ⟨g_u, 2, none⟩ = some (.int .i64 c) := bw_cell (k_u.cell rfl)
  have c_l_0 : ∀ p : BW W2, p.w.cell? ⟨g_l, 0, none⟩ = some (.int .i64 d1) := bw_cell (k_l.cell rfl)
  have c_l_1 : ∀ p : BW W2, p.w.cell? ⟨g_l, 1, none⟩ = some (.int .i64 d2) := bw_cell (k_l.cell rfl)
  have c_l_2 : ∀ p : BW W2, p.w.cell? ⟨g_l, 2, none⟩ = some (.int .i64 d3) := bw_cell (k_l.cell rfl)
  obtain ⟨p2, hp2⟩ : ∃ p : BW W2, p.w = W2 := ⟨BW.start W2, rfl⟩
  rw [← hp2]
  clear hp2
  go_wp2
  go_ret
  exact ⟨ret_int (by first | rfl | simp only [w5]), bw_below B2 p2⟩

theorem vec_Near (x y z : Int) (w : World) :
    Calls Try.prog 24 #[.agg #[.int .i64 x, .int .i64 y, .int .i64 z]] w fun r w' => r = .returned (.bool (vnear x y z)) ∧ Below w.heap.size w w' := by
  have K := Lib.hid (fun w => vec_within 1048576 x y z w (by omega))
  unfold vnear
  generalize wi 1048576 x y z = r at *
  have hb0 : Below w.heap.size w (w.alloc (.cells #[.int .i64 x, .int .i64 y, .int .i64 z] 23)) := by go_grown
  go_enter Try.func24, Try.ntmps24
  go_wp2_with (go_at_call 44; (with_reducible refine (K.out _).mono ?_); rintro e w1 ⟨rfl, hb⟩)
  go_ret
  exact ⟨rfl, hb0.trans (hb.mono hb0.size)⟩

end Go.Proofs.Ytnoaljfdbfbhmaa
