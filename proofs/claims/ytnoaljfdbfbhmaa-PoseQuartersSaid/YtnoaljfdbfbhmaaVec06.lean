/- Contracts of package vec (landed at 7315bb3e32). -/
import Derived.Test.YtnoaljfdbfbhmaaVecm06
import Derived.Test.YtnoaljfdbfbhmaaRoot01
namespace Go.Proofs.Ytnoaljfdbfbhmaa
open Go.RowKit Go.Shelf Go.Shelf Go.Proofs.Sky
set_option linter.unusedVariables false

theorem vcr_small (x y z a b c : Int) : (-2199023255552 ≤ (vcr x y z a b c).1 ∧ (vcr x y z a b c).1 ≤ 2199023255552) ∧ (-2199023255552 ≤ (vcr x y z a b c).2.1 ∧ (vcr x y z a b c).2.1 ≤ 2199023255552) ∧ (-2199023255552 ≤ (vcr x y z a b c).2.2 ∧ (vcr x y z a b c).2.2 ≤ 2199023255552) := by
  unfold vcr
  split
  · rename_i h
    obtain ⟨h1, h2⟩ := h
    rw [vnear_iff] at h1 h2
    have p1 := near_mul (x := y) (a := c) (by omega) (by omega)
    have p2 := near_mul (x := z) (a := b) (by omega) (by omega)
    have p3 := near_mul (x := z) (a := a) (by omega) (by omega)
    have p4 := near_mul (x := x) (a := c) (by omega) (by omega)
    have p5 := near_mul (x := x) (a := b) (by omega) (by omega)
    have p6 := near_mul (x := y) (a := a) (by omega) (by omega)
    dsimp only
    omega
  · dsimp only; omega
theorem vvol_of (x y z a b c d e f : Int) : vvol x y z a b c d e f = if vnear x y z = true then x * (vcr a b c d e f).1 + y * (vcr a b c d e f).2.1 + z * (vcr a b c d e f).2.2 else 0 := by
  unfold vvol vcr
  by_cases h : vnear x y z = true
  · by_cases h2 : vnear a b c = true ∧ vnear d e f = true
    · rw [if_pos ⟨h, h2.1, h2.2⟩, if_pos h, if_pos h2]
    · rw [if_neg (fun g => h2 ⟨g.2.1, g.2.2⟩), if_pos h, if_neg h2]
      simp
  · rw [if_neg (fun g => h g.1), if_neg h]

set_option maxRecDepth 100000 in
set_option maxHeartbeats 4000000 in
theorem vec_Add (x y z a b c : Int) (w : World) (hx : I64 x) (hy : I64 y) (hz : I64 z) (ha : I64 a) (hb : I64 b) (hc : I64 c) :
    Calls Try.prog 41 #[.agg #[.int .i64 x, .int .i64 y, .int .i64 z], .agg #[.int .i64 a, .int .i64 b, .int .i64 c]] w fun r w' => r = .returned (.agg #[.int .i64 (sat (x + a)), .int .i64 (sat (y + b)), .int .i64 (sat (z + c))]) ∧ Below w.heap.size w w' := by
  have K := Lib.hid (fun w => vec_pair 51 #[] x y z a b c (sat (x + a)) (sat (y + b)) (sat (z + c)) w (enters_of Try.func51 (by kernel_rfl) rfl)
    (fun w' _ => by simpa using below_of_same (fun w => num_Plus x a w hx ha) w')
    (fun w' _ => by simpa using below_of_same (fun w => num_Plus y b w hy hb) w')
    (fun w' _ => by simpa using below_of_same (fun w => num_Plus z c w hz hc) w'))
  clear hx hy hz ha hb hc
  generalize sat (x + a) = r1 at *
  generalize sat (y + b) = r2 at *
  generalize sat (z + c) = r3 at *
  go_enter Try.func41, Try.ntmps41
  go_upto_region 1 with (fail)
  obtain ⟨W1, hW1⟩ : ∃ W, W = ((w.alloc (.cells #[.int .i64 x, .int .i64 y, .int .i64 z] 23)).alloc (.cells #[.int .i64 a, .int .i64 b, .int .i64 c] 23)).alloc (.cells #[.int .i64 0, .int .i64 0, .int .i64 0] 23) := ⟨_, rfl⟩
  have B1 : Below w.heap.size w W1 := by rw [hW1]; go_grown
  have k_v : Bk W1 (w.heap.size) 23 #[.int .i64 x, .int .i64 y, .int .i64 z] := by rw [hW1]; exact ((Bk.new _ _ _).alloc _).alloc _
  have k_u : Bk W1 (w.heap.size + 1) 23 #[.int .i64 a, .int .i64 b, .int .i64 c] := by rw [hW1]; exact (Bk.new_at _ _ _ _ (by simp)).alloc _
  have k_r : Bk W1 (w.heap.size + 1 + 1) 23 #[.int .i64 0, .int .i64 0, .int .i64 0] := by rw [hW1]; exact Bk.new_at _ _ _ _ (by simp)
  rw [← hW1]
  clear hW1
  have l_u : w.heap.size < w.heap.size + 1 := by omega
  have l_r : w.heap.size + 1 < w.heap.size + 1 + 1 := by omega
  generalize w.heap.size + 1 + 1 = g_r at *
  generalize w.heap.size + 1 = g_u at *
  have c_v_0 : ∀ p : BW W1, p.w.cell? ⟨w.heap.size, 0, none⟩ = some (.int .i64 x) := bw_cell (k_v.cell rfl)
  have c_v_1 : ∀ p : BW W1, p.w.cell? ⟨w.heap.size, 1, none⟩ = some (.int .i64 y) := bw_cell (k_v.cell rfl)
  have c_v_2 : ∀ p : BW W1, p.w.cell? ⟨w.heap.size, 2, none⟩ = some (.int .i64 z) := bw_cell (k_v.cell rfl)
  have c_u_0 : ∀ p : BW W1, p.w.cell? ⟨g_u, 0, none⟩ = some (.int .i64 a) := bw_cell (k_u.cell rfl)
  have c_u_1 : ∀ p : BW W1, p.w.cell? ⟨g_u, 1, none⟩ = some (.int .i64 b) := bw_cell (k_u.cell rfl)
  have c_u_2 : ∀ p : BW W1, p.w.cell? ⟨g_u, 2, none⟩ = some (.int .i64 c) := bw_cell (k_u.cell rfl)
  have c_r_0 : ∀ p : BW W1, p.w.cell? ⟨g_r, 0, none⟩ = some (.int .i64 0) := bw_cell (k_r.cell rfl)
  have f_r_0 : ∀ p : BW W1, p.w.frozen? ⟨g_r, 0, none⟩ = false := fun p => (k_r.below p.h).frozen 0
  have c_r_1 : ∀ p : BW W1, p.w.cell? ⟨g_r, 1, none⟩ = some (.int .i64 0) := bw_cell (k_r.cell rfl)
  have f_r_1 : ∀ p : BW W1, p.w.frozen? ⟨g_r, 1, none⟩ = false := fun p => (k_r.below p.h).frozen 1
  have c_r_2 : ∀ p : BW W1, p.w.cell? ⟨g_r, 2, none⟩ = some (.int .i64 0) := bw_cell (k_r.cell rfl)
  have f_r_2 : ∀ p : BW W1, p.w.frozen? ⟨g_r, 2, none⟩ = false := fun p => (k_r.below p.h).frozen 2
  obtain ⟨p1, hp1⟩ : ∃ p : BW W1, p.w = W1 := ⟨BW.start W1, rfl⟩
  rw [← hp1]
  clear hp1
  go_wp2_with (first
    | (go_at_call 50; (first | (with_reducible refine (bw_call K.out _).mono ?_)); rintro e w' ⟨rfl, q, rfl⟩))
  have kr : Bk (((q.w.setCell ⟨g_r, 0, none⟩ (.int .i64 r1)).setCell ⟨g_r, 1, none⟩ (.int .i64 r2)).setCell ⟨g_r, 2, none⟩ (.int .i64 r3)) (g_r) 23 #[.int .i64 r1, .int .i64 r2, .int .i64 r3] := ((((k_r.below q.h).set 0 (.int .i64 r1)).set 1 (.int .i64 r2)).set 2 (.int .i64 r3))
  have rc0 : World.cell? (((q.w.setCell ⟨g_r, 0, none⟩ (.int .i64 r1)).setCell ⟨g_r, 1, none⟩ (.int .i64 r2)).setCell ⟨g_r, 2, none⟩ (.int .i64 r3)) ⟨g_r, 0, none⟩ = some (.int .i64 r1) := kr.cell rfl
  have rc1 : World.cell? (((q.w.setCell ⟨g_r, 0, none⟩ (.int .i64 r1)).setCell ⟨g_r, 1, none⟩ (.int .i64 r2)).setCell ⟨g_r, 2, none⟩ (.int .i64 r3)) ⟨g_r, 1, none⟩ = some (.int .i64 r2) := kr.cell rfl
  have rc2 : World.cell? (((q.w.setCell ⟨g_r, 0, none⟩ (.int .i64 r1)).setCell ⟨g_r, 1, none⟩ (.int .i64 r2)).setCell ⟨g_r, 2, none⟩ (.int .i64 r3)) ⟨g_r, 2, none⟩ = some (.int .i64 r3) := kr.cell rfl
  exact bodyPost_ret (v := .agg #[.int .i64 r1, .int .i64 r2, .int .i64 r3]) (by simp [results, Try.results41, go_sem, rc0, rc1, rc2]) rfl ⟨rfl, ((((bw_below B1 q).setCell (p := ⟨g_r, 0, none⟩) (by show w.heap.size ≤ g_r; omega) _).setCell (p := ⟨g_r, 1, none⟩) (by show w.heap.size ≤ g_r; omega) _).setCell (p := ⟨g_r, 2, none⟩) (by show w.heap.size ≤ g_r; omega) _)⟩

set_option maxRecDepth 100000 in
set_option maxHeartbeats 4000000 in
theorem vec_Dot_no (x y z a b c : Int) (w : World) (h : ¬ (vnear x y z = true ∧ vnear a b c = true)) :
    Calls Try.prog 55 #[.agg #[.int .i64 x, .int .i64 y, .int .i64 z], .agg #[.int .i64 a, .int .i64 b, .int .i64 c]] w fun r w' => r = .returned (.int .i64 0) ∧ Below w.heap.size w w' := by
  have K1 := Lib.hid (fun w => vec_Near x y z w)
  have K2 := Lib.hid (fun w => vec_Near a b c w)
  generalize vnear x y z = n1 at *
  generalize vnear a b c = n2 at *
  cases n1 <;> cases n2
  case true.true => exact absurd ⟨rfl, rfl⟩ h
  all_goals
    clear h
    go_enter Try.func55, Try.ntmps55
    go_upto_region 1 with (fail)
    obtain ⟨W1, hW1⟩ : ∃ W, W = (w.alloc (.cells #[.int .i64 x, .int .i64 y, .int .i64 z] 23)).alloc (.cells #[.int .i64 a, .int .i64 b, .int .i64 c] 23) := ⟨_, rfl⟩
    have B1 : Below w.heap.size w W1 := by rw [hW1]; go_grown
    have k_v : Bk W1 (w.heap.size) 23 #[.int .i64 x, .int .i64 y, .int .i64 z] := by rw [hW1]; exact (Bk.new _ _ _).alloc _
    have k_u : Bk W1 (w.heap.size + 1) 23 #[.int .i64 a, .int .i64 b, .int .i64 c] := by rw [hW1]; exact Bk.new_at _ _ _ _ (by simp)
    rw [← hW1]
    clear hW1
    have l_u : w.heap.size < w.heap.size + 1 := by omega
    generalize w.heap.size + 1 = g_u at *
    have c_v_0 : ∀ p : BW W1, p.w.cell? ⟨w.heap.size, 0, none⟩ = some (.int .i64 x) := bw_cell (k_v.cell rfl)
    have c_v_1 : ∀ p : BW W1, p.w.cell? ⟨w.heap.size, 1, none⟩ = some (.int .i64 y) := bw_cell (k_v.cell rfl)
    have c_v_2 : ∀ p : BW W1, p.w.cell? ⟨w.heap.size, 2, none⟩ = some (.int .i64 z) := bw_cell (k_v.cell rfl)
    have c_u_0 : ∀ p : BW W1, p.w.cell? ⟨g_u, 0, none⟩ = some (.int .i64 a) := bw_cell (k_u.cell rfl)
    have c_u_1 : ∀ p : BW W1, p.w.cell? ⟨g_u, 1, none⟩ = some (.int .i64 b) := bw_cell (k_u.cell rfl)
    have c_u_2 : ∀ p : BW W1, p.w.cell? ⟨g_u, 2, none⟩ = some (.int .i64 c) := bw_cell (k_u.cell rfl)
    obtain ⟨p1, hp1⟩ : ∃ p : BW W1, p.w = W1 := ⟨BW.start W1, rfl⟩
    rw [← hp1]
    clear hp1
    go_wp2_with (first
      | (go_at_call 24; (first | (with_reducible refine (bw_call K1.out _).mono ?_) | (with_reducible refine (bw_call K2.out _).mono ?_)); rintro e w' ⟨rfl, q, rfl⟩))
    go_ret
    exact ⟨rfl, bw_below B1 q⟩

set_option maxRecDepth 100000 in
set_option maxHeartbeats 4000000 in
theorem vec_Dot (x y z a b c : Int) (w : World) :
    Calls Try.prog 55 #[.agg #[.int .i64 x, .int .i64 y, .int .i64 z], .agg #[.int .i64 a, .int .i64 b, .int .i64 c]] w fun r w' => r = .returned (.int .i64 (vdot x y z a b c)) ∧ Below w.heap.size w w' := by
  by_cases h : vnear x y z = true ∧ vnear a b c = true
  · have K1 := Lib.hid (fun w => vec_Near x y z w)
    have K2 := Lib.hid (fun w => vec_Near a b c w)
    unfold vdot
    rw [if_pos h]
    rw [h.1] at K1
    rw [h.2] at K2
    obtain ⟨h1, h2⟩ := h
    rw [vnear_iff] at h1 h2
    have p1 := near_mul (x := x) (a := a) (by omega) (by omega)
    have p2 := near_mul (x := y) (a := b) (by omega) (by omega)
    have p3 := near_mul (x := z) (a := c) (by omega) (by omega)
    have K := Lib.hid (fun w => vec_product x y z a b c _ _ _ w rfl rfl rfl (by omega) (by omega) (by omega))
    generalize x * a + y * b + z * c = r at *
    clear h1 h2 p1 p2 p3
    go_enter Try.func55, Try.ntmps55
    go_upto_region 1 with (fail)
    obtain ⟨W1, hW1⟩ : ∃ W, W = (w.alloc (.cells #[.int .i64 x, .int .i64 y, .int .i64 z] 23)).alloc (.cells #[.int .i64 a, .int .i64 b, .int .i64 c] 23) := ⟨_, rfl⟩
    have B1 : Below w.heap.size w W1 := by rw [hW1]; go_grown
    have k_v : Bk W1 (w.heap.size) 23 #[.int .i64 x, .int .i64 y, .int .i64 z] := by rw [hW1]; exact (Bk.new _ _ _).alloc _
    have k_u : Bk W1 (w.heap.size + 1) 23 #[.int .i64 a, .int .i64 b, .int .i64 c] := by rw [hW1]; exact Bk.new_at _ _ _ _ (by simp)
    rw [← hW1]
    clear hW1
    have l_u : w.heap.size < w.heap.size + 1 := by omega
    generalize w.heap.size + 1 = g_u at *
    have c_v_0 : ∀ p : BW W1, p.w.cell? ⟨w.heap.size, 0, none⟩ = some (.int .i64 x) := bw_cell (k_v.cell rfl)
    have c_v_1 : ∀ p : BW W1, p.w.cell? ⟨w.heap.size, 1, none⟩ = some (.int .i64 y) := bw_cell (k_v.cell rfl)
    have c_v_2 : ∀ p : BW W1, p.w.cell? ⟨w.heap.size, 2, none⟩ = some (.int .i64 z) := bw_cell (k_v.cell rfl)
    have c_u_0 : ∀ p : BW W1, p.w.cell? ⟨g_u, 0, none⟩ = some (.int .i64 a) := bw_cell (k_u.cell rfl)
    have c_u_1 : ∀ p : BW W1, p.w.cell? ⟨g_u, 1, none⟩ = some (.int .i64 b) := bw_cell (k_u.cell rfl)
    have c_u_2 : ∀ p : BW W1, p.w.cell? ⟨g_u, 2, none⟩ = some (.int .i64 c) := bw_cell (k_u.cell rfl)
    obtain ⟨p1, hp1⟩ : ∃ p : BW W1, p.w = W1 := ⟨BW.start W1, rfl⟩
    rw [← hp1]
    clear hp1
    go_wp2_with (first
      | (go_at_call 24; (first | (with_reducible refine (bw_call K1.out _).mono ?_) | (with_reducible refine (bw_call K2.out _).mono ?_)); rintro e w' ⟨rfl, q, rfl⟩)
      | (go_at_call 57; (first | (with_reducible refine (bw_call K.out _).mono ?_)); rintro e w' ⟨rfl, q, rfl⟩))
    go_ret
    exact ⟨rfl, bw_below B1 q⟩
  · have e : vdot x y z a b c = 0 := by unfold vdot; rw [if_neg h]
    rw [e]
    exact vec_Dot_no x y z a b c w h

end Go.Proofs.Ytnoaljfdbfbhmaa
