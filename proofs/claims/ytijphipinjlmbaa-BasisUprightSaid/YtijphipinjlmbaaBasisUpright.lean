/- The walk of the statement BasisUpright. -/
import Derived.Test.YtijphipinjlmbaaBasisLow
import Derived.Test.YtijphipinjlmbaaRefb06
import Derived.Test.YtijphipinjlmbaaMathb07
import Derived.Deep.DeepCutAuto
namespace Go.Proofs.Ytijphipinjlmbaa
open Go.RowKit Go.Proofs.Sky
set_option linter.unusedVariables false

theorem quarter7 {x : Int} (h : I64 x) : -2305843009213693952 ≤ x.tdiv 4 ∧ x.tdiv 4 ≤ 2305843009213693952 := by
  have e := Int.mul_tdiv_add_tmod x 4
  have a := Int.tmod_lt_of_pos x (show (0 : Int) < 4 by omega)
  have b := Int.lt_tmod_of_pos x (show (0 : Int) < 4 by omega)
  unfold I64 at h
  omega

set_option maxRecDepth 100000 in
set_option maxHeartbeats 8000000 in
theorem law_BasisUpright_yes (x y z X Y Z : Int) (w : World) (ix : I64 x) (iy : I64 y) (iz : I64 z) (hx : x.tdiv 4 = X) (hy : y.tdiv 4 = Y) (hz : z.tdiv 4 = Z) (h : wi 2305843009213693952 X Y Z = true) (h0 : wi 0 X Y Z = false) :
    Calls Try.prog 4 #[.agg #[.int .i64 x, .int .i64 y, .int .i64 z]] w fun r w' => r = .returned (.bool true) ∧ Below w.heap.size w w' := by
  have HA := Lib.hid (fun w => awake07 w)
  have hb := wi_iff.1 h
  have v1 : wrap64 X = X := by unfold wrap64; omega
  have v2 : wrap64 Y = Y := by unfold wrap64; omega
  have v3 : wrap64 Z = Z := by unfold wrap64; omega
  have hne : ¬ (X = 0 ∧ Y = 0 ∧ Z = 0) := by rw [wi_no] at h0; omega
  obtain ⟨ok, _⟩ := vuOk_of h h0
  have O1 := Lib.hid (fun w => basis_Of X Y Z w (by unfold I64; omega) (by unfold I64; omega) (by unfold I64; omega))
  have U1 := Lib.hid (fun w => ref6_Unit X Y Z w)
  have e : bas X Y Z = (bU (vunit X Y Z), bV (vunit X Y Z), vunit X Y Z) := by unfold bas; rw [ok]; rfl
  rw [ok, e] at O1
  rw [ok] at U1
  unfold bas9 at O1
  have hD : Dir (vunit X Y Z) := Dir.of ok
  generalize vunit X Y Z = N at *
  clear e ok h h0 hb ix iy iz
  have dU := bU_dir hD
  have dV := bV_dir hD
  have x1 := bV_dotU hD
  have x2 := bU_dot hD
  have x3 := bV_dotN hD
  generalize bU N = U at *
  generalize bV N = V at *
  obtain ⟨l1, l2⟩ := vlen_dir dU
  obtain ⟨l3, l4⟩ := vlen_dir dV
  have y1 := vdot_dir dU dV
  rw [dt_comm] at y1
  have y2 := vdot_dir dU hD
  have y3 := vdot_dir dV hD
  rw [← y1] at x1
  rw [← y2] at x2
  rw [← y3] at x3
  clear y1 y2 y3 dU dV hD
  obtain ⟨u1, u2, u3⟩ := U
  obtain ⟨w1, w2, w3⟩ := V
  obtain ⟨n1, n2, n3⟩ := N
  dsimp only at *
  have E1 := Lib.hid (fun w => ref6_Len u1 u2 u3 w)
  have E2 := Lib.hid (fun w => ref6_Len w1 w2 w3 w)
  have D1 := Lib.hid (fun w => ref6_Dot u1 u2 u3 w1 w2 w3 w)
  have D2 := Lib.hid (fun w => ref6_Dot u1 u2 u3 n1 n2 n3 w)
  have D3 := Lib.hid (fun w => ref6_Dot w1 w2 w3 n1 n2 n3 w)
  generalize vlen u1 u2 u3 = a at *
  generalize vlen w1 w2 w3 = b at *
  generalize vdot u1 u2 u3 w1 w2 w3 = c at *
  generalize vdot u1 u2 u3 n1 n2 n3 = d at *
  generalize vdot w1 w2 w3 n1 n2 n3 = e at *
  have t1 : decide (a < 16382) = false := decide_eq_false (by omega)
  have t2 : decide (16384 < a) = false := decide_eq_false (by omega)
  have t3 : decide (b < 16382) = false := decide_eq_false (by omega)
  have t4 : decide (16384 < b) = false := decide_eq_false (by omega)
  have L1 := Lib.hid (fun w => law7_low_in c 32768 w (by omega) (by omega))
  have L2 := Lib.hid (fun w => law7_low_in d 32768 w (by omega) (by omega))
  have L3 := Lib.hid (fun w => law7_low_in e 32768 w (by omega) (by omega))
  have hcase : (¬ X = 0) ∨ (X = 0 ∧ ¬ Y = 0) ∨ (X = 0 ∧ Y = 0 ∧ ¬ Z = 0) := by omega
  clear hne l1 l2 l3 l4 x1 x2 x3
  rcases hcase with hX | ⟨rfl, hY⟩ | ⟨rfl, rfl, hZ⟩
  · skip
    go_enter Try.func4, Try.ntmps4
    go_upto_region 2 with (fail)
    obtain ⟨W1, hW1⟩ : ∃ W, W = w.alloc (.cells #[.int .i64 X, .int .i64 Y, .int .i64 Z] 23) := ⟨_, rfl⟩
    have B1 : Below w.heap.size w W1 := by rw [hW1]; go_grown
    have k_n : Bk W1 (w.heap.size) 23 #[.int .i64 X, .int .i64 Y, .int .i64 Z] := by rw [hW1]; exact Bk.new _ _ _
    rw [← hW1]
    clear hW1
    have c_n_0 : ∀ p : BW W1, p.w.cell? ⟨w.heap.size, 0, none⟩ = some (.int .i64 X) := bw_cell (k_n.cell rfl)
    have c_n_1 : ∀ p : BW W1, p.w.cell? ⟨w.heap.size, 1, none⟩ = some (.int .i64 Y) := bw_cell (k_n.cell rfl)
    have c_n_2 : ∀ p : BW W1, p.w.cell? ⟨w.heap.size, 2, none⟩ = some (.int .i64 Z) := bw_cell (k_n.cell rfl)
    obtain ⟨p1, hp1⟩ : ∃ p : BW W1, p.w = W1 := ⟨BW.start W1, rfl⟩
    rw [← hp1]
    clear hp1
    go_upto_region 3 with (first
      | (go_at_call 6; (first | (with_reducible refine (bw_call O1.out _).mono ?_)); rintro e w' ⟨rfl, q, rfl⟩))
    obtain ⟨W2, hW2⟩ : ∃ W, W = q.w.alloc (.cells #[.int .i64 u1, .int .i64 u2, .int .i64 u3, .int .i64 w1, .int .i64 w2, .int .i64 w3, .int .i64 n1, .int .i64 n2, .int .i64 n3] 26) := ⟨_, rfl⟩
    have B2 : Below w.heap.size w W2 := by rw [hW2]; exact (bw_below B1 q).alloc (bw_below B1 q).size _
    have l_b : w.heap.size < q.w.heap.size := (k_n.below q.h).lt
    have k_n := (k_n.below q.h).alloc (.cells #[.int .i64 u1, .int .i64 u2, .int .i64 u3, .int .i64 w1, .int .i64 w2, .int .i64 w3, .int .i64 n1, .int .i64 n2, .int .i64 n3] 26)
    rw [← hW2] at k_n
    have k_b : Bk W2 q.w.heap.size 26 #[.int .i64 u1, .int .i64 u2, .int .i64 u3, .int .i64 w1, .int .i64 w2, .int .i64 w3, .int .i64 n1, .int .i64 n2, .int .i64 n3] := by rw [hW2]; exact Bk.new _ _ _
    rw [← hW2]
    clear hW2
    clear B1
    clear c_n_0 c_n_1 c_n_2
    generalize q.w.heap.size = g_b at *
    have c_n_0 : ∀ p : BW W2, p.w.cell? ⟨w.heap.size, 0, none⟩ = some (.int .i64 X) := bw_cell (k_n.cell rfl)
    have c_n_1 : ∀ p : BW W2, p.w.cell? ⟨w.heap.size, 1, none⟩ = some (.int .i64 Y) := bw_cell (k_n.cell rfl)
    have c_n_2 : ∀ p : BW W2, p.w.cell? ⟨w.heap.size, 2, none⟩ = some (.int .i64 Z) := bw_cell (k_n.cell rfl)
    have c_b_0 : ∀ p : BW W2, p.w.cell? ⟨g_b, 0, none⟩ = some (.int .i64 u1) := bw_cell (k_b.cell rfl)
    have c_b_1 : ∀ p : BW W2, p.w.cell? ⟨g_b, 1, none⟩ = some (.int .i64 u2) := bw_cell (k_b.cell rfl)
    have c_b_2 : ∀ p : BW W2, p.w.cell? ⟨g_b, 2, none⟩ = some (.int .i64 u3) := bw_cell (k_b.cell rfl)
    have c_b_3 : ∀ p : BW W2, p.w.cell? ⟨g_b, 3, none⟩ = some (.int .i64 w1) := bw_cell (k_b.cell rfl)
    have c_b_4 : ∀ p : BW W2, p.w.cell? ⟨g_b, 4, none⟩ = some (.int .i64 w2) := bw_cell (k_b.cell rfl)
    have c_b_5 : ∀ p : BW W2, p.w.cell? ⟨g_b, 5, none⟩ = some (.int .i64 w3) := bw_cell (k_b.cell rfl)
    have c_b_6 : ∀ p : BW W2, p.w.cell? ⟨g_b, 6, none⟩ = some (.int .i64 n1) := bw_cell (k_b.cell rfl)
    have c_b_7 : ∀ p : BW W2, p.w.cell? ⟨g_b, 7, none⟩ = some (.int .i64 n2) := bw_cell (k_b.cell rfl)
    have c_b_8 : ∀ p : BW W2, p.w.cell? ⟨g_b, 8, none⟩ = some (.int .i64 n3) := bw_cell (k_b.cell rfl)
    obtain ⟨p2, hp2⟩ : ∃ p : BW W2, p.w = W2 := ⟨BW.start W2, rfl⟩
    rw [← hp2]
    clear hp2
    go_upto_region 6 with (first
      | (go_at_call 18; (first | (with_reducible refine (bw_call U1.out _).mono ?_)); rintro e w' ⟨rfl, q, rfl⟩))
    obtain ⟨W3, hW3⟩ : ∃ W, W = q.w.alloc (.cells #[.int .i64 n1, .int .i64 n2, .int .i64 n3] 23) := ⟨_, rfl⟩
    have B3 : Below w.heap.size w W3 := by rw [hW3]; exact (bw_below B2 q).alloc (bw_below B2 q).size _
    have l_d : g_b < q.w.heap.size := (k_b.below q.h).lt
    have k_n := (k_n.below q.h).alloc (.cells #[.int .i64 n1, .int .i64 n2, .int .i64 n3] 23)
    rw [← hW3] at k_n
    have k_b := (k_b.below q.h).alloc (.cells #[.int .i64 n1, .int .i64 n2, .int .i64 n3] 23)
    rw [← hW3] at k_b
    have k_d : Bk W3 q.w.heap.size 23 #[.int .i64 n1, .int .i64 n2, .int .i64 n3] := by rw [hW3]; exact Bk.new _ _ _
    rw [← hW3]
    clear hW3
    clear B2
    clear c_n_0 c_n_1 c_n_2 c_b_0 c_b_1 c_b_2 c_b_3 c_b_4 c_b_5 c_b_6 c_b_7 c_b_8
    generalize q.w.heap.size = g_d at *
    have c_n_0 : ∀ p : BW W3, p.w.cell? ⟨w.heap.size, 0, none⟩ = some (.int .i64 X) := bw_cell (k_n.cell rfl)
    have c_n_1 : ∀ p : BW W3, p.w.cell? ⟨w.heap.size, 1, none⟩ = some (.int .i64 Y) := bw_cell (k_n.cell rfl)
    have c_n_2 : ∀ p : BW W3, p.w.cell? ⟨w.heap.size, 2, none⟩ = some (.int .i64 Z) := bw_cell (k_n.cell rfl)
    have c_b_0 : ∀ p : BW W3, p.w.cell? ⟨g_b, 0, none⟩ = some (.int .i64 u1) := bw_cell (k_b.cell rfl)
    have c_b_1 : ∀ p : BW W3, p.w.cell? ⟨g_b, 1, none⟩ = some (.int .i64 u2) := bw_cell (k_b.cell rfl)
    have c_b_2 : ∀ p : BW W3, p.w.cell? ⟨g_b, 2, none⟩ = some (.int .i64 u3) := bw_cell (k_b.cell rfl)
    have c_b_3 : ∀ p : BW W3, p.w.cell? ⟨g_b, 3, none⟩ = some (.int .i64 w1) := bw_cell (k_b.cell rfl)
    have c_b_4 : ∀ p : BW W3, p.w.cell? ⟨g_b, 4, none⟩ = some (.int .i64 w2) := bw_cell (k_b.cell rfl)
    have c_b_5 : ∀ p : BW W3, p.w.cell? ⟨g_b, 5, none⟩ = some (.int .i64 w3) := bw_cell (k_b.cell rfl)
    have c_b_6 : ∀ p : BW W3, p.w.cell? ⟨g_b, 6, none⟩ = some (.int .i64 n1) := bw_cell (k_b.cell rfl)
    have c_b_7 : ∀ p : BW W3, p.w.cell? ⟨g_b, 7, none⟩ = some (.int .i64 n2) := bw_cell (k_b.cell rfl)
    have c_b_8 : ∀ p : BW W3, p.w.cell? ⟨g_b, 8, none⟩ = some (.int .i64 n3) := bw_cell (k_b.cell rfl)
    have c_d_0 : ∀ p : BW W3, p.w.cell? ⟨g_d, 0, none⟩ = some (.int .i64 n1) := bw_cell (k_d.cell rfl)
    have c_d_1 : ∀ p : BW W3, p.w.cell? ⟨g_d, 1, none⟩ = some (.int .i64 n2) := bw_cell (k_d.cell rfl)
    have c_d_2 : ∀ p : BW W3, p.w.cell? ⟨g_d, 2, none⟩ = some (.int .i64 n3) := bw_cell (k_d.cell rfl)
    obtain ⟨p3, hp3⟩ : ∃ p : BW W3, p.w = W3 := ⟨BW.start W3, rfl⟩
    rw [← hp3]
    clear hp3
    go_wp2_with (first
      | (go_at_call 19; (first | (with_reducible refine (bw_call E1.out _).mono ?_) | (with_reducible refine (bw_call E2.out _).mono ?_)); rintro e w' ⟨rfl, q, rfl⟩)
      | (go_at_call 21; (first | (with_reducible refine (bw_call D1.out _).mono ?_) | (with_reducible refine (bw_call D2.out _).mono ?_) | (with_reducible refine (bw_call D3.out _).mono ?_)); rintro e w' ⟨rfl, q, rfl⟩)
      | (go_at_call 20; (first | (with_reducible refine (bw_call L1.out _).mono ?_) | (with_reducible refine (bw_call L2.out _).mono ?_) | (with_reducible refine (bw_call L3.out _).mono ?_)); rintro e w' ⟨rfl, q, rfl⟩)
      | (go_at_call 17; (first | (with_reducible refine (bw_call HA.out _).mono ?_)); rintro e w' ⟨rfl, q, rfl⟩))
    go_ret
    exact ⟨rfl, bw_below B3 _⟩
  · skip
    go_enter Try.func4, Try.ntmps4
    go_upto_region 2 with (fail)
    obtain ⟨W1, hW1⟩ : ∃ W, W = w.alloc (.cells #[.int .i64 0, .int .i64 Y, .int .i64 Z] 23) := ⟨_, rfl⟩
    have B1 : Below w.heap.size w W1 := by rw [hW1]; go_grown
    have k_n : Bk W1 (w.heap.size) 23 #[.int .i64 0, .int .i64 Y, .int .i64 Z] := by rw [hW1]; exact Bk.new _ _ _
    rw [← hW1]
    clear hW1
    have c_n_0 : ∀ p : BW W1, p.w.cell? ⟨w.heap.size, 0, none⟩ = some (.int .i64 0) := bw_cell (k_n.cell rfl)
    have c_n_1 : ∀ p : BW W1, p.w.cell? ⟨w.heap.size, 1, none⟩ = some (.int .i64 Y) := bw_cell (k_n.cell rfl)
    have c_n_2 : ∀ p : BW W1, p.w.cell? ⟨w.heap.size, 2, none⟩ = some (.int .i64 Z) := bw_cell (k_n.cell rfl)
    obtain ⟨p1, hp1⟩ : ∃ p : BW W1, p.w = W1 := ⟨BW.start W1, rfl⟩
    rw [← hp1]
    clear hp1
    go_upto_region 3 with (first
      | (go_at_call 6; (first | (with_reducible refine (bw_call O1.out _).mono ?_)); rintro e w' ⟨rfl, q, rfl⟩))
    obtain ⟨W2, hW2⟩ : ∃ W, W = q.w.alloc (.cells #[.int .i64 u1, .int .i64 u2, .int .i64 u3, .int .i64 w1, .int .i64 w2, .int .i64 w3, .int .i64 n1, .int .i64 n2, .int .i64 n3] 26) := ⟨_, rfl⟩
    have B2 : Below w.heap.size w W2 := by rw [hW2]; exact (bw_below B1 q).alloc (bw_below B1 q).size _
    have l_b : w.heap.size < q.w.heap.size := (k_n.below q.h).lt
    have k_n := (k_n.below q.h).alloc (.cells #[.int .i64 u1, .int .i64 u2, .int .i64 u3, .int .i64 w1, .int .i64 w2, .int .i64 w3, .int .i64 n1, .int .i64 n2, .int .i64 n3] 26)
    rw [← hW2] at k_n
    have k_b : Bk W2 q.w.heap.size 26 #[.int .i64 u1, .int .i64 u2, .int .i64 u3, .int .i64 w1, .int .i64 w2, .int .i64 w3, .int .i64 n1, .int .i64 n2, .int .i64 n3] := by rw [hW2]; exact Bk.new _ _ _
    rw [← hW2]
    clear hW2
    clear B1
    clear c_n_0 c_n_1 c_n_2
    generalize q.w.heap.size = g_b at *
    have c_n_0 : ∀ p : BW W2, p.w.cell? ⟨w.heap.size, 0, none⟩ = some (.int .i64 0) := bw_cell (k_n.cell rfl)
    have c_n_1 : ∀ p : BW W2, p.w.cell? ⟨w.heap.size, 1, none⟩ = some (.int .i64 Y) := bw_cell (k_n.cell rfl)
    have c_n_2 : ∀ p : BW W2, p.w.cell? ⟨w.heap.size, 2, none⟩ = some (.int .i64 Z) := bw_cell (k_n.cell rfl)
    have c_b_0 : ∀ p : BW W2, p.w.cell? ⟨g_b, 0, none⟩ = some (.int .i64 u1) := bw_cell (k_b.cell rfl)
    have c_b_1 : ∀ p : BW W2, p.w.cell? ⟨g_b, 1, none⟩ = some (.int .i64 u2) := bw_cell (k_b.cell rfl)
    have c_b_2 : ∀ p : BW W2, p.w.cell? ⟨g_b, 2, none⟩ = some (.int .i64 u3) := bw_cell (k_b.cell rfl)
    have c_b_3 : ∀ p : BW W2, p.w.cell? ⟨g_b, 3, none⟩ = some (.int .i64 w1) := bw_cell (k_b.cell rfl)
    have c_b_4 : ∀ p : BW W2, p.w.cell? ⟨g_b, 4, none⟩ = some (.int .i64 w2) := bw_cell (k_b.cell rfl)
    have c_b_5 : ∀ p : BW W2, p.w.cell? ⟨g_b, 5, none⟩ = some (.int .i64 w3) := bw_cell (k_b.cell rfl)
    have c_b_6 : ∀ p : BW W2, p.w.cell? ⟨g_b, 6, none⟩ = some (.int .i64 n1) := bw_cell (k_b.cell rfl)
    have c_b_7 : ∀ p : BW W2, p.w.cell? ⟨g_b, 7, none⟩ = some (.int .i64 n2) := bw_cell (k_b.cell rfl)
    have c_b_8 : ∀ p : BW W2, p.w.cell? ⟨g_b, 8, none⟩ = some (.int .i64 n3) := bw_cell (k_b.cell rfl)
    obtain ⟨p2, hp2⟩ : ∃ p : BW W2, p.w = W2 := ⟨BW.start W2, rfl⟩
    rw [← hp2]
    clear hp2
    go_upto_region 6 with (first
      | (go_at_call 18; (first | (with_reducible refine (bw_call U1.out _).mono ?_)); rintro e w' ⟨rfl, q, rfl⟩))
    obtain ⟨W3, hW3⟩ : ∃ W, W = q.w.alloc (.cells #[.int .i64 n1, .int .i64 n2, .int .i64 n3] 23) := ⟨_, rfl⟩
    have B3 : Below w.heap.size w W3 := by rw [hW3]; exact (bw_below B2 q).alloc (bw_below B2 q).size _
    have l_d : g_b < q.w.heap.size := (k_b.below q.h).lt
    have k_n := (k_n.below q.h).alloc (.cells #[.int .i64 n1, .int .i64 n2, .int .i64 n3] 23)
    rw [← hW3] at k_n
    have k_b := (k_b.below q.h).alloc (.cells #[.int .i64 n1, .int .i64 n2, .int .i64 n3] 23)
    rw [← hW3] at k_b
    have k_d : Bk W3 q.w.heap.size 23 #[.int .i64 n1, .int .i64 n2, .int .i64 n3] := by rw [hW3]; exact Bk.new _ _ _
    rw [← hW3]
    clear hW3
    clear B2
    clear c_n_0 c_n_1 c_n_2 c_b_0 c_b_1 c_b_2 c_b_3 c_b_4 c_b_5 c_b_6 c_b_7 c_b_8
    generalize q.w.heap.size = g_d at *
    have c_n_0 : ∀ p : BW W3, p.w.cell? ⟨w.heap.size, 0, none⟩ = some (.int .i64 0) := bw_cell (k_n.cell rfl)
    have c_n_1 : ∀ p : BW W3, p.w.cell? ⟨w.heap.size, 1, none⟩ = some (.int .i64 Y) := bw_cell (k_n.cell rfl)
    have c_n_2 : ∀ p : BW W3, p.w.cell? ⟨w.heap.size, 2, none⟩ = some (.int .i64 Z) := bw_cell (k_n.cell rfl)
    have c_b_0 : ∀ p : BW W3, p.w.cell? ⟨g_b, 0, none⟩ = some (.int .i64 u1) := bw_cell (k_b.cell rfl)
    have c_b_1 : ∀ p : BW W3, p.w.cell? ⟨g_b, 1, none⟩ = some (.int .i64 u2) := bw_cell (k_b.cell rfl)
    have c_b_2 : ∀ p : BW W3, p.w.cell? ⟨g_b, 2, none⟩ = some (.int .i64 u3) := bw_cell (k_b.cell rfl)
    have c_b_3 : ∀ p : BW W3, p.w.cell? ⟨g_b, 3, none⟩ = some (.int .i64 w1) := bw_cell (k_b.cell rfl)
    have c_b_4 : ∀ p : BW W3, p.w.cell? ⟨g_b, 4, none⟩ = some (.int .i64 w2) := bw_cell (k_b.cell rfl)
    have c_b_5 : ∀ p : BW W3, p.w.cell? ⟨g_b, 5, none⟩ = some (.int .i64 w3) := bw_cell (k_b.cell rfl)
    have c_b_6 : ∀ p : BW W3, p.w.cell? ⟨g_b, 6, none⟩ = some (.int .i64 n1) := bw_cell (k_b.cell rfl)
    have c_b_7 : ∀ p : BW W3, p.w.cell? ⟨g_b, 7, none⟩ = some (.int .i64 n2) := bw_cell (k_b.cell rfl)
    have c_b_8 : ∀ p : BW W3, p.w.cell? ⟨g_b, 8, none⟩ = some (.int .i64 n3) := bw_cell (k_b.cell rfl)
    have c_d_0 : ∀ p : BW W3, p.w.cell? ⟨g_d, 0, none⟩ = some (.int .i64 n1) := bw_cell (k_d.cell rfl)
    have c_d_1 : ∀ p : BW W3, p.w.cell? ⟨g_d, 1, none⟩ = some (.int .i64 n2) := bw_cell (k_d.cell rfl)
    have c_d_2 : ∀ p : BW W3, p.w.cell? ⟨g_d, 2, none⟩ = some (.int .i64 n3) := bw_cell (k_d.cell rfl)
    obtain ⟨p3, hp3⟩ : ∃ p : BW W3, p.w = W3 := ⟨BW.start W3, rfl⟩
    rw [← hp3]
    clear hp3
    go_wp2_with (first
      | (go_at_call 19; (first | (with_reducible refine (bw_call E1.out _).mono ?_) | (with_reducible refine (bw_call E2.out _).mono ?_)); rintro e w' ⟨rfl, q, rfl⟩)
      | (go_at_call 21; (first | (with_reducible refine (bw_call D1.out _).mono ?_) | (with_reducible refine (bw_call D2.out _).mono ?_) | (with_reducible refine (bw_call D3.out _).mono ?_)); rintro e w' ⟨rfl, q, rfl⟩)
      | (go_at_call 20; (first | (with_reducible refine (bw_call L1.out _).mono ?_) | (with_reducible refine (bw_call L2.out _).mono ?_) | (with_reducible refine (bw_call L3.out _).mono ?_)); rintro e w' ⟨rfl, q, rfl⟩)
      | (go_at_call 17; (first | (with_reducible refine (bw_call HA.out _).mono ?_)); rintro e w' ⟨rfl, q, rfl⟩))
    go_ret
    exact ⟨rfl, bw_below B3 _⟩
  · skip
    go_enter Try.func4, Try.ntmps4
    go_upto_region 2 with (fail)
    obtain ⟨W1, hW1⟩ : ∃ W, W = w.alloc (.cells #[.int .i64 0, .int .i64 0, .int .i64 Z] 23) := ⟨_, rfl⟩
    have B1 : Below w.heap.size w W1 := by rw [hW1]; go_grown
    have k_n : Bk W1 (w.heap.size) 23 #[.int .i64 0, .int .i64 0, .int .i64 Z] := by rw [hW1]; exact Bk.new _ _ _
    rw [← hW1]
    clear hW1
    have c_n_0 : ∀ p : BW W1, p.w.cell? ⟨w.heap.size, 0, none⟩ = some (.int .i64 0) := bw_cell (k_n.cell rfl)
    have c_n_1 : ∀ p : BW W1, p.w.cell? ⟨w.heap.size, 1, none⟩ = some (.int .i64 0) := bw_cell (k_n.cell rfl)
    have c_n_2 : ∀ p : BW W1, p.w.cell? ⟨w.heap.size, 2, none⟩ = some (.int .i64 Z) := bw_cell (k_n.cell rfl)
    obtain ⟨p1, hp1⟩ : ∃ p : BW W1, p.w = W1 := ⟨BW.start W1, rfl⟩
    rw [← hp1]
    clear hp1
    go_upto_region 3 with (first
      | (go_at_call 6; (first | (with_reducible refine (bw_call O1.out _).mono ?_)); rintro e w' ⟨rfl, q, rfl⟩))
    obtain ⟨W2, hW2⟩ : ∃ W, W = q.w.alloc (.cells #[.int .i64 u1, .int .i64 u2, .int .i64 u3, .int .i64 w1, .int .i64 w2, .int .i64 w3, .int .i64 n1, .int .i64 n2, .int .i64 n3] 26) := ⟨_, rfl⟩
    have B2 : Below w.heap.size w W2 := by rw [hW2]; exact (bw_below B1 q).alloc (bw_below B1 q).size _
    have l_b : w.heap.size < q.w.heap.size := (k_n.below q.h).lt
    have k_n := (k_n.below q.h).alloc (.cells #[.int .i64 u1, .int .i64 u2, .int .i64 u3, .int .i64 w1, .int .i64 w2, .int .i64 w3, .int .i64 n1, .int .i64 n2, .int .i64 n3] 26)
    rw [← hW2] at k_n
    have k_b : Bk W2 q.w.heap.size 26 #[.int .i64 u1, .int .i64 u2, .int .i64 u3, .int .i64 w1, .int .i64 w2, .int .i64 w3, .int .i64 n1, .int .i64 n2, .int .i64 n3] := by rw [hW2]; exact Bk.new _ _ _
    rw [← hW2]
    clear hW2
    clear B1
    clear c_n_0 c_n_1 c_n_2
    generalize q.w.heap.size = g_b at *
    have c_n_0 : ∀ p : BW W2, p.w.cell? ⟨w.heap.size, 0, none⟩ = some (.int .i64 0) := bw_cell (k_n.cell rfl)
    have c_n_1 : ∀ p : BW W2, p.w.cell? ⟨w.heap.size, 1, none⟩ = some (.int .i64 0) := bw_cell (k_n.cell rfl)
    have c_n_2 : ∀ p : BW W2, p.w.cell? ⟨w.heap.size, 2, none⟩ = some (.int .i64 Z) := bw_cell (k_n.cell rfl)
    have c_b_0 : ∀ p : BW W2, p.w.cell? ⟨g_b, 0, none⟩ = some (.int .i64 u1) := bw_cell (k_b.cell rfl)
    have c_b_1 : ∀ p : BW W2, p.w.cell? ⟨g_b, 1, none⟩ = some (.int .i64 u2) := bw_cell (k_b.cell rfl)
    have c_b_2 : ∀ p : BW W2, p.w.cell? ⟨g_b, 2, none⟩ = some (.int .i64 u3) := bw_cell (k_b.cell rfl)
    have c_b_3 : ∀ p : BW W2, p.w.cell? ⟨g_b, 3, none⟩ = some (.int .i64 w1) := bw_cell (k_b.cell rfl)
    have c_b_4 : ∀ p : BW W2, p.w.cell? ⟨g_b, 4, none⟩ = some (.int .i64 w2) := bw_cell (k_b.cell rfl)
    have c_b_5 : ∀ p : BW W2, p.w.cell? ⟨g_b, 5, none⟩ = some (.int .i64 w3) := bw_cell (k_b.cell rfl)
    have c_b_6 : ∀ p : BW W2, p.w.cell? ⟨g_b, 6, none⟩ = some (.int .i64 n1) := bw_cell (k_b.cell rfl)
    have c_b_7 : ∀ p : BW W2, p.w.cell? ⟨g_b, 7, none⟩ = some (.int .i64 n2) := bw_cell (k_b.cell rfl)
    have c_b_8 : ∀ p : BW W2, p.w.cell? ⟨g_b, 8, none⟩ = some (.int .i64 n3) := bw_cell (k_b.cell rfl)
    obtain ⟨p2, hp2⟩ : ∃ p : BW W2, p.w = W2 := ⟨BW.start W2, rfl⟩
    rw [← hp2]
    clear hp2
    go_upto_region 6 with (first
      | (go_at_call 18; (first | (with_reducible refine (bw_call U1.out _).mono ?_)); rintro e w' ⟨rfl, q, rfl⟩))
    obtain ⟨W3, hW3⟩ : ∃ W, W = q.w.alloc (.cells #[.int .i64 n1, .int .i64 n2, .int .i64 n3] 23) := ⟨_, rfl⟩
    have B3 : Below w.heap.size w W3 := by rw [hW3]; exact (bw_below B2 q).alloc (bw_below B2 q).size _
    have l_d : g_b < q.w.heap.size := (k_b.below q.h).lt
    have k_n := (k_n.below q.h).alloc (.cells #[.int .i64 n1, .int .i64 n2, .int .i64 n3] 23)
    rw [← hW3] at k_n
    have k_b := (k_b.below q.h).alloc (.cells #[.int .i64 n1, .int .i64 n2, .int .i64 n3] 23)
    rw [← hW3] at k_b
    have k_d : Bk W3 q.w.heap.size 23 #[.int .i64 n1, .int .i64 n2, .int .i64 n3] := by rw [hW3]; exact Bk.new _ _ _
    rw [← hW3]
    clear hW3
    clear B2
    clear c_n_0 c_n_1 c_n_2 c_b_0 c_b_1 c_b_2 c_b_3 c_b_4 c_b_5 c_b_6 c_b_7 c_b_8
    generalize q.w.heap.size = g_d at *
    have c_n_0 : ∀ p : BW W3, p.w.cell? ⟨w.heap.size, 0, none⟩ = some (.int .i64 0) := bw_cell (k_n.cell rfl)
    have c_n_1 : ∀ p : BW W3, p.w.cell? ⟨w.heap.size, 1, none⟩ = some (.int .i64 0) := bw_cell (k_n.cell rfl)
    have c_n_2 : ∀ p : BW W3, p.w.cell? ⟨w.heap.size, 2, none⟩ = some (.int .i64 Z) := bw_cell (k_n.cell rfl)
    have c_b_0 : ∀ p : BW W3, p.w.cell? ⟨g_b, 0, none⟩ = some (.int .i64 u1) := bw_cell (k_b.cell rfl)
    have c_b_1 : ∀ p : BW W3, p.w.cell? ⟨g_b, 1, none⟩ = some (.int .i64 u2) := bw_cell (k_b.cell rfl)
    have c_b_2 : ∀ p : BW W3, p.w.cell? ⟨g_b, 2, none⟩ = some (.int .i64 u3) := bw_cell (k_b.cell rfl)
    have c_b_3 : ∀ p : BW W3, p.w.cell? ⟨g_b, 3, none⟩ = some (.int .i64 w1) := bw_cell (k_b.cell rfl)
    have c_b_4 : ∀ p : BW W3, p.w.cell? ⟨g_b, 4, none⟩ = some (.int .i64 w2) := bw_cell (k_b.cell rfl)
    have c_b_5 : ∀ p : BW W3, p.w.cell? ⟨g_b, 5, none⟩ = some (.int .i64 w3) := bw_cell (k_b.cell rfl)
    have c_b_6 : ∀ p : BW W3, p.w.cell? ⟨g_b, 6, none⟩ = some (.int .i64 n1) := bw_cell (k_b.cell rfl)
    have c_b_7 : ∀ p : BW W3, p.w.cell? ⟨g_b, 7, none⟩ = some (.int .i64 n2) := bw_cell (k_b.cell rfl)
    have c_b_8 : ∀ p : BW W3, p.w.cell? ⟨g_b, 8, none⟩ = some (.int .i64 n3) := bw_cell (k_b.cell rfl)
    have c_d_0 : ∀ p : BW W3, p.w.cell? ⟨g_d, 0, none⟩ = some (.int .i64 n1) := bw_cell (k_d.cell rfl)
    have c_d_1 : ∀ p : BW W3, p.w.cell? ⟨g_d, 1, none⟩ = some (.int .i64 n2) := bw_cell (k_d.cell rfl)
    have c_d_2 : ∀ p : BW W3, p.w.cell? ⟨g_d, 2, none⟩ = some (.int .i64 n3) := bw_cell (k_d.cell rfl)
    obtain ⟨p3, hp3⟩ : ∃ p : BW W3, p.w = W3 := ⟨BW.start W3, rfl⟩
    rw [← hp3]
    clear hp3
    go_wp2_with (first
      | (go_at_call 19; (first | (with_reducible refine (bw_call E1.out _).mono ?_) | (with_reducible refine (bw_call E2.out _).mono ?_)); rintro e w' ⟨rfl, q, rfl⟩)
      | (go_at_call 21; (first | (with_reducible refine (bw_call D1.out _).mono ?_) | (with_reducible refine (bw_call D2.out _).mono ?_) | (with_reducible refine (bw_call D3.out _).mono ?_)); rintro e w' ⟨rfl, q, rfl⟩)
      | (go_at_call 20; (first | (with_reducible refine (bw_call L1.out _).mono ?_) | (with_reducible refine (bw_call L2.out _).mono ?_) | (with_reducible refine (bw_call L3.out _).mono ?_)); rintro e w' ⟨rfl, q, rfl⟩)
      | (go_at_call 17; (first | (with_reducible refine (bw_call HA.out _).mono ?_)); rintro e w' ⟨rfl, q, rfl⟩))
    go_ret
    exact ⟨rfl, bw_below B3 _⟩

set_option maxRecDepth 100000 in
set_option maxHeartbeats 8000000 in
theorem law_BasisUpright_zero (x y z : Int) (w : World) (hx : x.tdiv 4 = 0) (hy : y.tdiv 4 = 0) (hz : z.tdiv 4 = 0) :
    Calls Try.prog 4 #[.agg #[.int .i64 x, .int .i64 y, .int .i64 z]] w fun r w' => r = .returned (.bool true) ∧ Below w.heap.size w w' := by
  have HA := Lib.hid (fun w => awake07 w)
  have O0 : Hid (∀ w, Calls Try.prog 6 #[.agg #[.int .i64 0, .int .i64 0, .int .i64 0]] w fun e w' => e = .returned (.tuple #[.agg #[.int .i64 0, .int .i64 0, .int .i64 0, .int .i64 0, .int .i64 0, .int .i64 0, .int .i64 0, .int .i64 0, .int .i64 0], .bool false]) ∧ Below w.heap.size w w') := Lib.hid (fun w => by
    have h := basis_Of 0 0 0 w (by unfold I64; omega) (by unfold I64; omega) (by unfold I64; omega)
    rw [show bas 0 0 0 = ((0, 0, 0), (0, 0, 0), (0, 0, 0)) by decide +kernel, show vuOk 0 0 0 = false by decide +kernel] at h
    exact h)
  go_enter Try.func4, Try.ntmps4
  go_upto_region 2 with (fail)
  obtain ⟨W1, hW1⟩ : ∃ W, W = w.alloc (.cells #[.int .i64 0, .int .i64 0, .int .i64 0] 23) := ⟨_, rfl⟩
  have B1 : Below w.heap.size w W1 := by rw [hW1]; go_grown
  have k_n : Bk W1 (w.heap.size) 23 #[.int .i64 0, .int .i64 0, .int .i64 0] := by rw [hW1]; exact Bk.new _ _ _
  rw [← hW1]
  clear hW1
  have c_n_0 : ∀ p : BW W1, p.w.cell? ⟨w.heap.size, 0, none⟩ = some (.int .i64 0) := bw_cell (k_n.cell rfl)
  have c_n_1 : ∀ p : BW W1, p.w.cell? ⟨w.heap.size, 1, none⟩ = some (.int .i64 0) := bw_cell (k_n.cell rfl)
  have c_n_2 : ∀ p : BW W1, p.w.cell? ⟨w.heap.size, 2, none⟩ = some (.int .i64 0) := bw_cell (k_n.cell rfl)
  obtain ⟨p1, hp1⟩ : ∃ p : BW W1, p.w = W1 := ⟨BW.start W1, rfl⟩
  rw [← hp1]
  clear hp1
  go_upto_region 3 with (first
    | (go_at_call 6; (first | (with_reducible refine (bw_call O0.out _).mono ?_)); rintro e w' ⟨rfl, q, rfl⟩))
  obtain ⟨W2, hW2⟩ : ∃ W, W = q.w.alloc (.cells #[.int .i64 0, .int .i64 0, .int .i64 0, .int .i64 0, .int .i64 0, .int .i64 0, .int .i64 0, .int .i64 0, .int .i64 0] 26) := ⟨_, rfl⟩
  have B2 : Below w.heap.size w W2 := by rw [hW2]; exact (bw_below B1 q).alloc (bw_below B1 q).size _
  have l_b : w.heap.size < q.w.heap.size := (k_n.below q.h).lt
  have k_n := (k_n.below q.h).alloc (.cells #[.int .i64 0, .int .i64 0, .int .i64 0, .int .i64 0, .int .i64 0, .int .i64 0, .int .i64 0, .int .i64 0, .int .i64 0] 26)
  rw [← hW2] at k_n
  have k_b : Bk W2 q.w.heap.size 26 #[.int .i64 0, .int .i64 0, .int .i64 0, .int .i64 0, .int .i64 0, .int .i64 0, .int .i64 0, .int .i64 0, .int .i64 0] := by rw [hW2]; exact Bk.new _ _ _
  rw [← hW2]
  clear hW2
  clear B1
  clear c_n_0 c_n_1 c_n_2
  generalize q.w.heap.size = g_b at *
  have c_n_0 : ∀ p : BW W2, p.w.cell? ⟨w.heap.size, 0, none⟩ = some (.int .i64 0) := bw_cell (k_n.cell rfl)
  have c_n_1 : ∀ p : BW W2, p.w.cell? ⟨w.heap.size, 1, none⟩ = some (.int .i64 0) := bw_cell (k_n.cell rfl)
  have c_n_2 : ∀ p : BW W2, p.w.cell? ⟨w.heap.size, 2, none⟩ = some (.int .i64 0) := bw_cell (k_n.cell rfl)
  have c_b_0 : ∀ p : BW W2, p.w.cell? ⟨g_b, 0, none⟩ = some (.int .i64 0) := bw_cell (k_b.cell rfl)
  have c_b_1 : ∀ p : BW W2, p.w.cell? ⟨g_b, 1, none⟩ = some (.int .i64 0) := bw_cell (k_b.cell rfl)
  have c_b_2 : ∀ p : BW W2, p.w.cell? ⟨g_b, 2, none⟩ = some (.int .i64 0) := bw_cell (k_b.cell rfl)
  have c_b_3 : ∀ p : BW W2, p.w.cell? ⟨g_b, 3, none⟩ = some (.int .i64 0) := bw_cell (k_b.cell rfl)
  have c_b_4 : ∀ p : BW W2, p.w.cell? ⟨g_b, 4, none⟩ = some (.int .i64 0) := bw_cell (k_b.cell rfl)
  have c_b_5 : ∀ p : BW W2, p.w.cell? ⟨g_b, 5, none⟩ = some (.int .i64 0) := bw_cell (k_b.cell rfl)
  have c_b_6 : ∀ p : BW W2, p.w.cell? ⟨g_b, 6, none⟩ = some (.int .i64 0) := bw_cell (k_b.cell rfl)
  have c_b_7 : ∀ p : BW W2, p.w.cell? ⟨g_b, 7, none⟩ = some (.int .i64 0) := bw_cell (k_b.cell rfl)
  have c_b_8 : ∀ p : BW W2, p.w.cell? ⟨g_b, 8, none⟩ = some (.int .i64 0) := bw_cell (k_b.cell rfl)
  obtain ⟨p2, hp2⟩ : ∃ p : BW W2, p.w = W2 := ⟨BW.start W2, rfl⟩
  rw [← hp2]
  clear hp2
  go_wp2_with (first
    | (go_at_call 17; (first | (with_reducible refine (bw_call HA.out _).mono ?_)); rintro e w' ⟨rfl, q, rfl⟩))
  go_ret
  exact ⟨rfl, bw_below B2 _⟩

theorem law_BasisUpright (x y z : Int) (w : World) (ix : I64 x) (iy : I64 y) (iz : I64 z) :
    Calls Try.prog 4 #[.agg #[.int .i64 x, .int .i64 y, .int .i64 z]] w fun r w' => r = .returned (.bool true) ∧ Below w.heap.size w w' := by
  by_cases h : x.tdiv 4 = 0 ∧ y.tdiv 4 = 0 ∧ z.tdiv 4 = 0
  · exact law_BasisUpright_zero x y z w h.1 h.2.1 h.2.2
  · have a := quarter7 ix
    have b := quarter7 iy
    have c := quarter7 iz
    exact law_BasisUpright_yes x y z _ _ _ w ix iy iz rfl rfl rfl (by rw [wi_iff]; omega) (by rw [wi_no]; omega)

end Go.Proofs.Ytijphipinjlmbaa
