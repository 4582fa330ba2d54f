/- Contracts of package tri: the exported functions. -/
import Derived.Test.YtdmfmdekcojjbaaGreatTril11
import Derived.Test.YtdmfmdekcojjbaaGreatFrac01
import Derived.Test.YtdmfmdekcojjbaaGreatWide01
import Derived.Test.YtdmfmdekcojjbaaGreatNum01
import Derived.Test.YtdmfmdekcojjbaaGreatFloat
namespace Go.Proofs.YtdmfmdekcojjbaaGreat
open Go.RowKit Go.Proofs.Sky
set_option linter.unusedVariables false
set_option linter.unusedSimpArgs false

set_option maxRecDepth 100000 in
set_option maxHeartbeats 4000000 in
theorem tri_Flat_0 (a1 a2 a3 b1 b2 b3 c1 c2 c3 : Int) (w : World) (h : ¬ (uprT (a1, a2, a3) (b1, b2, b3) (c1, c2, c3)).1 = 0) :
    Calls Tryz.prog 129 #[.agg #[.int .i64 a1, .int .i64 a2, .int .i64 a3], .agg #[.int .i64 b1, .int .i64 b2, .int .i64 b3], .agg #[.int .i64 c1, .int .i64 c2, .int .i64 c3]] w fun en w' => en = .returned (.bool false) ∧ Below w.heap.size w w' := by
  have K := Lib.hid (fun w => tri_upright a1 a2 a3 b1 b2 b3 c1 c2 c3 w)
  generalize uprT (a1, a2, a3) (b1, b2, b3) (c1, c2, c3) = U at *
  obtain ⟨u1, u2, u3⟩ := U
  dsimp only at K h
  go_enter Tryz.func129, Tryz.ntmps129
  go_upto_region 1 with (fail)
  obtain ⟨W1, hW1⟩ : ∃ W, W = ((w.alloc (.cells #[.int .i64 a1, .int .i64 a2, .int .i64 a3] 23)).alloc (.cells #[.int .i64 b1, .int .i64 b2, .int .i64 b3] 23)).alloc (.cells #[.int .i64 c1, .int .i64 c2, .int .i64 c3] 23) := ⟨_, rfl⟩
  obtain ⟨k_a, k_b, k_c, B1⟩ := st3 hW1
  rw [← hW1]
  clear hW1
  have l_b : w.heap.size < w.heap.size + 1 := by omega
  have l_c : w.heap.size + 1 < w.heap.size + 1 + 1 := by omega
  generalize w.heap.size + 1 + 1 = g_c at *
  generalize w.heap.size + 1 = g_b at *
  obtain ⟨c_a_0, c_a_1, c_a_2⟩ := bwc3 (k_a)
  obtain ⟨c_b_0, c_b_1, c_b_2⟩ := bwc3 (k_b)
  obtain ⟨c_c_0, c_c_1, c_c_2⟩ := bwc3 (k_c)
  obtain ⟨p1, hp1⟩ : ∃ p : BW W1, p.w = W1 := ⟨BW.start W1, rfl⟩
  rw [← hp1]
  clear hp1
  go_wp2_with (first
    | (go_at_call 62; (first | (with_reducible refine (bw_call K.out _).mono ?_)); rintro e w' ⟨rfl, q, rfl⟩))
  go_ret
  exact ⟨rfl, bw_below B1 _⟩

set_option maxRecDepth 100000 in
set_option maxHeartbeats 4000000 in
theorem tri_Flat_1 (a1 a2 a3 b1 b2 b3 c1 c2 c3 : Int) (w : World) (h : (uprT (a1, a2, a3) (b1, b2, b3) (c1, c2, c3)).1 = 0 ∧ ¬ (uprT (a1, a2, a3) (b1, b2, b3) (c1, c2, c3)).2.1 = 0) :
    Calls Tryz.prog 129 #[.agg #[.int .i64 a1, .int .i64 a2, .int .i64 a3], .agg #[.int .i64 b1, .int .i64 b2, .int .i64 b3], .agg #[.int .i64 c1, .int .i64 c2, .int .i64 c3]] w fun en w' => en = .returned (.bool false) ∧ Below w.heap.size w w' := by
  have K := Lib.hid (fun w => tri_upright a1 a2 a3 b1 b2 b3 c1 c2 c3 w)
  generalize uprT (a1, a2, a3) (b1, b2, b3) (c1, c2, c3) = U at *
  obtain ⟨u1, u2, u3⟩ := U
  dsimp only at K h
  obtain ⟨rfl, h⟩ := h
  go_enter Tryz.func129, Tryz.ntmps129
  go_upto_region 1 with (fail)
  obtain ⟨W1, hW1⟩ : ∃ W, W = ((w.alloc (.cells #[.int .i64 a1, .int .i64 a2, .int .i64 a3] 23)).alloc (.cells #[.int .i64 b1, .int .i64 b2, .int .i64 b3] 23)).alloc (.cells #[.int .i64 c1, .int .i64 c2, .int .i64 c3] 23) := ⟨_, rfl⟩
  obtain ⟨k_a, k_b, k_c, B1⟩ := st3 hW1
  rw [← hW1]
  clear hW1
  have l_b : w.heap.size < w.heap.size + 1 := by omega
  have l_c : w.heap.size + 1 < w.heap.size + 1 + 1 := by omega
  generalize w.heap.size + 1 + 1 = g_c at *
  generalize w.heap.size + 1 = g_b at *
  obtain ⟨c_a_0, c_a_1, c_a_2⟩ := bwc3 (k_a)
  obtain ⟨c_b_0, c_b_1, c_b_2⟩ := bwc3 (k_b)
  obtain ⟨c_c_0, c_c_1, c_c_2⟩ := bwc3 (k_c)
  obtain ⟨p1, hp1⟩ : ∃ p : BW W1, p.w = W1 := ⟨BW.start W1, rfl⟩
  rw [← hp1]
  clear hp1
  go_wp2_with (first
    | (go_at_call 62; (first | (with_reducible refine (bw_call K.out _).mono ?_)); rintro e w' ⟨rfl, q, rfl⟩))
  go_ret
  exact ⟨rfl, bw_below B1 _⟩

set_option maxRecDepth 100000 in
set_option maxHeartbeats 4000000 in
theorem tri_Flat_2 (a1 a2 a3 b1 b2 b3 c1 c2 c3 : Int) (w : World) (h : (uprT (a1, a2, a3) (b1, b2, b3) (c1, c2, c3)).1 = 0 ∧ (uprT (a1, a2, a3) (b1, b2, b3) (c1, c2, c3)).2.1 = 0 ∧ ¬ (uprT (a1, a2, a3) (b1, b2, b3) (c1, c2, c3)).2.2 = 0) :
    Calls Tryz.prog 129 #[.agg #[.int .i64 a1, .int .i64 a2, .int .i64 a3], .agg #[.int .i64 b1, .int .i64 b2, .int .i64 b3], .agg #[.int .i64 c1, .int .i64 c2, .int .i64 c3]] w fun en w' => en = .returned (.bool false) ∧ Below w.heap.size w w' := by
  have K := Lib.hid (fun w => tri_upright a1 a2 a3 b1 b2 b3 c1 c2 c3 w)
  generalize uprT (a1, a2, a3) (b1, b2, b3) (c1, c2, c3) = U at *
  obtain ⟨u1, u2, u3⟩ := U
  dsimp only at K h
  obtain ⟨rfl, rfl, h⟩ := h
  go_enter Tryz.func129, Tryz.ntmps129
  go_upto_region 1 with (fail)
  obtain ⟨W1, hW1⟩ : ∃ W, W = ((w.alloc (.cells #[.int .i64 a1, .int .i64 a2, .int .i64 a3] 23)).alloc (.cells #[.int .i64 b1, .int .i64 b2, .int .i64 b3] 23)).alloc (.cells #[.int .i64 c1, .int .i64 c2, .int .i64 c3] 23) := ⟨_, rfl⟩
  obtain ⟨k_a, k_b, k_c, B1⟩ := st3 hW1
  rw [← hW1]
  clear hW1
  have l_b : w.heap.size < w.heap.size + 1 := by omega
  have l_c : w.heap.size + 1 < w.heap.size + 1 + 1 := by omega
  generalize w.heap.size + 1 + 1 = g_c at *
  generalize w.heap.size + 1 = g_b at *
  obtain ⟨c_a_0, c_a_1, c_a_2⟩ := bwc3 (k_a)
  obtain ⟨c_b_0, c_b_1, c_b_2⟩ := bwc3 (k_b)
  obtain ⟨c_c_0, c_c_1, c_c_2⟩ := bwc3 (k_c)
  obtain ⟨p1, hp1⟩ : ∃ p : BW W1, p.w = W1 := ⟨BW.start W1, rfl⟩
  rw [← hp1]
  clear hp1
  go_wp2_with (first
    | (go_at_call 62; (first | (with_reducible refine (bw_call K.out _).mono ?_)); rintro e w' ⟨rfl, q, rfl⟩))
  go_ret
  exact ⟨rfl, bw_below B1 _⟩

set_option maxRecDepth 100000 in
set_option maxHeartbeats 4000000 in
theorem tri_Flat_3 (a1 a2 a3 b1 b2 b3 c1 c2 c3 : Int) (w : World) (h : (uprT (a1, a2, a3) (b1, b2, b3) (c1, c2, c3)).1 = 0 ∧ (uprT (a1, a2, a3) (b1, b2, b3) (c1, c2, c3)).2.1 = 0 ∧ (uprT (a1, a2, a3) (b1, b2, b3) (c1, c2, c3)).2.2 = 0) :
    Calls Tryz.prog 129 #[.agg #[.int .i64 a1, .int .i64 a2, .int .i64 a3], .agg #[.int .i64 b1, .int .i64 b2, .int .i64 b3], .agg #[.int .i64 c1, .int .i64 c2, .int .i64 c3]] w fun en w' => en = .returned (.bool true) ∧ Below w.heap.size w w' := by
  have K := Lib.hid (fun w => tri_upright a1 a2 a3 b1 b2 b3 c1 c2 c3 w)
  generalize uprT (a1, a2, a3) (b1, b2, b3) (c1, c2, c3) = U at *
  obtain ⟨u1, u2, u3⟩ := U
  dsimp only at K h
  obtain ⟨rfl, rfl, rfl⟩ := h
  go_enter Tryz.func129, Tryz.ntmps129
  go_upto_region 1 with (fail)
  obtain ⟨W1, hW1⟩ : ∃ W, W = ((w.alloc (.cells #[.int .i64 a1, .int .i64 a2, .int .i64 a3] 23)).alloc (.cells #[.int .i64 b1, .int .i64 b2, .int .i64 b3] 23)).alloc (.cells #[.int .i64 c1, .int .i64 c2, .int .i64 c3] 23) := ⟨_, rfl⟩
  obtain ⟨k_a, k_b, k_c, B1⟩ := st3 hW1
  rw [← hW1]
  clear hW1
  have l_b : w.heap.size < w.heap.size + 1 := by omega
  have l_c : w.heap.size + 1 < w.heap.size + 1 + 1 := by omega
  generalize w.heap.size + 1 + 1 = g_c at *
  generalize w.heap.size + 1 = g_b at *
  obtain ⟨c_a_0, c_a_1, c_a_2⟩ := bwc3 (k_a)
  obtain ⟨c_b_0, c_b_1, c_b_2⟩ := bwc3 (k_b)
  obtain ⟨c_c_0, c_c_1, c_c_2⟩ := bwc3 (k_c)
  obtain ⟨p1, hp1⟩ : ∃ p : BW W1, p.w = W1 := ⟨BW.start W1, rfl⟩
  rw [← hp1]
  clear hp1
  go_wp2_with (first
    | (go_at_call 62; (first | (with_reducible refine (bw_call K.out _).mono ?_)); rintro e w' ⟨rfl, q, rfl⟩))
  go_ret
  exact ⟨rfl, bw_below B1 _⟩

theorem tri_Flat (a1 a2 a3 b1 b2 b3 c1 c2 c3 : Int) (w : World) (ha : I3 (a1, a2, a3)) (hb : I3 (b1, b2, b3)) (hc : I3 (c1, c2, c3)) :
    Calls Tryz.prog 129 #[.agg #[.int .i64 a1, .int .i64 a2, .int .i64 a3], .agg #[.int .i64 b1, .int .i64 b2, .int .i64 b3], .agg #[.int .i64 c1, .int .i64 c2, .int .i64 c3]] w fun en w' => en = .returned (.bool (tFlat (a1, a2, a3) (b1, b2, b3) (c1, c2, c3))) ∧ Below w.heap.size w w' := by
  rw [flat_upr]
  unfold isZ
  by_cases e1 : (uprT (a1, a2, a3) (b1, b2, b3) (c1, c2, c3)).1 = 0
  · by_cases e2 : (uprT (a1, a2, a3) (b1, b2, b3) (c1, c2, c3)).2.1 = 0
    · by_cases e3 : (uprT (a1, a2, a3) (b1, b2, b3) (c1, c2, c3)).2.2 = 0
      · rw [decide_eq_true ⟨e1, e2, e3⟩]; exact tri_Flat_3 a1 a2 a3 b1 b2 b3 c1 c2 c3 w ⟨e1, e2, e3⟩
      · rw [decide_eq_false (fun e => e3 e.2.2)]; exact tri_Flat_2 a1 a2 a3 b1 b2 b3 c1 c2 c3 w ⟨e1, e2, e3⟩
    · rw [decide_eq_false (fun e => e2 e.2.1)]; exact tri_Flat_1 a1 a2 a3 b1 b2 b3 c1 c2 c3 w ⟨e1, e2⟩
  · rw [decide_eq_false (fun e => e1 e.1)]; exact tri_Flat_0 a1 a2 a3 b1 b2 b3 c1 c2 c3 w e1

set_option maxRecDepth 100000 in
set_option maxHeartbeats 4000000 in
theorem tri_Normal (a1 a2 a3 b1 b2 b3 c1 c2 c3 : Int) (w : World) (ha : I3 (a1, a2, a3)) (hb : I3 (b1, b2, b3)) (hc : I3 (c1, c2, c3)) :
    Calls Tryz.prog 33 #[.agg #[.int .i64 a1, .int .i64 a2, .int .i64 a3], .agg #[.int .i64 b1, .int .i64 b2, .int .i64 b3], .agg #[.int .i64 c1, .int .i64 c2, .int .i64 c3]] w fun en w' => en = .returned (.tuple #[.agg #[.int .i64 ((tNorm (a1, a2, a3) (b1, b2, b3) (c1, c2, c3)).1).1, .int .i64 ((tNorm (a1, a2, a3) (b1, b2, b3) (c1, c2, c3)).1).2.1, .int .i64 ((tNorm (a1, a2, a3) (b1, b2, b3) (c1, c2, c3)).1).2.2], .bool (tNorm (a1, a2, a3) (b1, b2, b3) (c1, c2, c3)).2]) ∧ Below w.heap.size w w' := by
  have K := Lib.hid (fun w => tri_upright a1 a2 a3 b1 b2 b3 c1 c2 c3 w)
  rw [norm_upr]
  have hs := uprT_small (a1, a2, a3) (b1, b2, b3) (c1, c2, c3)
  generalize uprT (a1, a2, a3) (b1, b2, b3) (c1, c2, c3) = U at *
  obtain ⟨u1, u2, u3⟩ := U
  dsimp only at K hs ⊢
  have KU := Lib.hid (fun w => vec_Unit u1 u2 u3 w (by unfold I64; omega) (by unfold I64; omega) (by unfold I64; omega))
  unfold unT okT
  dsimp only
  generalize vunit u1 u2 u3 = X at *
  obtain ⟨r1, r2, r3⟩ := X
  dsimp only at KU ⊢
  generalize vuOk u1 u2 u3 = ok at *
  clear hs ha hb hc
  go_enter Tryz.func33, Tryz.ntmps33
  go_upto_region 1 with (fail)
  obtain ⟨W1, hW1⟩ : ∃ W, W = (((w.alloc (.cells #[.int .i64 a1, .int .i64 a2, .int .i64 a3] 23)).alloc (.cells #[.int .i64 b1, .int .i64 b2, .int .i64 b3] 23)).alloc (.cells #[.int .i64 c1, .int .i64 c2, .int .i64 c3] 23)).alloc (.cells #[.int .i64 0, .int .i64 0, .int .i64 0] 23) := ⟨_, rfl⟩
  obtain ⟨k_a, k_b, k_c, k_r, B1⟩ := st4 hW1
  rw [← hW1]
  clear hW1
  have l_b : w.heap.size < w.heap.size + 1 := by omega
  have l_c : w.heap.size + 1 < w.heap.size + 1 + 1 := by omega
  have l_r : w.heap.size + 1 + 1 < w.heap.size + 1 + 1 + 1 := by omega
  generalize w.heap.size + 1 + 1 + 1 = g_r at *
  generalize w.heap.size + 1 + 1 = g_c at *
  generalize w.heap.size + 1 = g_b at *
  obtain ⟨c_a_0, c_a_1, c_a_2⟩ := bwc3 (k_a)
  obtain ⟨c_b_0, c_b_1, c_b_2⟩ := bwc3 (k_b)
  obtain ⟨c_c_0, c_c_1, c_c_2⟩ := bwc3 (k_c)
  obtain ⟨c_r_0, c_r_1, c_r_2⟩ := bwc3 (k_r)
  obtain ⟨f_r_0, f_r_1, f_r_2⟩ := bwf3 (k_r)
  obtain ⟨p1, hp1⟩ : ∃ p : BW W1, p.w = W1 := ⟨BW.start W1, rfl⟩
  rw [← hp1]
  clear hp1
  go_wp2_with (first
    | (go_at_call 62; (first | (with_reducible refine (bw_call K.out _).mono ?_)); rintro e w' ⟨rfl, q, rfl⟩)
    | (go_at_call 61; (first | (with_reducible refine (bw_call KU.out _).mono ?_)); rintro e w' ⟨rfl, q, rfl⟩))
  have kr := bkp3 (k_r.below q.h) (.int .i64 r1) (.int .i64 r2) (.int .i64 r3)
  obtain ⟨rc0, rc1, rc2⟩ := rwc3 kr
  exact bodyPost_ret (v := .tuple #[.agg #[.int .i64 r1, .int .i64 r2, .int .i64 r3], .bool ok]) (by simp [results, Tryz.results33, go_sem, rc0, rc1, rc2]) rfl ⟨rfl, blp3 (bw_below B1 q) (by omega)⟩

set_option maxRecDepth 100000 in
set_option maxHeartbeats 4000000 in
theorem tri_Hit_no (a1 a2 a3 b1 b2 b3 c1 c2 c3 o1 o2 o3 d1 d2 d3 fr : Int) (w : World) (hp : (pl3 (a1, a2, a3) (b1, b2, b3) (c1, c2, c3) && plc (o1, o2, o3)) = false) :
    Calls Tryz.prog 22 #[.agg #[.int .i64 a1, .int .i64 a2, .int .i64 a3], .agg #[.int .i64 b1, .int .i64 b2, .int .i64 b3], .agg #[.int .i64 c1, .int .i64 c2, .int .i64 c3], .agg #[.int .i64 o1, .int .i64 o2, .int .i64 o3, .int .i64 d1, .int .i64 d2, .int .i64 d3, .int .i64 fr]] w fun en w' => en = .returned (.tuple #[.agg #[.int .i64 0, .int .i64 0], .bool false]) ∧ Below w.heap.size w w' := by
  go_enter Tryz.func22, Tryz.ntmps22
  go_upto_region 1 with (fail)
  obtain ⟨W1, hW1⟩ : ∃ W, W = ((((w.alloc (.cells #[.int .i64 a1, .int .i64 a2, .int .i64 a3] 23)).alloc (.cells #[.int .i64 b1, .int .i64 b2, .int .i64 b3] 23)).alloc (.cells #[.int .i64 c1, .int .i64 c2, .int .i64 c3] 23)).alloc (.cells #[.int .i64 o1, .int .i64 o2, .int .i64 o3, .int .i64 d1, .int .i64 d2, .int .i64 d3, .int .i64 fr] 27)).alloc (.cells #[.int .i64 0, .int .i64 0] 32) := ⟨_, rfl⟩
  obtain ⟨k_a, k_b, k_c, k_y, k_r, B1⟩ := st5 hW1
  rw [← hW1]
  clear hW1
  have l_b : w.heap.size < w.heap.size + 1 := by omega
  have l_c : w.heap.size + 1 < w.heap.size + 1 + 1 := by omega
  have l_y : w.heap.size + 1 + 1 < w.heap.size + 1 + 1 + 1 := by omega
  have l_r : w.heap.size + 1 + 1 + 1 < w.heap.size + 1 + 1 + 1 + 1 := by omega
  generalize w.heap.size + 1 + 1 + 1 + 1 = g_r at *
  generalize w.heap.size + 1 + 1 + 1 = g_y at *
  generalize w.heap.size + 1 + 1 = g_c at *
  generalize w.heap.size + 1 = g_b at *
  obtain ⟨c_a_0, c_a_1, c_a_2⟩ := bwc3 (k_a)
  obtain ⟨c_b_0, c_b_1, c_b_2⟩ := bwc3 (k_b)
  obtain ⟨c_c_0, c_c_1, c_c_2⟩ := bwc3 (k_c)
  obtain ⟨c_y_0, c_y_1, c_y_2, c_y_3, c_y_4, c_y_5, c_y_6⟩ := bwc7 (k_y)
  obtain ⟨c_r_0, c_r_1⟩ := bwc2 (k_r)
  obtain ⟨f_r_0, f_r_1⟩ := bwf2 (k_r)
  obtain ⟨p1, hp1⟩ : ∃ p : BW W1, p.w = W1 := ⟨BW.start W1, rfl⟩
  rw [← hp1]
  clear hp1
  have KC : ∀ p : BW W1, Calls Tryz.prog 42 #[.slice (some ⟨p.w.heap.size, 0, none⟩) 4 4] (p.w.alloc (.cells #[.int .i64 a1, .int .i64 a2, .int .i64 a3, .int .i64 b1, .int .i64 b2, .int .i64 b3, .int .i64 c1, .int .i64 c2, .int .i64 c3, .int .i64 o1, .int .i64 o2, .int .i64 o3] 23)) fun e w' => e = .returned (.bool false) ∧ ∃ q : BW W1, w' = q.w := fun p =>
    (tri_places4 4 a1 a2 a3 b1 b2 b3 c1 c2 c3 o1 o2 o3 W1 p.w _ rfl p.h).mono fun e w' h => ⟨by rw [hp] at h; exact h.1, ⟨w', h.2⟩, rfl⟩
  clear hp
  go_wp2_with (go_at_call 42; (with_reducible refine (KC _).mono ?_); rintro e w' ⟨rfl, q, rfl⟩)
  have kr := bkp2 (k_r.below q.h) (.int .i64 0) (.int .i64 0)
  obtain ⟨rc0, rc1⟩ := rwc2 kr
  exact bodyPost_ret (v := .tuple #[.agg #[.int .i64 0, .int .i64 0], .bool false]) (by simp [results, Tryz.results22, go_sem, rc0, rc1]) rfl ⟨rfl, blp2 (bw_below B1 q) (by omega)⟩

set_option maxRecDepth 100000 in
set_option maxHeartbeats 4000000 in
theorem tri_Hit_nok (a1 a2 a3 b1 b2 b3 c1 c2 c3 o1 o2 o3 d1 d2 d3 fr : Int) (w : World) (hp : (pl3 (a1, a2, a3) (b1, b2, b3) (c1, c2, c3) && plc (o1, o2, o3)) = true) (hk : fmakeOk (vvol (b1 - a1) (b2 - a2) (b3 - a3) (c1 - a1) (c2 - a2) (c3 - a3) (a1 - o1) (a2 - o2) (a3 - o3)) (vvol (b1 - a1) (b2 - a2) (b3 - a3) (c1 - a1) (c2 - a2) (c3 - a3) d1 d2 d3) = false) :
    Calls Tryz.prog 22 #[.agg #[.int .i64 a1, .int .i64 a2, .int .i64 a3], .agg #[.int .i64 b1, .int .i64 b2, .int .i64 b3], .agg #[.int .i64 c1, .int .i64 c2, .int .i64 c3], .agg #[.int .i64 o1, .int .i64 o2, .int .i64 o3, .int .i64 d1, .int .i64 d2, .int .i64 d3, .int .i64 fr]] w fun en w' => en = .returned (.tuple #[.agg #[.int .i64 0, .int .i64 0], .bool false]) ∧ Below w.heap.size w w' := by
  obtain ⟨h0, h4⟩ := Bool.and_eq_true_iff.1 hp
  obtain ⟨h1, h2, h3⟩ := pl3_iff.1 h0
  have q1 := plc_iff.1 h1
  dsimp only at q1
  have q2 := plc_iff.1 h2
  dsimp only at q2
  have q3 := plc_iff.1 h3
  dsimp only at q3
  have q4 := plc_iff.1 h4
  dsimp only at q4
  have vb := @vvol_61
  have i1 := vb (b1 - a1) (b2 - a2) (b3 - a3) (c1 - a1) (c2 - a2) (c3 - a3) (a1 - o1) (a2 - o2) (a3 - o3)
  have i2 := vb (b1 - a1) (b2 - a2) (b3 - a3) (c1 - a1) (c2 - a2) (c3 - a3) d1 d2 d3
  have KM := Lib.hid (fun w => frac_Make (vvol (b1 - a1) (b2 - a2) (b3 - a3) (c1 - a1) (c2 - a2) (c3 - a3) (a1 - o1) (a2 - o2) (a3 - o3)) (vvol (b1 - a1) (b2 - a2) (b3 - a3) (c1 - a1) (c2 - a2) (c3 - a3) d1 d2 d3) w (by unfold I64; omega) (by unfold I64; omega))
  rw [hk] at KM
  clear vb i1 i2
  have KU := Lib.hid (fun w => vec_Sub b1 b2 b3 a1 a2 a3 w (by unfold I64; omega) (by unfold I64; omega) (by unfold I64; omega) (by unfold I64; omega) (by unfold I64; omega) (by unfold I64; omega))
  rw [vsub_pl (x := b1) (a := a1) (by omega) (by omega), vsub_pl (x := b2) (a := a2) (by omega) (by omega), vsub_pl (x := b3) (a := a3) (by omega) (by omega)] at KU
  obtain ⟨u1, hu1⟩ : ∃ t, t = b1 - a1 := ⟨_, rfl⟩
  obtain ⟨u2, hu2⟩ : ∃ t, t = b2 - a2 := ⟨_, rfl⟩
  obtain ⟨u3, hu3⟩ : ∃ t, t = b3 - a3 := ⟨_, rfl⟩
  rw [← hu1, ← hu2, ← hu3] at KU
  have KV := Lib.hid (fun w => vec_Sub c1 c2 c3 a1 a2 a3 w (by unfold I64; omega) (by unfold I64; omega) (by unfold I64; omega) (by unfold I64; omega) (by unfold I64; omega) (by unfold I64; omega))
  rw [vsub_pl (x := c1) (a := a1) (by omega) (by omega), vsub_pl (x := c2) (a := a2) (by omega) (by omega), vsub_pl (x := c3) (a := a3) (by omega) (by omega)] at KV
  obtain ⟨v1, hv1⟩ : ∃ t, t = c1 - a1 := ⟨_, rfl⟩
  obtain ⟨v2, hv2⟩ : ∃ t, t = c2 - a2 := ⟨_, rfl⟩
  obtain ⟨v3, hv3⟩ : ∃ t, t = c3 - a3 := ⟨_, rfl⟩
  rw [← hv1, ← hv2, ← hv3] at KV
  have KT := Lib.hid (fun w => vec_Sub a1 a2 a3 o1 o2 o3 w (by unfold I64; omega) (by unfold I64; omega) (by unfold I64; omega) (by unfold I64; omega) (by unfold I64; omega) (by unfold I64; omega))
  rw [vsub_pl (x := a1) (a := o1) (by omega) (by omega), vsub_pl (x := a2) (a := o2) (by omega) (by omega), vsub_pl (x := a3) (a := o3) (by omega) (by omega)] at KT
  obtain ⟨t1, ht1⟩ : ∃ t, t = a1 - o1 := ⟨_, rfl⟩
  obtain ⟨t2, ht2⟩ : ∃ t, t = a2 - o2 := ⟨_, rfl⟩
  obtain ⟨t3, ht3⟩ : ∃ t, t = a3 - o3 := ⟨_, rfl⟩
  rw [← ht1, ← ht2, ← ht3] at KT
  rw [← hu1, ← hu2, ← hu3, ← hv1, ← hv2, ← hv3, ← ht1, ← ht2, ← ht3] at KM hk
  have KN := Lib.hid (fun w => vec_Volume u1 u2 u3 v1 v2 v3 t1 t2 t3 w)
  have KD := Lib.hid (fun w => vec_Volume u1 u2 u3 v1 v2 v3 d1 d2 d3 w)
  generalize vvol u1 u2 u3 v1 v2 v3 t1 t2 t3 = num at *
  generalize vvol u1 u2 u3 v1 v2 v3 d1 d2 d3 = den at *
  generalize fmake num den = X at *
  obtain ⟨f1, f2⟩ := X
  dsimp only at KM
  clear hk h0 h1 h2 h3 h4 q1 q2 q3 q4 hu1 hu2 hu3 hv1 hv2 hv3 ht1 ht2 ht3
  go_enter Tryz.func22, Tryz.ntmps22
  go_upto_region 1 with (fail)
  obtain ⟨W1, hW1⟩ : ∃ W, W = ((((w.alloc (.cells #[.int .i64 a1, .int .i64 a2, .int .i64 a3] 23)).alloc (.cells #[.int .i64 b1, .int .i64 b2, .int .i64 b3] 23)).alloc (.cells #[.int .i64 c1, .int .i64 c2, .int .i64 c3] 23)).alloc (.cells #[.int .i64 o1, .int .i64 o2, .int .i64 o3, .int .i64 d1, .int .i64 d2, .int .i64 d3, .int .i64 fr] 27)).alloc (.cells #[.int .i64 0, .int .i64 0] 32) := ⟨_, rfl⟩
  obtain ⟨k_a, k_b, k_c, k_y, k_r, B1⟩ := st5 hW1
  rw [← hW1]
  clear hW1
  have l_b : w.heap.size < w.heap.size + 1 := by omega
  have l_c : w.heap.size + 1 < w.heap.size + 1 + 1 := by omega
  have l_y : w.heap.size + 1 + 1 < w.heap.size + 1 + 1 + 1 := by omega
  have l_r : w.heap.size + 1 + 1 + 1 < w.heap.size + 1 + 1 + 1 + 1 := by omega
  generalize w.heap.size + 1 + 1 + 1 + 1 = g_r at *
  generalize w.heap.size + 1 + 1 + 1 = g_y at *
  generalize w.heap.size + 1 + 1 = g_c at *
  generalize w.heap.size + 1 = g_b at *
  obtain ⟨c_a_0, c_a_1, c_a_2⟩ := bwc3 (k_a)
  obtain ⟨c_b_0, c_b_1, c_b_2⟩ := bwc3 (k_b)
  obtain ⟨c_c_0, c_c_1, c_c_2⟩ := bwc3 (k_c)
  obtain ⟨c_y_0, c_y_1, c_y_2, c_y_3, c_y_4, c_y_5, c_y_6⟩ := bwc7 (k_y)
  obtain ⟨c_r_0, c_r_1⟩ := bwc2 (k_r)
  obtain ⟨f_r_0, f_r_1⟩ := bwf2 (k_r)
  obtain ⟨p1, hp1⟩ : ∃ p : BW W1, p.w = W1 := ⟨BW.start W1, rfl⟩
  rw [← hp1]
  clear hp1
  have KC : ∀ p : BW W1, Calls Tryz.prog 42 #[.slice (some ⟨p.w.heap.size, 0, none⟩) 4 4] (p.w.alloc (.cells #[.int .i64 a1, .int .i64 a2, .int .i64 a3, .int .i64 b1, .int .i64 b2, .int .i64 b3, .int .i64 c1, .int .i64 c2, .int .i64 c3, .int .i64 o1, .int .i64 o2, .int .i64 o3] 23)) fun e w' => e = .returned (.bool true) ∧ ∃ q : BW W1, w' = q.w := fun p =>
    (tri_places4 4 a1 a2 a3 b1 b2 b3 c1 c2 c3 o1 o2 o3 W1 p.w _ rfl p.h).mono fun e w' h => ⟨by rw [hp] at h; exact h.1, ⟨w', h.2⟩, rfl⟩
  clear hp
  go_upto_region 3 with (go_at_call 42; (with_reducible refine (KC _).mono ?_); rintro e w' ⟨rfl, q, rfl⟩)
  clear KC
  refine wp_region_floatL 13 72 [⟨10, 10, 23, #[.int .i64 0, .int .i64 0, .int .i64 0]⟩, ⟨11, 11, 23, #[.int .i64 0, .int .i64 0, .int .i64 0]⟩, ⟨12, 12, 23, #[.int .i64 0, .int .i64 0, .int .i64 0]⟩] (by kernel_rfl) (by kernel_rfl) (by kernel_rfl) (by kernel_rfl) (by kernel_rfl) (by decide) (by kernel_rfl) ?_ ?_
  · exact ⟨⟨_, rfl, fun ev wx => by simp [execOp, go_sem]⟩, ⟨_, rfl, fun ev wx => by simp [execOp, go_sem]⟩, ⟨_, rfl, fun ev wx => by simp [execOp, go_sem]⟩, trivial⟩
  apply Exists.intro
  refine ⟨?_, ?_⟩
  · intro wb' hwb'
    obtain ⟨d_a_0, d_a_1, d_a_2⟩ := bwc3 (k_a.below hwb')
    obtain ⟨d_b_0, d_b_1, d_b_2⟩ := bwc3 (k_b.below hwb')
    obtain ⟨d_c_0, d_c_1, d_c_2⟩ := bwc3 (k_c.below hwb')
    obtain ⟨d_y_0, d_y_1, d_y_2, d_y_3, d_y_4, d_y_5, d_y_6⟩ := bwc7 (k_y.below hwb')
    obtain ⟨d_r_0, d_r_1⟩ := bwc2 (k_r.below hwb')
    simp only [List.map_cons, List.map_nil, maskL, List.foldr_cons, List.foldr_nil, maskAt, List.take_succ_cons, List.take_zero]
    repeat (go_big_quiet_step (first
      | (go_at_call 26; (first | (with_reducible exact bw_call KU.out _) | (with_reducible exact bw_call KV.out _) | (with_reducible exact bw_call KT.out _)))))
    refine wpQuiet_nil ?_
    exact rfl
  intro W2 st hW hst hne
  obtain ⟨g_u, e_u, hg_u, k_u⟩ := hst 0 _ rfl
  obtain ⟨g_v, e_v, hg_v, k_v⟩ := hst 1 _ rfl
  obtain ⟨g_t, e_t, hg_t, k_t⟩ := hst 2 _ rfl
  have n_u_v : g_u ≠ g_v := fun e => hne 0 1 _ (by simp) (by simp) (by omega) e_u (by rw [e]; exact e_v)
  have n_u_t : g_u ≠ g_t := fun e => hne 0 2 _ (by simp) (by simp) (by omega) e_u (by rw [e]; exact e_t)
  have n_v_t : g_v ≠ g_t := fun e => hne 1 2 _ (by simp) (by simp) (by omega) e_v (by rw [e]; exact e_t)
  have B2 : Below w.heap.size w W2 := B1.trans (hW.mono B1.size)
  have l_u : g_r < g_u := Nat.lt_of_lt_of_le k_r.lt hg_u
  have l_v : g_r < g_v := Nat.lt_of_lt_of_le k_r.lt hg_v
  have l_t : g_r < g_t := Nat.lt_of_lt_of_le k_r.lt hg_t
  have k_a := k_a.below hW
  have k_b := k_b.below hW
  have k_c := k_c.below hW
  have k_y := k_y.below hW
  have k_r := k_r.below hW
  simp only [List.drop_succ_cons, List.drop_zero, putAll, Nat.zero_add, Nat.reduceAdd, e_u, e_v, e_t, putO, Act.put, List.setIfInBounds_toArray, List.set_cons_zero, List.set_cons_succ]
  clear hW hst hne B1 hg_u e_u hg_v e_v hg_t e_t
  clear c_a_0 c_a_1 c_a_2 c_b_0 c_b_1 c_b_2 c_c_0 c_c_1 c_c_2 c_y_0 c_y_1 c_y_2 c_y_3 c_y_4 c_y_5 c_y_6 c_r_0 c_r_1 f_r_0 f_r_1
  obtain ⟨c_a_0, c_a_1, c_a_2⟩ := bwc3 (k_a)
  obtain ⟨c_b_0, c_b_1, c_b_2⟩ := bwc3 (k_b)
  obtain ⟨c_c_0, c_c_1, c_c_2⟩ := bwc3 (k_c)
  obtain ⟨c_y_0, c_y_1, c_y_2, c_y_3, c_y_4, c_y_5, c_y_6⟩ := bwc7 (k_y)
  obtain ⟨c_r_0, c_r_1⟩ := bwc2 (k_r)
  obtain ⟨c_u_0, c_u_1, c_u_2⟩ := bwc3 (k_u)
  obtain ⟨f_u_0, f_u_1, f_u_2⟩ := bwf3 (k_u)
  obtain ⟨c_v_0, c_v_1, c_v_2⟩ := bwc3 (k_v)
  obtain ⟨f_v_0, f_v_1, f_v_2⟩ := bwf3 (k_v)
  obtain ⟨c_t_0, c_t_1, c_t_2⟩ := bwc3 (k_t)
  obtain ⟨f_t_0, f_t_1, f_t_2⟩ := bwf3 (k_t)
  obtain ⟨p2, hp2⟩ : ∃ p : BW W2, p.w = W2 := ⟨BW.start W2, rfl⟩
  rw [← hp2]
  clear hp2
  go_upto_region 4 with (fail)
  obtain ⟨W3, hW3⟩ : ∃ W, W = ((p2.w.setCell ⟨g_u, 0, none⟩ (.int .i64 u1)).setCell ⟨g_u, 1, none⟩ (.int .i64 u2)).setCell ⟨g_u, 2, none⟩ (.int .i64 u3) := ⟨_, rfl⟩
  have B3 : Below w.heap.size w W3 := by rw [hW3]; exact blp3 (bw_below B2 p2) (by omega)
  have k_a := bkoe3 hW3 (k_a.below p2.h) (by omega)
  have k_b := bkoe3 hW3 (k_b.below p2.h) (by omega)
  have k_c := bkoe3 hW3 (k_c.below p2.h) (by omega)
  have k_y := bkoe3 hW3 (k_y.below p2.h) (by omega)
  have k_r := bkoe3 hW3 (k_r.below p2.h) (by omega)
  have k_u := bkpe3 hW3 (k_u.below p2.h)
  have k_v := bkoe3 hW3 (k_v.below p2.h) (by omega)
  have k_t := bkoe3 hW3 (k_t.below p2.h) (by omega)
  rw [← hW3]
  clear hW3
  clear B2
  clear c_a_0 c_a_1 c_a_2 c_b_0 c_b_1 c_b_2 c_c_0 c_c_1 c_c_2 c_y_0 c_y_1 c_y_2 c_y_3 c_y_4 c_y_5 c_y_6 c_r_0 c_r_1 c_u_0 c_u_1 c_u_2 f_u_0 f_u_1 f_u_2 c_v_0 c_v_1 c_v_2 f_v_0 f_v_1 f_v_2 c_t_0 c_t_1 c_t_2 f_t_0 f_t_1 f_t_2
  obtain ⟨c_a_0, c_a_1, c_a_2⟩ := bwc3 (k_a)
  obtain ⟨c_b_0, c_b_1, c_b_2⟩ := bwc3 (k_b)
  obtain ⟨c_c_0, c_c_1, c_c_2⟩ := bwc3 (k_c)
  obtain ⟨c_y_0, c_y_1, c_y_2, c_y_3, c_y_4, c_y_5, c_y_6⟩ := bwc7 (k_y)
  obtain ⟨c_r_0, c_r_1⟩ := bwc2 (k_r)
  obtain ⟨c_u_0, c_u_1, c_u_2⟩ := bwc3 (k_u)
  obtain ⟨f_u_0, f_u_1, f_u_2⟩ := bwf3 (k_u)
  obtain ⟨c_v_0, c_v_1, c_v_2⟩ := bwc3 (k_v)
  obtain ⟨f_v_0, f_v_1, f_v_2⟩ := bwf3 (k_v)
  obtain ⟨c_t_0, c_t_1, c_t_2⟩ := bwc3 (k_t)
  obtain ⟨f_t_0, f_t_1, f_t_2⟩ := bwf3 (k_t)
  obtain ⟨p3, hp3⟩ : ∃ p : BW W3, p.w = W3 := ⟨BW.start W3, rfl⟩
  rw [← hp3]
  clear hp3
  obtain ⟨W4, hW4⟩ : ∃ W, W = ((p3.w.setCell ⟨g_v, 0, none⟩ (.int .i64 v1)).setCell ⟨g_v, 1, none⟩ (.int .i64 v2)).setCell ⟨g_v, 2, none⟩ (.int .i64 v3) := ⟨_, rfl⟩
  have B4 : Below w.heap.size w W4 := by rw [hW4]; exact blp3 (bw_below B3 p3) (by omega)
  have k_a := bkoe3 hW4 (k_a.below p3.h) (by omega)
  have k_b := bkoe3 hW4 (k_b.below p3.h) (by omega)
  have k_c := bkoe3 hW4 (k_c.below p3.h) (by omega)
  have k_y := bkoe3 hW4 (k_y.below p3.h) (by omega)
  have k_r := bkoe3 hW4 (k_r.below p3.h) (by omega)
  have k_u := bkoe3 hW4 (k_u.below p3.h) (by omega)
  have k_v := bkpe3 hW4 (k_v.below p3.h)
  have k_t := bkoe3 hW4 (k_t.below p3.h) (by omega)
  rw [← hW4]
  clear hW4
  clear B3
  clear c_a_0 c_a_1 c_a_2 c_b_0 c_b_1 c_b_2 c_c_0 c_c_1 c_c_2 c_y_0 c_y_1 c_y_2 c_y_3 c_y_4 c_y_5 c_y_6 c_r_0 c_r_1 c_u_0 c_u_1 c_u_2 f_u_0 f_u_1 f_u_2 c_v_0 c_v_1 c_v_2 f_v_0 f_v_1 f_v_2 c_t_0 c_t_1 c_t_2 f_t_0 f_t_1 f_t_2
  obtain ⟨c_a_0, c_a_1, c_a_2⟩ := bwc3 (k_a)
  obtain ⟨c_b_0, c_b_1, c_b_2⟩ := bwc3 (k_b)
  obtain ⟨c_c_0, c_c_1, c_c_2⟩ := bwc3 (k_c)
  obtain ⟨c_y_0, c_y_1, c_y_2, c_y_3, c_y_4, c_y_5, c_y_6⟩ := bwc7 (k_y)
  obtain ⟨c_r_0, c_r_1⟩ := bwc2 (k_r)
  obtain ⟨c_u_0, c_u_1, c_u_2⟩ := bwc3 (k_u)
  obtain ⟨f_u_0, f_u_1, f_u_2⟩ := bwf3 (k_u)
  obtain ⟨c_v_0, c_v_1, c_v_2⟩ := bwc3 (k_v)
  obtain ⟨f_v_0, f_v_1, f_v_2⟩ := bwf3 (k_v)
  obtain ⟨c_t_0, c_t_1, c_t_2⟩ := bwc3 (k_t)
  obtain ⟨f_t_0, f_t_1, f_t_2⟩ := bwf3 (k_t)
  obtain ⟨p4, hp4⟩ : ∃ p : BW W4, p.w = W4 := ⟨BW.start W4, rfl⟩
  rw [← hp4]
  clear hp4
  obtain ⟨W5, hW5⟩ : ∃ W, W = ((p4.w.setCell ⟨g_t, 0, none⟩ (.int .i64 t1)).setCell ⟨g_t, 1, none⟩ (.int .i64 t2)).setCell ⟨g_t, 2, none⟩ (.int .i64 t3) := ⟨_, rfl⟩
  have B5 : Below w.heap.size w W5 := by rw [hW5]; exact blp3 (bw_below B4 p4) (by omega)
  have k_a := bkoe3 hW5 (k_a.below p4.h) (by omega)
  have k_b := bkoe3 hW5 (k_b.below p4.h) (by omega)
  have k_c := bkoe3 hW5 (k_c.below p4.h) (by omega)
  have k_y := bkoe3 hW5 (k_y.below p4.h) (by omega)
  have k_r := bkoe3 hW5 (k_r.below p4.h) (by omega)
  have k_u := bkoe3 hW5 (k_u.below p4.h) (by omega)
  have k_v := bkoe3 hW5 (k_v.below p4.h) (by omega)
  have k_t := bkpe3 hW5 (k_t.below p4.h)
  rw [← hW5]
  clear hW5
  clear B4
  clear c_a_0 c_a_1 c_a_2 c_b_0 c_b_1 c_b_2 c_c_0 c_c_1 c_c_2 c_y_0 c_y_1 c_y_2 c_y_3 c_y_4 c_y_5 c_y_6 c_r_0 c_r_1 c_u_0 c_u_1 c_u_2 f_u_0 f_u_1 f_u_2 c_v_0 c_v_1 c_v_2 f_v_0 f_v_1 f_v_2 c_t_0 c_t_1 c_t_2 f_t_0 f_t_1 f_t_2
  obtain ⟨c_a_0, c_a_1, c_a_2⟩ := bwc3 (k_a)
  obtain ⟨c_b_0, c_b_1, c_b_2⟩ := bwc3 (k_b)
  obtain ⟨c_c_0, c_c_1, c_c_2⟩ := bwc3 (k_c)
  obtain ⟨c_y_0, c_y_1, c_y_2, c_y_3, c_y_4, c_y_5, c_y_6⟩ := bwc7 (k_y)
  obtain ⟨c_r_0, c_r_1⟩ := bwc2 (k_r)
  obtain ⟨c_u_0, c_u_1, c_u_2⟩ := bwc3 (k_u)
  obtain ⟨c_v_0, c_v_1, c_v_2⟩ := bwc3 (k_v)
  obtain ⟨c_t_0, c_t_1, c_t_2⟩ := bwc3 (k_t)
  obtain ⟨p5, hp5⟩ : ∃ p : BW W5, p.w = W5 := ⟨BW.start W5, rfl⟩
  rw [← hp5]
  clear hp5
  refine wp_region_late 12 14 46 (by kernel_rfl) (by kernel_rfl) rfl rfl rfl (fun _ _ _ _ h => h) ?_
  refine any_region_float (t := 32) (zs := #[.int .i64 0, .int .i64 0]) 14 13 13 72 (by kernel_rfl) (by kernel_rfl) (by kernel_rfl) (by kernel_rfl) rfl ?_ ?_
  · intro ev wx
    simp [execOp, go_sem]
  apply Exists.intro
  refine ⟨?_, ?_⟩
  · intro wb' hwb'
    obtain ⟨d_a_0, d_a_1, d_a_2⟩ := bwc3 (k_a.below hwb')
    obtain ⟨d_b_0, d_b_1, d_b_2⟩ := bwc3 (k_b.below hwb')
    obtain ⟨d_c_0, d_c_1, d_c_2⟩ := bwc3 (k_c.below hwb')
    obtain ⟨d_y_0, d_y_1, d_y_2, d_y_3, d_y_4, d_y_5, d_y_6⟩ := bwc7 (k_y.below hwb')
    obtain ⟨d_r_0, d_r_1⟩ := bwc2 (k_r.below hwb')
    obtain ⟨d_u_0, d_u_1, d_u_2⟩ := bwc3 (k_u.below hwb')
    obtain ⟨d_v_0, d_v_1, d_v_2⟩ := bwc3 (k_v.below hwb')
    obtain ⟨d_t_0, d_t_1, d_t_2⟩ := bwc3 (k_t.below hwb')
    simp only [edgeAt, maskAt, List.take_succ_cons, List.take_zero]
    repeat (go_big_quiet_step (first
      | (go_at_call 44; (first | (with_reducible exact bw_call KN.out _) | (with_reducible exact bw_call KD.out _)))
      | (go_at_call 43; (first | (with_reducible exact bw_call KM.out _)))))
    refine wpQuiet_nil ?_
    exact rfl
  intro W6 g_f hW hg k_f
  have B6 : Below w.heap.size w W6 := B5.trans (hW.mono B5.size)
  have o_f : w.heap.size ≤ g_f := Nat.le_trans B5.size hg
  have l_f : g_t < g_f := Nat.lt_of_lt_of_le k_t.lt hg
  have l_f_u : g_u < g_f := Nat.lt_of_lt_of_le k_u.lt hg
  have l_f_v : g_v < g_f := Nat.lt_of_lt_of_le k_v.lt hg
  have k_a := k_a.below hW
  have k_b := k_b.below hW
  have k_c := k_c.below hW
  have k_y := k_y.below hW
  have k_r := k_r.below hW
  have k_u := k_u.below hW
  have k_v := k_v.below hW
  have k_t := k_t.below hW
  clear hW hg B5
  clear c_a_0 c_a_1 c_a_2 c_b_0 c_b_1 c_b_2 c_c_0 c_c_1 c_c_2 c_y_0 c_y_1 c_y_2 c_y_3 c_y_4 c_y_5 c_y_6 c_r_0 c_r_1 c_u_0 c_u_1 c_u_2 c_v_0 c_v_1 c_v_2 c_t_0 c_t_1 c_t_2
  simp only [edgeAt, List.drop_succ_cons, List.drop_zero, Act.put, List.setIfInBounds_toArray, List.set_cons_zero, List.set_cons_succ]
  obtain ⟨c_a_0, c_a_1, c_a_2⟩ := bwc3 (k_a)
  obtain ⟨c_b_0, c_b_1, c_b_2⟩ := bwc3 (k_b)
  obtain ⟨c_c_0, c_c_1, c_c_2⟩ := bwc3 (k_c)
  obtain ⟨c_y_0, c_y_1, c_y_2, c_y_3, c_y_4, c_y_5, c_y_6⟩ := bwc7 (k_y)
  obtain ⟨c_r_0, c_r_1⟩ := bwc2 (k_r)
  obtain ⟨c_u_0, c_u_1, c_u_2⟩ := bwc3 (k_u)
  obtain ⟨c_v_0, c_v_1, c_v_2⟩ := bwc3 (k_v)
  obtain ⟨c_t_0, c_t_1, c_t_2⟩ := bwc3 (k_t)
  obtain ⟨c_f_0, c_f_1⟩ := bwc2 (k_f)
  obtain ⟨f_f_0, f_f_1⟩ := bwf2 (k_f)
  obtain ⟨p6, hp6⟩ : ∃ p : BW W6, p.w = W6 := ⟨BW.start W6, rfl⟩
  rw [← hp6]
  clear hp6
  go_upto_region 5 with (fail)
  obtain ⟨W7, hW7⟩ : ∃ W, W = (p6.w.setCell ⟨g_f, 0, none⟩ (.int .i64 f1)).setCell ⟨g_f, 1, none⟩ (.int .i64 f2) := ⟨_, rfl⟩
  have B7 : Below w.heap.size w W7 := by rw [hW7]; exact blp2 (bw_below B6 p6) (by omega)
  have k_a := bkoe2 hW7 (k_a.below p6.h) (by omega)
  have k_b := bkoe2 hW7 (k_b.below p6.h) (by omega)
  have k_c := bkoe2 hW7 (k_c.below p6.h) (by omega)
  have k_y := bkoe2 hW7 (k_y.below p6.h) (by omega)
  have k_r := bkoe2 hW7 (k_r.below p6.h) (by omega)
  have k_u := bkoe2 hW7 (k_u.below p6.h) (by omega)
  have k_v := bkoe2 hW7 (k_v.below p6.h) (by omega)
  have k_t := bkoe2 hW7 (k_t.below p6.h) (by omega)
  have k_f := bkpe2 hW7 (k_f.below p6.h)
  rw [← hW7]
  clear hW7
  clear B6
  clear c_a_0 c_a_1 c_a_2 c_b_0 c_b_1 c_b_2 c_c_0 c_c_1 c_c_2 c_y_0 c_y_1 c_y_2 c_y_3 c_y_4 c_y_5 c_y_6 c_r_0 c_r_1 c_u_0 c_u_1 c_u_2 c_v_0 c_v_1 c_v_2 c_t_0 c_t_1 c_t_2 c_f_0 c_f_1 f_f_0 f_f_1
  obtain ⟨c_a_0, c_a_1, c_a_2⟩ := bwc3 (k_a)
  obtain ⟨c_b_0, c_b_1, c_b_2⟩ := bwc3 (k_b)
  obtain ⟨c_c_0, c_c_1, c_c_2⟩ := bwc3 (k_c)
  obtain ⟨c_y_0, c_y_1, c_y_2, c_y_3, c_y_4, c_y_5, c_y_6⟩ := bwc7 (k_y)
  obtain ⟨c_r_0, c_r_1⟩ := bwc2 (k_r)
  obtain ⟨f_r_0, f_r_1⟩ := bwf2 (k_r)
  obtain ⟨c_u_0, c_u_1, c_u_2⟩ := bwc3 (k_u)
  obtain ⟨c_v_0, c_v_1, c_v_2⟩ := bwc3 (k_v)
  obtain ⟨c_t_0, c_t_1, c_t_2⟩ := bwc3 (k_t)
  obtain ⟨c_f_0, c_f_1⟩ := bwc2 (k_f)
  obtain ⟨p7, hp7⟩ : ∃ p : BW W7, p.w = W7 := ⟨BW.start W7, rfl⟩
  rw [← hp7]
  clear hp7
  refine wp_region_bw (by kernel_rfl) (by kernel_rfl) ?_
  repeat (go_big_quiet_step (first
    | fail))
  refine wpQuiet_nil ?_
  intro _ hw'
  obtain ⟨q, rfl⟩ := hw'
  go_wp2
  have kr := bkp2 (k_r.below q.h) (.int .i64 0) (.int .i64 0)
  obtain ⟨rc0, rc1⟩ := rwc2 kr
  exact bodyPost_ret (v := .tuple #[.agg #[.int .i64 0, .int .i64 0], .bool false]) (by simp [results, Tryz.results22, go_sem, rc0, rc1]) rfl ⟨rfl, blp2 (bw_below B7 q) (by omega)⟩

set_option maxRecDepth 100000 in
set_option maxHeartbeats 4000000 in
theorem tri_Hit_neg (a1 a2 a3 b1 b2 b3 c1 c2 c3 o1 o2 o3 d1 d2 d3 fr : Int) (w : World) (hp : (pl3 (a1, a2, a3) (b1, b2, b3) (c1, c2, c3) && plc (o1, o2, o3)) = true) (hk : fmakeOk (vvol (b1 - a1) (b2 - a2) (b3 - a3) (c1 - a1) (c2 - a2) (c3 - a3) (a1 - o1) (a2 - o2) (a3 - o3)) (vvol (b1 - a1) (b2 - a2) (b3 - a3) (c1 - a1) (c2 - a2) (c3 - a3) d1 d2 d3) = true) (hg : decide ((fmake (vvol (b1 - a1) (b2 - a2) (b3 - a3) (c1 - a1) (c2 - a2) (c3 - a3) (a1 - o1) (a2 - o2) (a3 - o3)) (vvol (b1 - a1) (b2 - a2) (b3 - a3) (c1 - a1) (c2 - a2) (c3 - a3) d1 d2 d3)).1 ≤ 0) = true) :
    Calls Tryz.prog 22 #[.agg #[.int .i64 a1, .int .i64 a2, .int .i64 a3], .agg #[.int .i64 b1, .int .i64 b2, .int .i64 b3], .agg #[.int .i64 c1, .int .i64 c2, .int .i64 c3], .agg #[.int .i64 o1, .int .i64 o2, .int .i64 o3, .int .i64 d1, .int .i64 d2, .int .i64 d3, .int .i64 fr]] w fun en w' => en = .returned (.tuple #[.agg #[.int .i64 0, .int .i64 0], .bool false]) ∧ Below w.heap.size w w' := by
  obtain ⟨h0, h4⟩ := Bool.and_eq_true_iff.1 hp
  obtain ⟨h1, h2, h3⟩ := pl3_iff.1 h0
  have q1 := plc_iff.1 h1
  dsimp only at q1
  have q2 := plc_iff.1 h2
  dsimp only at q2
  have q3 := plc_iff.1 h3
  dsimp only at q3
  have q4 := plc_iff.1 h4
  dsimp only at q4
  have vb := @vvol_61
  have i1 := vb (b1 - a1) (b2 - a2) (b3 - a3) (c1 - a1) (c2 - a2) (c3 - a3) (a1 - o1) (a2 - o2) (a3 - o3)
  have i2 := vb (b1 - a1) (b2 - a2) (b3 - a3) (c1 - a1) (c2 - a2) (c3 - a3) d1 d2 d3
  have KM := Lib.hid (fun w => frac_Make (vvol (b1 - a1) (b2 - a2) (b3 - a3) (c1 - a1) (c2 - a2) (c3 - a3) (a1 - o1) (a2 - o2) (a3 - o3)) (vvol (b1 - a1) (b2 - a2) (b3 - a3) (c1 - a1) (c2 - a2) (c3 - a3) d1 d2 d3) w (by unfold I64; omega) (by unfold I64; omega))
  rw [hk] at KM
  clear vb i1 i2
  have KU := Lib.hid (fun w => vec_Sub b1 b2 b3 a1 a2 a3 w (by unfold I64; omega) (by unfold I64; omega) (by unfold I64; omega) (by unfold I64; omega) (by unfold I64; omega) (by unfold I64; omega))
  rw [vsub_pl (x := b1) (a := a1) (by omega) (by omega), vsub_pl (x := b2) (a := a2) (by omega) (by omega), vsub_pl (x := b3) (a := a3) (by omega) (by omega)] at KU
  obtain ⟨u1, hu1⟩ : ∃ t, t = b1 - a1 := ⟨_, rfl⟩
  obtain ⟨u2, hu2⟩ : ∃ t, t = b2 - a2 := ⟨_, rfl⟩
  obtain ⟨u3, hu3⟩ : ∃ t, t = b3 - a3 := ⟨_, rfl⟩
  rw [← hu1, ← hu2, ← hu3] at KU
  have KV := Lib.hid (fun w => vec_Sub c1 c2 c3 a1 a2 a3 w (by unfold I64; omega) (by unfold I64; omega) (by unfold I64; omega) (by unfold I64; omega) (by unfold I64; omega) (by unfold I64; omega))
  rw [vsub_pl (x := c1) (a := a1) (by omega) (by omega), vsub_pl (x := c2) (a := a2) (by omega) (by omega), vsub_pl (x := c3) (a := a3) (by omega) (by omega)] at KV
  obtain ⟨v1, hv1⟩ : ∃ t, t = c1 - a1 := ⟨_, rfl⟩
  obtain ⟨v2, hv2⟩ : ∃ t, t = c2 - a2 := ⟨_, rfl⟩
  obtain ⟨v3, hv3⟩ : ∃ t, t = c3 - a3 := ⟨_, rfl⟩
  rw [← hv1, ← hv2, ← hv3] at KV
  have KT := Lib.hid (fun w => vec_Sub a1 a2 a3 o1 o2 o3 w (by unfold I64; omega) (by unfold I64; omega) (by unfold I64; omega) (by unfold I64; omega) (by unfold I64; omega) (by unfold I64; omega))
  rw [vsub_pl (x := a1) (a := o1) (by omega) (by omega), vsub_pl (x := a2) (a := o2) (by omega) (by omega), vsub_pl (x := a3) (a := o3) (by omega) (by omega)] at KT
  obtain ⟨t1, ht1⟩ : ∃ t, t = a1 - o1 := ⟨_, rfl⟩
  obtain ⟨t2, ht2⟩ : ∃ t, t = a2 - o2 := ⟨_, rfl⟩
  obtain ⟨t3, ht3⟩ : ∃ t, t = a3 - o3 := ⟨_, rfl⟩
  rw [← ht1, ← ht2, ← ht3] at KT
  rw [← hu1, ← hu2, ← hu3, ← hv1, ← hv2, ← hv3, ← ht1, ← ht2, ← ht3] at KM hk hg
  have KN := Lib.hid (fun w => vec_Volume u1 u2 u3 v1 v2 v3 t1 t2 t3 w)
  have KD := Lib.hid (fun w => vec_Volume u1 u2 u3 v1 v2 v3 d1 d2 d3 w)
  generalize vvol u1 u2 u3 v1 v2 v3 t1 t2 t3 = num at *
  generalize vvol u1 u2 u3 v1 v2 v3 d1 d2 d3 = den at *
  generalize fmake num den = X at *
  obtain ⟨f1, f2⟩ := X
  dsimp only at KM hg
  clear hk h0 h1 h2 h3 h4 q1 q2 q3 q4 hu1 hu2 hu3 hv1 hv2 hv3 ht1 ht2 ht3
  go_enter Tryz.func22, Tryz.ntmps22
  go_upto_region 1 with (fail)
  obtain ⟨W1, hW1⟩ : ∃ W, W = ((((w.alloc (.cells #[.int .i64 a1, .int .i64 a2, .int .i64 a3] 23)).alloc (.cells #[.int .i64 b1, .int .i64 b2, .int .i64 b3] 23)).alloc (.cells #[.int .i64 c1, .int .i64 c2, .int .i64 c3] 23)).alloc (.cells #[.int .i64 o1, .int .i64 o2, .int .i64 o3, .int .i64 d1, .int .i64 d2, .int .i64 d3, .int .i64 fr] 27)).alloc (.cells #[.int .i64 0, .int .i64 0] 32) := ⟨_, rfl⟩
  obtain ⟨k_a, k_b, k_c, k_y, k_r, B1⟩ := st5 hW1
  rw [← hW1]
  clear hW1
  have l_b : w.heap.size < w.heap.size + 1 := by omega
  have l_c : w.heap.size + 1 < w.heap.size + 1 + 1 := by omega
  have l_y : w.heap.size + 1 + 1 < w.heap.size + 1 + 1 + 1 := by omega
  have l_r : w.heap.size + 1 + 1 + 1 < w.heap.size + 1 + 1 + 1 + 1 := by omega
  generalize w.heap.size + 1 + 1 + 1 + 1 = g_r at *
  generalize w.heap.size + 1 + 1 + 1 = g_y at *
  generalize w.heap.size + 1 + 1 = g_c at *
  generalize w.heap.size + 1 = g_b at *
  obtain ⟨c_a_0, c_a_1, c_a_2⟩ := bwc3 (k_a)
  obtain ⟨c_b_0, c_b_1, c_b_2⟩ := bwc3 (k_b)
  obtain ⟨c_c_0, c_c_1, c_c_2⟩ := bwc3 (k_c)
  obtain ⟨c_y_0, c_y_1, c_y_2, c_y_3, c_y_4, c_y_5, c_y_6⟩ := bwc7 (k_y)
  obtain ⟨c_r_0, c_r_1⟩ := bwc2 (k_r)
  obtain ⟨f_r_0, f_r_1⟩ := bwf2 (k_r)
  obtain ⟨p1, hp1⟩ : ∃ p : BW W1, p.w = W1 := ⟨BW.start W1, rfl⟩
  rw [← hp1]
  clear hp1
  have KC : ∀ p : BW W1, Calls Tryz.prog 42 #[.slice (some ⟨p.w.heap.size, 0, none⟩) 4 4] (p.w.alloc (.cells #[.int .i64 a1, .int .i64 a2, .int .i64 a3, .int .i64 b1, .int .i64 b2, .int .i64 b3, .int .i64 c1, .int .i64 c2, .int .i64 c3, .int .i64 o1, .int .i64 o2, .int .i64 o3] 23)) fun e w' => e = .returned (.bool true) ∧ ∃ q : BW W1, w' = q.w := fun p =>
    (tri_places4 4 a1 a2 a3 b1 b2 b3 c1 c2 c3 o1 o2 o3 W1 p.w _ rfl p.h).mono fun e w' h => ⟨by rw [hp] at h; exact h.1, ⟨w', h.2⟩, rfl⟩
  clear hp
  go_upto_region 3 with (go_at_call 42; (with_reducible refine (KC _).mono ?_); rintro e w' ⟨rfl, q, rfl⟩)
  clear KC
  refine wp_region_floatL 13 72 [⟨10, 10, 23, #[.int .i64 0, .int .i64 0, .int .i64 0]⟩, ⟨11, 11, 23, #[.int .i64 0, .int .i64 0, .int .i64 0]⟩, ⟨12, 12, 23, #[.int .i64 0, .int .i64 0, .int .i64 0]⟩] (by kernel_rfl) (by kernel_rfl) (by kernel_rfl) (by kernel_rfl) (by kernel_rfl) (by decide) (by kernel_rfl) ?_ ?_
  · exact ⟨⟨_, rfl, fun ev wx => by simp [execOp, go_sem]⟩, ⟨_, rfl, fun ev wx => by simp [execOp, go_sem]⟩, ⟨_, rfl, fun ev wx => by simp [execOp, go_sem]⟩, trivial⟩
  apply Exists.intro
  refine ⟨?_, ?_⟩
  · intro wb' hwb'
    obtain ⟨d_a_0, d_a_1, d_a_2⟩ := bwc3 (k_a.below hwb')
    obtain ⟨d_b_0, d_b_1, d_b_2⟩ := bwc3 (k_b.below hwb')
    obtain ⟨d_c_0, d_c_1, d_c_2⟩ := bwc3 (k_c.below hwb')
    obtain ⟨d_y_0, d_y_1, d_y_2, d_y_3, d_y_4, d_y_5, d_y_6⟩ := bwc7 (k_y.below hwb')
    obtain ⟨d_r_0, d_r_1⟩ := bwc2 (k_r.below hwb')
    simp only [List.map_cons, List.map_nil, maskL, List.foldr_cons, List.foldr_nil, maskAt, List.take_succ_cons, List.take_zero]
    repeat (go_big_quiet_step (first
      | (go_at_call 26; (first | (with_reducible exact bw_call KU.out _) | (with_reducible exact bw_call KV.out _) | (with_reducible exact bw_call KT.out _)))))
    refine wpQuiet_nil ?_
    exact rfl
  intro W2 st hW hst hne
  obtain ⟨g_u, e_u, hg_u, k_u⟩ := hst 0 _ rfl
  obtain ⟨g_v, e_v, hg_v, k_v⟩ := hst 1 _ rfl
  obtain ⟨g_t, e_t, hg_t, k_t⟩ := hst 2 _ rfl
  have n_u_v : g_u ≠ g_v := fun e => hne 0 1 _ (by simp) (by simp) (by omega) e_u (by rw [e]; exact e_v)
  have n_u_t : g_u ≠ g_t := fun e => hne 0 2 _ (by simp) (by simp) (by omega) e_u (by rw [e]; exact e_t)
  have n_v_t : g_v ≠ g_t := fun e => hne 1 2 _ (by simp) (by simp) (by omega) e_v (by rw [e]; exact e_t)
  have B2 : Below w.heap.size w W2 := B1.trans (hW.mono B1.size)
  have l_u : g_r < g_u := Nat.lt_of_lt_of_le k_r.lt hg_u
  have l_v : g_r < g_v := Nat.lt_of_lt_of_le k_r.lt hg_v
  have l_t : g_r < g_t := Nat.lt_of_lt_of_le k_r.lt hg_t
  have k_a := k_a.below hW
  have k_b := k_b.below hW
  have k_c := k_c.below hW
  have k_y := k_y.below hW
  have k_r := k_r.below hW
  simp only [List.drop_succ_cons, List.drop_zero, putAll, Nat.zero_add, Nat.reduceAdd, e_u, e_v, e_t, putO, Act.put, List.setIfInBounds_toArray, List.set_cons_zero, List.set_cons_succ]
  clear hW hst hne B1 hg_u e_u hg_v e_v hg_t e_t
  clear c_a_0 c_a_1 c_a_2 c_b_0 c_b_1 c_b_2 c_c_0 c_c_1 c_c_2 c_y_0 c_y_1 c_y_2 c_y_3 c_y_4 c_y_5 c_y_6 c_r_0 c_r_1 f_r_0 f_r_1
  obtain ⟨c_a_0, c_a_1, c_a_2⟩ := bwc3 (k_a)
  obtain ⟨c_b_0, c_b_1, c_b_2⟩ := bwc3 (k_b)
  obtain ⟨c_c_0, c_c_1, c_c_2⟩ := bwc3 (k_c)
  obtain ⟨c_y_0, c_y_1, c_y_2, c_y_3, c_y_4, c_y_5, c_y_6⟩ := bwc7 (k_y)
  obtain ⟨c_r_0, c_r_1⟩ := bwc2 (k_r)
  obtain ⟨c_u_0, c_u_1, c_u_2⟩ := bwc3 (k_u)
  obtain ⟨f_u_0, f_u_1, f_u_2⟩ := bwf3 (k_u)
  obtain ⟨c_v_0, c_v_1, c_v_2⟩ := bwc3 (k_v)
  obtain ⟨f_v_0, f_v_1, f_v_2⟩ := bwf3 (k_v)
  obtain ⟨c_t_0, c_t_1, c_t_2⟩ := bwc3 (k_t)
  obtain ⟨f_t_0, f_t_1, f_t_2⟩ := bwf3 (k_t)
  obtain ⟨p2, hp2⟩ : ∃ p : BW W2, p.w = W2 := ⟨BW.start W2, rfl⟩
  rw [← hp2]
  clear hp2
  go_upto_region 4 with (fail)
  obtain ⟨W3, hW3⟩ : ∃ W, W = ((p2.w.setCell ⟨g_u, 0, none⟩ (.int .i64 u1)).setCell ⟨g_u, 1, none⟩ (.int .i64 u2)).setCell ⟨g_u, 2, none⟩ (.int .i64 u3) := ⟨_, rfl⟩
  have B3 : Below w.heap.size w W3 := by rw [hW3]; exact blp3 (bw_below B2 p2) (by omega)
  have k_a := bkoe3 hW3 (k_a.below p2.h) (by omega)
  have k_b := bkoe3 hW3 (k_b.below p2.h) (by omega)
  have k_c := bkoe3 hW3 (k_c.below p2.h) (by omega)
  have k_y := bkoe3 hW3 (k_y.below p2.h) (by omega)
  have k_r := bkoe3 hW3 (k_r.below p2.h) (by omega)
  have k_u := bkpe3 hW3 (k_u.below p2.h)
  have k_v := bkoe3 hW3 (k_v.below p2.h) (by omega)
  have k_t := bkoe3 hW3 (k_t.below p2.h) (by omega)
  rw [← hW3]
  clear hW3
  clear B2
  clear c_a_0 c_a_1 c_a_2 c_b_0 c_b_1 c_b_2 c_c_0 c_c_1 c_c_2 c_y_0 c_y_1 c_y_2 c_y_3 c_y_4 c_y_5 c_y_6 c_r_0 c_r_1 c_u_0 c_u_1 c_u_2 f_u_0 f_u_1 f_u_2 c_v_0 c_v_1 c_v_2 f_v_0 f_v_1 f_v_2 c_t_0 c_t_1 c_t_2 f_t_0 f_t_1 f_t_2
  obtain ⟨c_a_0, c_a_1, c_a_2⟩ := bwc3 (k_a)
  obtain ⟨c_b_0, c_b_1, c_b_2⟩ := bwc3 (k_b)
  obtain ⟨c_c_0, c_c_1, c_c_2⟩ := bwc3 (k_c)
  obtain ⟨c_y_0, c_y_1, c_y_2, c_y_3, c_y_4, c_y_5, c_y_6⟩ := bwc7 (k_y)
  obtain ⟨c_r_0, c_r_1⟩ := bwc2 (k_r)
  obtain ⟨c_u_0, c_u_1, c_u_2⟩ := bwc3 (k_u)
  obtain ⟨f_u_0, f_u_1, f_u_2⟩ := bwf3 (k_u)
  obtain ⟨c_v_0, c_v_1, c_v_2⟩ := bwc3 (k_v)
  obtain ⟨f_v_0, f_v_1, f_v_2⟩ := bwf3 (k_v)
  obtain ⟨c_t_0, c_t_1, c_t_2⟩ := bwc3 (k_t)
  obtain ⟨f_t_0, f_t_1, f_t_2⟩ := bwf3 (k_t)
  obtain ⟨p3, hp3⟩ : ∃ p : BW W3, p.w = W3 := ⟨BW.start W3, rfl⟩
  rw [← hp3]
  clear hp3
  obtain ⟨W4, hW4⟩ : ∃ W, W = ((p3.w.setCell ⟨g_v, 0, none⟩ (.int .i64 v1)).setCell ⟨g_v, 1, none⟩ (.int .i64 v2)).setCell ⟨g_v, 2, none⟩ (.int .i64 v3) := ⟨_, rfl⟩
  have B4 : Below w.heap.size w W4 := by rw [hW4]; exact blp3 (bw_below B3 p3) (by omega)
  have k_a := bkoe3 hW4 (k_a.below p3.h) (by omega)
  have k_b := bkoe3 hW4 (k_b.below p3.h) (by omega)
  have k_c := bkoe3 hW4 (k_c.below p3.h) (by omega)
  have k_y := bkoe3 hW4 (k_y.below p3.h) (by omega)
  have k_r := bkoe3 hW4 (k_r.below p3.h) (by omega)
  have k_u := bkoe3 hW4 (k_u.below p3.h) (by omega)
  have k_v := bkpe3 hW4 (k_v.below p3.h)
  have k_t := bkoe3 hW4 (k_t.below p3.h) (by omega)
  rw [← hW4]
  clear hW4
  clear B3
  clear c_a_0 c_a_1 c_a_2 c_b_0 c_b_1 c_b_2 c_c_0 c_c_1 c_c_2 c_y_0 c_y_1 c_y_2 c_y_3 c_y_4 c_y_5 c_y_6 c_r_0 c_r_1 c_u_0 c_u_1 c_u_2 f_u_0 f_u_1 f_u_2 c_v_0 c_v_1 c_v_2 f_v_0 f_v_1 f_v_2 c_t_0 c_t_1 c_t_2 f_t_0 f_t_1 f_t_2
  obtain ⟨c_a_0, c_a_1, c_a_2⟩ := bwc3 (k_a)
  obtain ⟨c_b_0, c_b_1, c_b_2⟩ := bwc3 (k_b)
  obtain ⟨c_c_0, c_c_1, c_c_2⟩ := bwc3 (k_c)
  obtain ⟨c_y_0, c_y_1, c_y_2, c_y_3, c_y_4, c_y_5, c_y_6⟩ := bwc7 (k_y)
  obtain ⟨c_r_0, c_r_1⟩ := bwc2 (k_r)
  obtain ⟨c_u_0, c_u_1, c_u_2⟩ := bwc3 (k_u)
  obtain ⟨f_u_0, f_u_1, f_u_2⟩ := bwf3 (k_u)
  obtain ⟨c_v_0, c_v_1, c_v_2⟩ := bwc3 (k_v)
  obtain ⟨f_v_0, f_v_1, f_v_2⟩ := bwf3 (k_v)
  obtain ⟨c_t_0, c_t_1, c_t_2⟩ := bwc3 (k_t)
  obtain ⟨f_t_0, f_t_1, f_t_2⟩ := bwf3 (k_t)
  obtain ⟨p4, hp4⟩ : ∃ p : BW W4, p.w = W4 := ⟨BW.start W4, rfl⟩
  rw [← hp4]
  clear hp4
  obtain ⟨W5, hW5⟩ : ∃ W, W = ((p4.w.setCell ⟨g_t, 0, none⟩ (.int .i64 t1)).setCell ⟨g_t, 1, none⟩ (.int .i64 t2)).setCell ⟨g_t, 2, none⟩ (.int .i64 t3) := ⟨_, rfl⟩
  have B5 : Below w.heap.size w W5 := by rw [hW5]; exact blp3 (bw_below B4 p4) (by omega)
  have k_a := bkoe3 hW5 (k_a.below p4.h) (by omega)
  have k_b := bkoe3 hW5 (k_b.below p4.h) (by omega)
  have k_c := bkoe3 hW5 (k_c.below p4.h) (by omega)
  have k_y := bkoe3 hW5 (k_y.below p4.h) (by omega)
  have k_r := bkoe3 hW5 (k_r.below p4.h) (by omega)
  have k_u := bkoe3 hW5 (k_u.below p4.h) (by omega)
  have k_v := bkoe3 hW5 (k_v.below p4.h) (by omega)
  have k_t := bkpe3 hW5 (k_t.below p4.h)
  rw [← hW5]
  clear hW5
  clear B4
  clear c_a_0 c_a_1 c_a_2 c_b_0 c_b_1 c_b_2 c_c_0 c_c_1 c_c_2 c_y_0 c_y_1 c_y_2 c_y_3 c_y_4 c_y_5 c_y_6 c_r_0 c_r_1 c_u_0 c_u_1 c_u_2 f_u_0 f_u_1 f_u_2 c_v_0 c_v_1 c_v_2 f_v_0 f_v_1 f_v_2 c_t_0 c_t_1 c_t_2 f_t_0 f_t_1 f_t_2
  obtain ⟨c_a_0, c_a_1, c_a_2⟩ := bwc3 (k_a)
  obtain ⟨c_b_0, c_b_1, c_b_2⟩ := bwc3 (k_b)
  obtain ⟨c_c_0, c_c_1, c_c_2⟩ := bwc3 (k_c)
  obtain ⟨c_y_0, c_y_1, c_y_2, c_y_3, c_y_4, c_y_5, c_y_6⟩ := bwc7 (k_y)
  obtain ⟨c_r_0, c_r_1⟩ := bwc2 (k_r)
  obtain ⟨c_u_0, c_u_1, c_u_2⟩ := bwc3 (k_u)
  obtain ⟨c_v_0, c_v_1, c_v_2⟩ := bwc3 (k_v)
  obtain ⟨c_t_0, c_t_1, c_t_2⟩ := bwc3 (k_t)
  obtain ⟨p5, hp5⟩ : ∃ p : BW W5, p.w = W5 := ⟨BW.start W5, rfl⟩
  rw [← hp5]
  clear hp5
  refine wp_region_late 12 14 46 (by kernel_rfl) (by kernel_rfl) rfl rfl rfl (fun _ _ _ _ h => h) ?_
  refine any_region_float (t := 32) (zs := #[.int .i64 0, .int .i64 0]) 14 13 13 72 (by kernel_rfl) (by kernel_rfl) (by kernel_rfl) (by kernel_rfl) rfl ?_ ?_
  · intro ev wx
    simp [execOp, go_sem]
  apply Exists.intro
  refine ⟨?_, ?_⟩
  · intro wb' hwb'
    obtain ⟨d_a_0, d_a_1, d_a_2⟩ := bwc3 (k_a.below hwb')
    obtain ⟨d_b_0, d_b_1, d_b_2⟩ := bwc3 (k_b.below hwb')
    obtain ⟨d_c_0, d_c_1, d_c_2⟩ := bwc3 (k_c.below hwb')
    obtain ⟨d_y_0, d_y_1, d_y_2, d_y_3, d_y_4, d_y_5, d_y_6⟩ := bwc7 (k_y.below hwb')
    obtain ⟨d_r_0, d_r_1⟩ := bwc2 (k_r.below hwb')
    obtain ⟨d_u_0, d_u_1, d_u_2⟩ := bwc3 (k_u.below hwb')
    obtain ⟨d_v_0, d_v_1, d_v_2⟩ := bwc3 (k_v.below hwb')
    obtain ⟨d_t_0, d_t_1, d_t_2⟩ := bwc3 (k_t.below hwb')
    simp only [edgeAt, maskAt, List.take_succ_cons, List.take_zero]
    repeat (go_big_quiet_step (first
      | (go_at_call 44; (first | (with_reducible exact bw_call KN.out _) | (with_reducible exact bw_call KD.out _)))
      | (go_at_call 43; (first | (with_reducible exact bw_call KM.out _)))))
    refine wpQuiet_nil ?_
    exact rfl
  intro W6 g_f hW hg k_f
  have B6 : Below w.heap.size w W6 := B5.trans (hW.mono B5.size)
  have o_f : w.heap.size ≤ g_f := Nat.le_trans B5.size hg
  have l_f : g_t < g_f := Nat.lt_of_lt_of_le k_t.lt hg
  have l_f_u : g_u < g_f := Nat.lt_of_lt_of_le k_u.lt hg
  have l_f_v : g_v < g_f := Nat.lt_of_lt_of_le k_v.lt hg
  have k_a := k_a.below hW
  have k_b := k_b.below hW
  have k_c := k_c.below hW
  have k_y := k_y.below hW
  have k_r := k_r.below hW
  have k_u := k_u.below hW
  have k_v := k_v.below hW
  have k_t := k_t.below hW
  clear hW hg B5
  clear c_a_0 c_a_1 c_a_2 c_b_0 c_b_1 c_b_2 c_c_0 c_c_1 c_c_2 c_y_0 c_y_1 c_y_2 c_y_3 c_y_4 c_y_5 c_y_6 c_r_0 c_r_1 c_u_0 c_u_1 c_u_2 c_v_0 c_v_1 c_v_2 c_t_0 c_t_1 c_t_2
  simp only [edgeAt, List.drop_succ_cons, List.drop_zero, Act.put, List.setIfInBounds_toArray, List.set_cons_zero, List.set_cons_succ]
  obtain ⟨c_a_0, c_a_1, c_a_2⟩ := bwc3 (k_a)
  obtain ⟨c_b_0, c_b_1, c_b_2⟩ := bwc3 (k_b)
  obtain ⟨c_c_0, c_c_1, c_c_2⟩ := bwc3 (k_c)
  obtain ⟨c_y_0, c_y_1, c_y_2, c_y_3, c_y_4, c_y_5, c_y_6⟩ := bwc7 (k_y)
  obtain ⟨c_r_0, c_r_1⟩ := bwc2 (k_r)
  obtain ⟨c_u_0, c_u_1, c_u_2⟩ := bwc3 (k_u)
  obtain ⟨c_v_0, c_v_1, c_v_2⟩ := bwc3 (k_v)
  obtain ⟨c_t_0, c_t_1, c_t_2⟩ := bwc3 (k_t)
  obtain ⟨c_f_0, c_f_1⟩ := bwc2 (k_f)
  obtain ⟨f_f_0, f_f_1⟩ := bwf2 (k_f)
  obtain ⟨p6, hp6⟩ : ∃ p : BW W6, p.w = W6 := ⟨BW.start W6, rfl⟩
  rw [← hp6]
  clear hp6
  go_upto_region 5 with (fail)
  obtain ⟨W7, hW7⟩ : ∃ W, W = (p6.w.setCell ⟨g_f, 0, none⟩ (.int .i64 f1)).setCell ⟨g_f, 1, none⟩ (.int .i64 f2) := ⟨_, rfl⟩
  have B7 : Below w.heap.size w W7 := by rw [hW7]; exact blp2 (bw_below B6 p6) (by omega)
  have k_a := bkoe2 hW7 (k_a.below p6.h) (by omega)
  have k_b := bkoe2 hW7 (k_b.below p6.h) (by omega)
  have k_c := bkoe2 hW7 (k_c.below p6.h) (by omega)
  have k_y := bkoe2 hW7 (k_y.below p6.h) (by omega)
  have k_r := bkoe2 hW7 (k_r.below p6.h) (by omega)
  have k_u := bkoe2 hW7 (k_u.below p6.h) (by omega)
  have k_v := bkoe2 hW7 (k_v.below p6.h) (by omega)
  have k_t := bkoe2 hW7 (k_t.below p6.h) (by omega)
  have k_f := bkpe2 hW7 (k_f.below p6.h)
  rw [← hW7]
  clear hW7
  clear B6
  clear c_a_0 c_a_1 c_a_2 c_b_0 c_b_1 c_b_2 c_c_0 c_c_1 c_c_2 c_y_0 c_y_1 c_y_2 c_y_3 c_y_4 c_y_5 c_y_6 c_r_0 c_r_1 c_u_0 c_u_1 c_u_2 c_v_0 c_v_1 c_v_2 c_t_0 c_t_1 c_t_2 c_f_0 c_f_1 f_f_0 f_f_1
  obtain ⟨c_a_0, c_a_1, c_a_2⟩ := bwc3 (k_a)
  obtain ⟨c_b_0, c_b_1, c_b_2⟩ := bwc3 (k_b)
  obtain ⟨c_c_0, c_c_1, c_c_2⟩ := bwc3 (k_c)
  obtain ⟨c_y_0, c_y_1, c_y_2, c_y_3, c_y_4, c_y_5, c_y_6⟩ := bwc7 (k_y)
  obtain ⟨c_r_0, c_r_1⟩ := bwc2 (k_r)
  obtain ⟨f_r_0, f_r_1⟩ := bwf2 (k_r)
  obtain ⟨c_u_0, c_u_1, c_u_2⟩ := bwc3 (k_u)
  obtain ⟨c_v_0, c_v_1, c_v_2⟩ := bwc3 (k_v)
  obtain ⟨c_t_0, c_t_1, c_t_2⟩ := bwc3 (k_t)
  obtain ⟨c_f_0, c_f_1⟩ := bwc2 (k_f)
  obtain ⟨p7, hp7⟩ : ∃ p : BW W7, p.w = W7 := ⟨BW.start W7, rfl⟩
  rw [← hp7]
  clear hp7
  refine wp_region_bw (by kernel_rfl) (by kernel_rfl) ?_
  repeat (go_big_quiet_step (first
    | fail))
  refine wpQuiet_nil ?_
  intro _ hw'
  obtain ⟨q, rfl⟩ := hw'
  go_wp2
  have kr := bkp2 (k_r.below q.h) (.int .i64 0) (.int .i64 0)
  obtain ⟨rc0, rc1⟩ := rwc2 kr
  exact bodyPost_ret (v := .tuple #[.agg #[.int .i64 0, .int .i64 0], .bool false]) (by simp [results, Tryz.results22, go_sem, rc0, rc1]) rfl ⟨rfl, blp2 (bw_below B7 q) (by omega)⟩

set_option maxRecDepth 100000 in
set_option maxHeartbeats 4000000 in
theorem tri_Hit_out (a1 a2 a3 b1 b2 b3 c1 c2 c3 o1 o2 o3 d1 d2 d3 fr : Int) (w : World) (hp : (pl3 (a1, a2, a3) (b1, b2, b3) (c1, c2, c3) && plc (o1, o2, o3)) = true) (hk : fmakeOk (vvol (b1 - a1) (b2 - a2) (b3 - a3) (c1 - a1) (c2 - a2) (c3 - a3) (a1 - o1) (a2 - o2) (a3 - o3)) (vvol (b1 - a1) (b2 - a2) (b3 - a3) (c1 - a1) (c2 - a2) (c3 - a3) d1 d2 d3) = true) (hg : decide ((fmake (vvol (b1 - a1) (b2 - a2) (b3 - a3) (c1 - a1) (c2 - a2) (c3 - a3) (a1 - o1) (a2 - o2) (a3 - o3)) (vvol (b1 - a1) (b2 - a2) (b3 - a3) (c1 - a1) (c2 - a2) (c3 - a3) d1 d2 d3)).1 ≤ 0) = false) (hs : srd (vvol d1 d2 d3 (a1 - o1) (a2 - o2) (a3 - o3) (b1 - o1) (b2 - o2) (b3 - o3)) (vvol d1 d2 d3 (b1 - o1) (b2 - o2) (b3 - o3) (c1 - o1) (c2 - o2) (c3 - o3)) (vvol d1 d2 d3 (c1 - o1) (c2 - o2) (c3 - o3) (a1 - o1) (a2 - o2) (a3 - o3)) = false) :
    Calls Tryz.prog 22 #[.agg #[.int .i64 a1, .int .i64 a2, .int .i64 a3], .agg #[.int .i64 b1, .int .i64 b2, .int .i64 b3], .agg #[.int .i64 c1, .int .i64 c2, .int .i64 c3], .agg #[.int .i64 o1, .int .i64 o2, .int .i64 o3, .int .i64 d1, .int .i64 d2, .int .i64 d3, .int .i64 fr]] w fun en w' => en = .returned (.tuple #[.agg #[.int .i64 0, .int .i64 0], .bool false]) ∧ Below w.heap.size w w' := by
  obtain ⟨h0, h4⟩ := Bool.and_eq_true_iff.1 hp
  obtain ⟨h1, h2, h3⟩ := pl3_iff.1 h0
  have q1 := plc_iff.1 h1
  dsimp only at q1
  have q2 := plc_iff.1 h2
  dsimp only at q2
  have q3 := plc_iff.1 h3
  dsimp only at q3
  have q4 := plc_iff.1 h4
  dsimp only at q4
  have vb := @vvol_61
  have i1 := vb (b1 - a1) (b2 - a2) (b3 - a3) (c1 - a1) (c2 - a2) (c3 - a3) (a1 - o1) (a2 - o2) (a3 - o3)
  have i2 := vb (b1 - a1) (b2 - a2) (b3 - a3) (c1 - a1) (c2 - a2) (c3 - a3) d1 d2 d3
  have KM := Lib.hid (fun w => frac_Make (vvol (b1 - a1) (b2 - a2) (b3 - a3) (c1 - a1) (c2 - a2) (c3 - a3) (a1 - o1) (a2 - o2) (a3 - o3)) (vvol (b1 - a1) (b2 - a2) (b3 - a3) (c1 - a1) (c2 - a2) (c3 - a3) d1 d2 d3) w (by unfold I64; omega) (by unfold I64; omega))
  rw [hk] at KM
  clear vb i1 i2
  have KU := Lib.hid (fun w => vec_Sub b1 b2 b3 a1 a2 a3 w (by unfold I64; omega) (by unfold I64; omega) (by unfold I64; omega) (by unfold I64; omega) (by unfold I64; omega) (by unfold I64; omega))
  rw [vsub_pl (x := b1) (a := a1) (by omega) (by omega), vsub_pl (x := b2) (a := a2) (by omega) (by omega), vsub_pl (x := b3) (a := a3) (by omega) (by omega)] at KU
  obtain ⟨u1, hu1⟩ : ∃ t, t = b1 - a1 := ⟨_, rfl⟩
  obtain ⟨u2, hu2⟩ : ∃ t, t = b2 - a2 := ⟨_, rfl⟩
  obtain ⟨u3, hu3⟩ : ∃ t, t = b3 - a3 := ⟨_, rfl⟩
  rw [← hu1, ← hu2, ← hu3] at KU
  have KV := Lib.hid (fun w => vec_Sub c1 c2 c3 a1 a2 a3 w (by unfold I64; omega) (by unfold I64; omega) (by unfold I64; omega) (by unfold I64; omega) (by unfold I64; omega) (by unfold I64; omega))
  rw [vsub_pl (x := c1) (a := a1) (by omega) (by omega), vsub_pl (x := c2) (a := a2) (by omega) (by omega), vsub_pl (x := c3) (a := a3) (by omega) (by omega)] at KV
  obtain ⟨v1, hv1⟩ : ∃ t, t = c1 - a1 := ⟨_, rfl⟩
  obtain ⟨v2, hv2⟩ : ∃ t, t = c2 - a2 := ⟨_, rfl⟩
  obtain ⟨v3, hv3⟩ : ∃ t, t = c3 - a3 := ⟨_, rfl⟩
  rw [← hv1, ← hv2, ← hv3] at KV
  have KT := Lib.hid (fun w => vec_Sub a1 a2 a3 o1 o2 o3 w (by unfold I64; omega) (by unfold I64; omega) (by unfold I64; omega) (by unfold I64; omega) (by unfold I64; omega) (by unfold I64; omega))
  rw [vsub_pl (x := a1) (a := o1) (by omega) (by omega), vsub_pl (x := a2) (a := o2) (by omega) (by omega), vsub_pl (x := a3) (a := o3) (by omega) (by omega)] at KT
  obtain ⟨t1, ht1⟩ : ∃ t, t = a1 - o1 := ⟨_, rfl⟩
  obtain ⟨t2, ht2⟩ : ∃ t, t = a2 - o2 := ⟨_, rfl⟩
  obtain ⟨t3, ht3⟩ : ∃ t, t = a3 - o3 := ⟨_, rfl⟩
  rw [← ht1, ← ht2, ← ht3] at KT
  rw [← hu1, ← hu2, ← hu3, ← hv1, ← hv2, ← hv3, ← ht1, ← ht2, ← ht3] at KM hk hg
  have KE := Lib.hid (fun w => vec_Sub b1 b2 b3 o1 o2 o3 w (by unfold I64; omega) (by unfold I64; omega) (by unfold I64; omega) (by unfold I64; omega) (by unfold I64; omega) (by unfold I64; omega))
  rw [vsub_pl (x := b1) (a := o1) (by omega) (by omega), vsub_pl (x := b2) (a := o2) (by omega) (by omega), vsub_pl (x := b3) (a := o3) (by omega) (by omega)] at KE
  obtain ⟨e1, he1⟩ : ∃ t, t = b1 - o1 := ⟨_, rfl⟩
  obtain ⟨e2, he2⟩ : ∃ t, t = b2 - o2 := ⟨_, rfl⟩
  obtain ⟨e3, he3⟩ : ∃ t, t = b3 - o3 := ⟨_, rfl⟩
  rw [← he1, ← he2, ← he3] at KE
  have KF := Lib.hid (fun w => vec_Sub c1 c2 c3 o1 o2 o3 w (by unfold I64; omega) (by unfold I64; omega) (by unfold I64; omega) (by unfold I64; omega) (by unfold I64; omega) (by unfold I64; omega))
  rw [vsub_pl (x := c1) (a := o1) (by omega) (by omega), vsub_pl (x := c2) (a := o2) (by omega) (by omega), vsub_pl (x := c3) (a := o3) (by omega) (by omega)] at KF
  obtain ⟨m1, hm1⟩ : ∃ t, t = c1 - o1 := ⟨_, rfl⟩
  obtain ⟨m2, hm2⟩ : ∃ t, t = c2 - o2 := ⟨_, rfl⟩
  obtain ⟨m3, hm3⟩ : ∃ t, t = c3 - o3 := ⟨_, rfl⟩
  rw [← hm1, ← hm2, ← hm3] at KF
  rw [← ht1, ← ht2, ← ht3, ← he1, ← he2, ← he3, ← hm1, ← hm2, ← hm3] at hs
  have KS := Lib.hid (fun (b : Nat) (w : World) kb => tri_surround d1 d2 d3 t1 t2 t3 e1 e2 e3 m1 m2 m3 w b 3 kb)
  rw [hs] at KS
  clear hs
  have KN := Lib.hid (fun w => vec_Volume u1 u2 u3 v1 v2 v3 t1 t2 t3 w)
  have KD := Lib.hid (fun w => vec_Volume u1 u2 u3 v1 v2 v3 d1 d2 d3 w)
  generalize vvol u1 u2 u3 v1 v2 v3 t1 t2 t3 = num at *
  generalize vvol u1 u2 u3 v1 v2 v3 d1 d2 d3 = den at *
  generalize fmake num den = X at *
  obtain ⟨f1, f2⟩ := X
  dsimp only at KM hg
  clear hk h0 h1 h2 h3 h4 q1 q2 q3 q4 hu1 hu2 hu3 hv1 hv2 hv3 ht1 ht2 ht3 he1 he2 he3 hm1 hm2 hm3
  go_enter Tryz.func22, Tryz.ntmps22
  go_upto_region 1 with (fail)
  obtain ⟨W1, hW1⟩ : ∃ W, W = ((((w.alloc (.cells #[.int .i64 a1, .int .i64 a2, .int .i64 a3] 23)).alloc (.cells #[.int .i64 b1, .int .i64 b2, .int .i64 b3] 23)).alloc (.cells #[.int .i64 c1, .int .i64 c2, .int .i64 c3] 23)).alloc (.cells #[.int .i64 o1, .int .i64 o2, .int .i64 o3, .int .i64 d1, .int .i64 d2, .int .i64 d3, .int .i64 fr] 27)).alloc (.cells #[.int .i64 0, .int .i64 0] 32) := ⟨_, rfl⟩
  obtain ⟨k_a, k_b, k_c, k_y, k_r, B1⟩ := st5 hW1
  rw [← hW1]
  clear hW1
  have l_b : w.heap.size < w.heap.size + 1 := by omega
  have l_c : w.heap.size + 1 < w.heap.size + 1 + 1 := by omega
  have l_y : w.heap.size + 1 + 1 < w.heap.size + 1 + 1 + 1 := by omega
  have l_r : w.heap.size + 1 + 1 + 1 < w.heap.size + 1 + 1 + 1 + 1 := by omega
  generalize w.heap.size + 1 + 1 + 1 + 1 = g_r at *
  generalize w.heap.size + 1 + 1 + 1 = g_y at *
  generalize w.heap.size + 1 + 1 = g_c at *
  generalize w.heap.size + 1 = g_b at *
  obtain ⟨c_a_0, c_a_1, c_a_2⟩ := bwc3 (k_a)
  obtain ⟨c_b_0, c_b_1, c_b_2⟩ := bwc3 (k_b)
  obtain ⟨c_c_0, c_c_1, c_c_2⟩ := bwc3 (k_c)
  obtain ⟨c_y_0, c_y_1, c_y_2, c_y_3, c_y_4, c_y_5, c_y_6⟩ := bwc7 (k_y)
  obtain ⟨c_r_0, c_r_1⟩ := bwc2 (k_r)
  obtain ⟨f_r_0, f_r_1⟩ := bwf2 (k_r)
  obtain ⟨p1, hp1⟩ : ∃ p : BW W1, p.w = W1 := ⟨BW.start W1, rfl⟩
  rw [← hp1]
  clear hp1
  have KC : ∀ p : BW W1, Calls Tryz.prog 42 #[.slice (some ⟨p.w.heap.size, 0, none⟩) 4 4] (p.w.alloc (.cells #[.int .i64 a1, .int .i64 a2, .int .i64 a3, .int .i64 b1, .int .i64 b2, .int .i64 b3, .int .i64 c1, .int .i64 c2, .int .i64 c3, .int .i64 o1, .int .i64 o2, .int .i64 o3] 23)) fun e w' => e = .returned (.bool true) ∧ ∃ q : BW W1, w' = q.w := fun p =>
    (tri_places4 4 a1 a2 a3 b1 b2 b3 c1 c2 c3 o1 o2 o3 W1 p.w _ rfl p.h).mono fun e w' h => ⟨by rw [hp] at h; exact h.1, ⟨w', h.2⟩, rfl⟩
  clear hp
  go_upto_region 3 with (go_at_call 42; (with_reducible refine (KC _).mono ?_); rintro e w' ⟨rfl, q, rfl⟩)
  clear KC
  refine wp_region_floatL 13 72 [⟨10, 10, 23, #[.int .i64 0, .int .i64 0, .int .i64 0]⟩, ⟨11, 11, 23, #[.int .i64 0, .int .i64 0, .int .i64 0]⟩, ⟨12, 12, 23, #[.int .i64 0, .int .i64 0, .int .i64 0]⟩] (by kernel_rfl) (by kernel_rfl) (by kernel_rfl) (by kernel_rfl) (by kernel_rfl) (by decide) (by kernel_rfl) ?_ ?_
  · exact ⟨⟨_, rfl, fun ev wx => by simp [execOp, go_sem]⟩, ⟨_, rfl, fun ev wx => by simp [execOp, go_sem]⟩, ⟨_, rfl, fun ev wx => by simp [execOp, go_sem]⟩, trivial⟩
  apply Exists.intro
  refine ⟨?_, ?_⟩
  · intro wb' hwb'
    obtain ⟨d_a_0, d_a_1, d_a_2⟩ := bwc3 (k_a.below hwb')
    obtain ⟨d_b_0, d_b_1, d_b_2⟩ := bwc3 (k_b.below hwb')
    obtain ⟨d_c_0, d_c_1, d_c_2⟩ := bwc3 (k_c.below hwb')
    obtain ⟨d_y_0, d_y_1, d_y_2, d_y_3, d_y_4, d_y_5, d_y_6⟩ := bwc7 (k_y.below hwb')
    obtain ⟨d_r_0, d_r_1⟩ := bwc2 (k_r.below hwb')
    simp only [List.map_cons, List.map_nil, maskL, List.foldr_cons, List.foldr_nil, maskAt, List.take_succ_cons, List.take_zero]
    repeat (go_big_quiet_step (first
      | (go_at_call 26; (first | (with_reducible exact bw_call KU.out _) | (with_reducible exact bw_call KV.out _) | (with_reducible exact bw_call KT.out _)))))
    refine wpQuiet_nil ?_
    exact rfl
  intro W2 st hW hst hne
  obtain ⟨g_u, e_u, hg_u, k_u⟩ := hst 0 _ rfl
  obtain ⟨g_v, e_v, hg_v, k_v⟩ := hst 1 _ rfl
  obtain ⟨g_t, e_t, hg_t, k_t⟩ := hst 2 _ rfl
  have n_u_v : g_u ≠ g_v := fun e => hne 0 1 _ (by simp) (by simp) (by omega) e_u (by rw [e]; exact e_v)
  have n_u_t : g_u ≠ g_t := fun e => hne 0 2 _ (by simp) (by simp) (by omega) e_u (by rw [e]; exact e_t)
  have n_v_t : g_v ≠ g_t := fun e => hne 1 2 _ (by simp) (by simp) (by omega) e_v (by rw [e]; exact e_t)
  have B2 : Below w.heap.size w W2 := B1.trans (hW.mono B1.size)
  have l_u : g_r < g_u := Nat.lt_of_lt_of_le k_r.lt hg_u
  have l_v : g_r < g_v := Nat.lt_of_lt_of_le k_r.lt hg_v
  have l_t : g_r < g_t := Nat.lt_of_lt_of_le k_r.lt hg_t
  have k_a := k_a.below hW
  have k_b := k_b.below hW
  have k_c := k_c.below hW
  have k_y := k_y.below hW
  have k_r := k_r.below hW
  simp only [List.drop_succ_cons, List.drop_zero, putAll, Nat.zero_add, Nat.reduceAdd, e_u, e_v, e_t, putO, Act.put, List.setIfInBounds_toArray, List.set_cons_zero, List.set_cons_succ]
  clear hW hst hne B1 hg_u e_u hg_v e_v hg_t e_t
  clear c_a_0 c_a_1 c_a_2 c_b_0 c_b_1 c_b_2 c_c_0 c_c_1 c_c_2 c_y_0 c_y_1 c_y_2 c_y_3 c_y_4 c_y_5 c_y_6 c_r_0 c_r_1 f_r_0 f_r_1
  obtain ⟨c_a_0, c_a_1, c_a_2⟩ := bwc3 (k_a)
  obtain ⟨c_b_0, c_b_1, c_b_2⟩ := bwc3 (k_b)
  obtain ⟨c_c_0, c_c_1, c_c_2⟩ := bwc3 (k_c)
  obtain ⟨c_y_0, c_y_1, c_y_2, c_y_3, c_y_4, c_y_5, c_y_6⟩ := bwc7 (k_y)
  obtain ⟨c_r_0, c_r_1⟩ := bwc2 (k_r)
  obtain ⟨c_u_0, c_u_1, c_u_2⟩ := bwc3 (k_u)
  obtain ⟨f_u_0, f_u_1, f_u_2⟩ := bwf3 (k_u)
  obtain ⟨c_v_0, c_v_1, c_v_2⟩ := bwc3 (k_v)
  obtain ⟨f_v_0, f_v_1, f_v_2⟩ := bwf3 (k_v)
  obtain ⟨c_t_0, c_t_1, c_t_2⟩ := bwc3 (k_t)
  obtain ⟨f_t_0, f_t_1, f_t_2⟩ := bwf3 (k_t)
  obtain ⟨p2, hp2⟩ : ∃ p : BW W2, p.w = W2 := ⟨BW.start W2, rfl⟩
  rw [← hp2]
  clear hp2
  go_upto_region 4 with (fail)
  obtain ⟨W3, hW3⟩ : ∃ W, W = ((p2.w.setCell ⟨g_u, 0, none⟩ (.int .i64 u1)).setCell ⟨g_u, 1, none⟩ (.int .i64 u2)).setCell ⟨g_u, 2, none⟩ (.int .i64 u3) := ⟨_, rfl⟩
  have B3 : Below w.heap.size w W3 := by rw [hW3]; exact blp3 (bw_below B2 p2) (by omega)
  have k_a := bkoe3 hW3 (k_a.below p2.h) (by omega)
  have k_b := bkoe3 hW3 (k_b.below p2.h) (by omega)
  have k_c := bkoe3 hW3 (k_c.below p2.h) (by omega)
  have k_y := bkoe3 hW3 (k_y.below p2.h) (by omega)
  have k_r := bkoe3 hW3 (k_r.below p2.h) (by omega)
  have k_u := bkpe3 hW3 (k_u.below p2.h)
  have k_v := bkoe3 hW3 (k_v.below p2.h) (by omega)
  have k_t := bkoe3 hW3 (k_t.below p2.h) (by omega)
  rw [← hW3]
  clear hW3
  clear B2
  clear c_a_0 c_a_1 c_a_2 c_b_0 c_b_1 c_b_2 c_c_0 c_c_1 c_c_2 c_y_0 c_y_1 c_y_2 c_y_3 c_y_4 c_y_5 c_y_6 c_r_0 c_r_1 c_u_0 c_u_1 c_u_2 f_u_0 f_u_1 f_u_2 c_v_0 c_v_1 c_v_2 f_v_0 f_v_1 f_v_2 c_t_0 c_t_1 c_t_2 f_t_0 f_t_1 f_t_2
  obtain ⟨c_a_0, c_a_1, c_a_2⟩ := bwc3 (k_a)
  obtain ⟨c_b_0, c_b_1, c_b_2⟩ := bwc3 (k_b)
  obtain ⟨c_c_0, c_c_1, c_c_2⟩ := bwc3 (k_c)
  obtain ⟨c_y_0, c_y_1, c_y_2, c_y_3, c_y_4, c_y_5, c_y_6⟩ := bwc7 (k_y)
  obtain ⟨c_r_0, c_r_1⟩ := bwc2 (k_r)
  obtain ⟨c_u_0, c_u_1, c_u_2⟩ := bwc3 (k_u)
  obtain ⟨f_u_0, f_u_1, f_u_2⟩ := bwf3 (k_u)
  obtain ⟨c_v_0, c_v_1, c_v_2⟩ := bwc3 (k_v)
  obtain ⟨f_v_0, f_v_1, f_v_2⟩ := bwf3 (k_v)
  obtain ⟨c_t_0, c_t_1, c_t_2⟩ := bwc3 (k_t)
  obtain ⟨f_t_0, f_t_1, f_t_2⟩ := bwf3 (k_t)
  obtain ⟨p3, hp3⟩ : ∃ p : BW W3, p.w = W3 := ⟨BW.start W3, rfl⟩
  rw [← hp3]
  clear hp3
  obtain ⟨W4, hW4⟩ : ∃ W, W = ((p3.w.setCell ⟨g_v, 0, none⟩ (.int .i64 v1)).setCell ⟨g_v, 1, none⟩ (.int .i64 v2)).setCell ⟨g_v, 2, none⟩ (.int .i64 v3) := ⟨_, rfl⟩
  have B4 : Below w.heap.size w W4 := by rw [hW4]; exact blp3 (bw_below B3 p3) (by omega)
  have k_a := bkoe3 hW4 (k_a.below p3.h) (by omega)
  have k_b := bkoe3 hW4 (k_b.below p3.h) (by omega)
  have k_c := bkoe3 hW4 (k_c.below p3.h) (by omega)
  have k_y := bkoe3 hW4 (k_y.below p3.h) (by omega)
  have k_r := bkoe3 hW4 (k_r.below p3.h) (by omega)
  have k_u := bkoe3 hW4 (k_u.below p3.h) (by omega)
  have k_v := bkpe3 hW4 (k_v.below p3.h)
  have k_t := bkoe3 hW4 (k_t.below p3.h) (by omega)
  rw [← hW4]
  clear hW4
  clear B3
  clear c_a_0 c_a_1 c_a_2 c_b_0 c_b_1 c_b_2 c_c_0 c_c_1 c_c_2 c_y_0 c_y_1 c_y_2 c_y_3 c_y_4 c_y_5 c_y_6 c_r_0 c_r_1 c_u_0 c_u_1 c_u_2 f_u_0 f_u_1 f_u_2 c_v_0 c_v_1 c_v_2 f_v_0 f_v_1 f_v_2 c_t_0 c_t_1 c_t_2 f_t_0 f_t_1 f_t_2
  obtain ⟨c_a_0, c_a_1, c_a_2⟩ := bwc3 (k_a)
  obtain ⟨c_b_0, c_b_1, c_b_2⟩ := bwc3 (k_b)
  obtain ⟨c_c_0, c_c_1, c_c_2⟩ := bwc3 (k_c)
  obtain ⟨c_y_0, c_y_1, c_y_2, c_y_3, c_y_4, c_y_5, c_y_6⟩ := bwc7 (k_y)
  obtain ⟨c_r_0, c_r_1⟩ := bwc2 (k_r)
  obtain ⟨c_u_0, c_u_1, c_u_2⟩ := bwc3 (k_u)
  obtain ⟨f_u_0, f_u_1, f_u_2⟩ := bwf3 (k_u)
  obtain ⟨c_v_0, c_v_1, c_v_2⟩ := bwc3 (k_v)
  obtain ⟨f_v_0, f_v_1, f_v_2⟩ := bwf3 (k_v)
  obtain ⟨c_t_0, c_t_1, c_t_2⟩ := bwc3 (k_t)
  obtain ⟨f_t_0, f_t_1, f_t_2⟩ := bwf3 (k_t)
  obtain ⟨p4, hp4⟩ : ∃ p : BW W4, p.w = W4 := ⟨BW.start W4, rfl⟩
  rw [← hp4]
  clear hp4
  obtain ⟨W5, hW5⟩ : ∃ W, W = ((p4.w.setCell ⟨g_t, 0, none⟩ (.int .i64 t1)).setCell ⟨g_t, 1, none⟩ (.int .i64 t2)).setCell ⟨g_t, 2, none⟩ (.int .i64 t3) := ⟨_, rfl⟩
  have B5 : Below w.heap.size w W5 := by rw [hW5]; exact blp3 (bw_below B4 p4) (by omega)
  have k_a := bkoe3 hW5 (k_a.below p4.h) (by omega)
  have k_b := bkoe3 hW5 (k_b.below p4.h) (by omega)
  have k_c := bkoe3 hW5 (k_c.below p4.h) (by omega)
  have k_y := bkoe3 hW5 (k_y.below p4.h) (by omega)
  have k_r := bkoe3 hW5 (k_r.below p4.h) (by omega)
  have k_u := bkoe3 hW5 (k_u.below p4.h) (by omega)
  have k_v := bkoe3 hW5 (k_v.below p4.h) (by omega)
  have k_t := bkpe3 hW5 (k_t.below p4.h)
  rw [← hW5]
  clear hW5
  clear B4
  clear c_a_0 c_a_1 c_a_2 c_b_0 c_b_1 c_b_2 c_c_0 c_c_1 c_c_2 c_y_0 c_y_1 c_y_2 c_y_3 c_y_4 c_y_5 c_y_6 c_r_0 c_r_1 c_u_0 c_u_1 c_u_2 f_u_0 f_u_1 f_u_2 c_v_0 c_v_1 c_v_2 f_v_0 f_v_1 f_v_2 c_t_0 c_t_1 c_t_2 f_t_0 f_t_1 f_t_2
  obtain ⟨c_a_0, c_a_1, c_a_2⟩ := bwc3 (k_a)
  obtain ⟨c_b_0, c_b_1, c_b_2⟩ := bwc3 (k_b)
  obtain ⟨c_c_0, c_c_1, c_c_2⟩ := bwc3 (k_c)
  obtain ⟨c_y_0, c_y_1, c_y_2, c_y_3, c_y_4, c_y_5, c_y_6⟩ := bwc7 (k_y)
  obtain ⟨c_r_0, c_r_1⟩ := bwc2 (k_r)
  obtain ⟨c_u_0, c_u_1, c_u_2⟩ := bwc3 (k_u)
  obtain ⟨c_v_0, c_v_1, c_v_2⟩ := bwc3 (k_v)
  obtain ⟨c_t_0, c_t_1, c_t_2⟩ := bwc3 (k_t)
  obtain ⟨p5, hp5⟩ : ∃ p : BW W5, p.w = W5 := ⟨BW.start W5, rfl⟩
  rw [← hp5]
  clear hp5
  refine wp_region_late 12 14 46 (by kernel_rfl) (by kernel_rfl) rfl rfl rfl (fun _ _ _ _ h => h) ?_
  refine any_region_float (t := 32) (zs := #[.int .i64 0, .int .i64 0]) 14 13 13 72 (by kernel_rfl) (by kernel_rfl) (by kernel_rfl) (by kernel_rfl) rfl ?_ ?_
  · intro ev wx
    simp [execOp, go_sem]
  apply Exists.intro
  refine ⟨?_, ?_⟩
  · intro wb' hwb'
    obtain ⟨d_a_0, d_a_1, d_a_2⟩ := bwc3 (k_a.below hwb')
    obtain ⟨d_b_0, d_b_1, d_b_2⟩ := bwc3 (k_b.below hwb')
    obtain ⟨d_c_0, d_c_1, d_c_2⟩ := bwc3 (k_c.below hwb')
    obtain ⟨d_y_0, d_y_1, d_y_2, d_y_3, d_y_4, d_y_5, d_y_6⟩ := bwc7 (k_y.below hwb')
    obtain ⟨d_r_0, d_r_1⟩ := bwc2 (k_r.below hwb')
    obtain ⟨d_u_0, d_u_1, d_u_2⟩ := bwc3 (k_u.below hwb')
    obtain ⟨d_v_0, d_v_1, d_v_2⟩ := bwc3 (k_v.below hwb')
    obtain ⟨d_t_0, d_t_1, d_t_2⟩ := bwc3 (k_t.below hwb')
    simp only [edgeAt, maskAt, List.take_succ_cons, List.take_zero]
    repeat (go_big_quiet_step (first
      | (go_at_call 44; (first | (with_reducible exact bw_call KN.out _) | (with_reducible exact bw_call KD.out _)))
      | (go_at_call 43; (first | (with_reducible exact bw_call KM.out _)))))
    refine wpQuiet_nil ?_
    exact rfl
  intro W6 g_f hW hg k_f
  have B6 : Below w.heap.size w W6 := B5.trans (hW.mono B5.size)
  have o_f : w.heap.size ≤ g_f := Nat.le_trans B5.size hg
  have l_f : g_t < g_f := Nat.lt_of_lt_of_le k_t.lt hg
  have l_f_u : g_u < g_f := Nat.lt_of_lt_of_le k_u.lt hg
  have l_f_v : g_v < g_f := Nat.lt_of_lt_of_le k_v.lt hg
  have k_a := k_a.below hW
  have k_b := k_b.below hW
  have k_c := k_c.below hW
  have k_y := k_y.below hW
  have k_r := k_r.below hW
  have k_u := k_u.below hW
  have k_v := k_v.below hW
  have k_t := k_t.below hW
  clear hW hg B5
  clear c_a_0 c_a_1 c_a_2 c_b_0 c_b_1 c_b_2 c_c_0 c_c_1 c_c_2 c_y_0 c_y_1 c_y_2 c_y_3 c_y_4 c_y_5 c_y_6 c_r_0 c_r_1 c_u_0 c_u_1 c_u_2 c_v_0 c_v_1 c_v_2 c_t_0 c_t_1 c_t_2
  simp only [edgeAt, List.drop_succ_cons, List.drop_zero, Act.put, List.setIfInBounds_toArray, List.set_cons_zero, List.set_cons_succ]
  obtain ⟨c_a_0, c_a_1, c_a_2⟩ := bwc3 (k_a)
  obtain ⟨c_b_0, c_b_1, c_b_2⟩ := bwc3 (k_b)
  obtain ⟨c_c_0, c_c_1, c_c_2⟩ := bwc3 (k_c)
  obtain ⟨c_y_0, c_y_1, c_y_2, c_y_3, c_y_4, c_y_5, c_y_6⟩ := bwc7 (k_y)
  obtain ⟨c_r_0, c_r_1⟩ := bwc2 (k_r)
  obtain ⟨c_u_0, c_u_1, c_u_2⟩ := bwc3 (k_u)
  obtain ⟨c_v_0, c_v_1, c_v_2⟩ := bwc3 (k_v)
  obtain ⟨c_t_0, c_t_1, c_t_2⟩ := bwc3 (k_t)
  obtain ⟨c_f_0, c_f_1⟩ := bwc2 (k_f)
  obtain ⟨f_f_0, f_f_1⟩ := bwf2 (k_f)
  obtain ⟨p6, hp6⟩ : ∃ p : BW W6, p.w = W6 := ⟨BW.start W6, rfl⟩
  rw [← hp6]
  clear hp6
  go_upto_region 5 with (fail)
  obtain ⟨W7, hW7⟩ : ∃ W, W = (p6.w.setCell ⟨g_f, 0, none⟩ (.int .i64 f1)).setCell ⟨g_f, 1, none⟩ (.int .i64 f2) := ⟨_, rfl⟩
  have B7 : Below w.heap.size w W7 := by rw [hW7]; exact blp2 (bw_below B6 p6) (by omega)
  have k_a := bkoe2 hW7 (k_a.below p6.h) (by omega)
  have k_b := bkoe2 hW7 (k_b.below p6.h) (by omega)
  have k_c := bkoe2 hW7 (k_c.below p6.h) (by omega)
  have k_y := bkoe2 hW7 (k_y.below p6.h) (by omega)
  have k_r := bkoe2 hW7 (k_r.below p6.h) (by omega)
  have k_u := bkoe2 hW7 (k_u.below p6.h) (by omega)
  have k_v := bkoe2 hW7 (k_v.below p6.h) (by omega)
  have k_t := bkoe2 hW7 (k_t.below p6.h) (by omega)
  have k_f := bkpe2 hW7 (k_f.below p6.h)
  rw [← hW7]
  clear hW7
  clear B6
  clear c_a_0 c_a_1 c_a_2 c_b_0 c_b_1 c_b_2 c_c_0 c_c_1 c_c_2 c_y_0 c_y_1 c_y_2 c_y_3 c_y_4 c_y_5 c_y_6 c_r_0 c_r_1 c_u_0 c_u_1 c_u_2 c_v_0 c_v_1 c_v_2 c_t_0 c_t_1 c_t_2 c_f_0 c_f_1 f_f_0 f_f_1
  obtain ⟨c_a_0, c_a_1, c_a_2⟩ := bwc3 (k_a)
  obtain ⟨c_b_0, c_b_1, c_b_2⟩ := bwc3 (k_b)
  obtain ⟨c_c_0, c_c_1, c_c_2⟩ := bwc3 (k_c)
  obtain ⟨c_y_0, c_y_1, c_y_2, c_y_3, c_y_4, c_y_5, c_y_6⟩ := bwc7 (k_y)
  obtain ⟨c_r_0, c_r_1⟩ := bwc2 (k_r)
  obtain ⟨f_r_0, f_r_1⟩ := bwf2 (k_r)
  obtain ⟨c_u_0, c_u_1, c_u_2⟩ := bwc3 (k_u)
  obtain ⟨c_v_0, c_v_1, c_v_2⟩ := bwc3 (k_v)
  obtain ⟨c_t_0, c_t_1, c_t_2⟩ := bwc3 (k_t)
  obtain ⟨c_f_0, c_f_1⟩ := bwc2 (k_f)
  obtain ⟨p7, hp7⟩ : ∃ p : BW W7, p.w = W7 := ⟨BW.start W7, rfl⟩
  rw [← hp7]
  clear hp7
  refine wp_region_floatV (t := 23) (zs := #[.int .i64 t1, .int .i64 t2, .int .i64 t3, .int .i64 e1, .int .i64 e2, .int .i64 e3, .int .i64 m1, .int .i64 m2, .int .i64 m3]) 20 19 66 72 [54, 57, 61, 65] (fun g => .slice (some ⟨g, 0, none⟩) 3 3) (by kernel_rfl) (by kernel_rfl) (by kernel_rfl) (by kernel_rfl) rfl rfl ?_
  apply Exists.intro
  refine ⟨?_, ?_, ?_⟩
  · intro wb' hwb'
    obtain ⟨d_a_0, d_a_1, d_a_2⟩ := bwc3 (k_a.below hwb')
    obtain ⟨d_b_0, d_b_1, d_b_2⟩ := bwc3 (k_b.below hwb')
    obtain ⟨d_c_0, d_c_1, d_c_2⟩ := bwc3 (k_c.below hwb')
    obtain ⟨d_y_0, d_y_1, d_y_2, d_y_3, d_y_4, d_y_5, d_y_6⟩ := bwc7 (k_y.below hwb')
    obtain ⟨d_r_0, d_r_1⟩ := bwc2 (k_r.below hwb')
    obtain ⟨d_u_0, d_u_1, d_u_2⟩ := bwc3 (k_u.below hwb')
    obtain ⟨d_v_0, d_v_1, d_v_2⟩ := bwc3 (k_v.below hwb')
    obtain ⟨d_t_0, d_t_1, d_t_2⟩ := bwc3 (k_t.below hwb')
    obtain ⟨d_f_0, d_f_1⟩ := bwc2 (k_f.below hwb')
    simp only [maskAt, List.take_succ_cons, List.take_zero]
    repeat (go_big_quiet_step (first
      | (go_at_call 26; (first | (with_reducible exact bw_call KE.out _) | (with_reducible exact bw_call KF.out _)))))
    refine wpQuiet_nil ?_
    exact rfl
  · intro ax wx hp
    have e54 := hp 54 (by decide)
    have e57 := hp 57 (by decide)
    have e61 := hp 61 (by decide)
    have e65 := hp 65 (by decide)
    clear hp
    simp only [Act.put, List.setIfInBounds_toArray, List.set_cons_zero, List.set_cons_succ, List.getElem?_toArray, List.getElem?_cons_succ, List.getElem?_cons_zero] at e54 e57 e61 e65
    exact ⟨by simp [Region.wanted, yielded, e54, e57, e61, e65], by simp [execOp, go_sem, Act.eval, e54, e57, e61, e65]⟩
  intro W8 g_s hW hg k_s
  have B8 : Below w.heap.size w W8 := B7.trans (hW.mono B7.size)
  have o_s : w.heap.size ≤ g_s := Nat.le_trans B7.size hg
  have l_s : g_f < g_s := Nat.lt_of_lt_of_le k_f.lt hg
  have l_s_u : g_u < g_s := Nat.lt_of_lt_of_le k_u.lt hg
  have l_s_v : g_v < g_s := Nat.lt_of_lt_of_le k_v.lt hg
  have l_s_t : g_t < g_s := Nat.lt_of_lt_of_le k_t.lt hg
  have k_a := k_a.below hW
  have k_b := k_b.below hW
  have k_c := k_c.below hW
  have k_y := k_y.below hW
  have k_r := k_r.below hW
  have k_u := k_u.below hW
  have k_v := k_v.below hW
  have k_t := k_t.below hW
  have k_f := k_f.below hW
  clear hW hg B7
  clear c_a_0 c_a_1 c_a_2 c_b_0 c_b_1 c_b_2 c_c_0 c_c_1 c_c_2 c_y_0 c_y_1 c_y_2 c_y_3 c_y_4 c_y_5 c_y_6 c_r_0 c_r_1 f_r_0 f_r_1 c_u_0 c_u_1 c_u_2 c_v_0 c_v_1 c_v_2 c_t_0 c_t_1 c_t_2 c_f_0 c_f_1
  simp only [List.drop_succ_cons, List.drop_zero, Act.put, List.setIfInBounds_toArray, List.set_cons_zero, List.set_cons_succ]
  obtain ⟨c_a_0, c_a_1, c_a_2⟩ := bwc3 (k_a)
  obtain ⟨c_b_0, c_b_1, c_b_2⟩ := bwc3 (k_b)
  obtain ⟨c_c_0, c_c_1, c_c_2⟩ := bwc3 (k_c)
  obtain ⟨c_y_0, c_y_1, c_y_2, c_y_3, c_y_4, c_y_5, c_y_6⟩ := bwc7 (k_y)
  obtain ⟨c_r_0, c_r_1⟩ := bwc2 (k_r)
  obtain ⟨f_r_0, f_r_1⟩ := bwf2 (k_r)
  obtain ⟨c_u_0, c_u_1, c_u_2⟩ := bwc3 (k_u)
  obtain ⟨c_v_0, c_v_1, c_v_2⟩ := bwc3 (k_v)
  obtain ⟨c_t_0, c_t_1, c_t_2⟩ := bwc3 (k_t)
  obtain ⟨c_f_0, c_f_1⟩ := bwc2 (k_f)
  obtain ⟨c_s_0, c_s_1, c_s_2, c_s_3, c_s_4, c_s_5, c_s_6, c_s_7, c_s_8⟩ := bwc9 (k_s)
  obtain ⟨p8, hp8⟩ : ∃ p : BW W8, p.w = W8 := ⟨BW.start W8, rfl⟩
  rw [← hp8]
  clear hp8
  have KS2 : ∀ p : BW W8, Calls Tryz.prog 45 #[.agg #[.int .i64 d1, .int .i64 d2, .int .i64 d3], .slice (some ⟨g_s, 0, none⟩) 3 3] p.w fun e w' => e = .returned (.bool false) ∧ ∃ q : BW W8, w' = q.w := fun p =>
    (KS.out g_s p.w (k_s.below p.h)).mono fun e w' h => ⟨h.1, p.next w' h.2, rfl⟩
  go_wp2_with (go_at_call 45; (with_reducible refine (KS2 _).mono ?_); rintro e w' ⟨rfl, q, rfl⟩)
  have kr := bkp2 (k_r.below q.h) (.int .i64 0) (.int .i64 0)
  obtain ⟨rc0, rc1⟩ := rwc2 kr
  exact bodyPost_ret (v := .tuple #[.agg #[.int .i64 0, .int .i64 0], .bool false]) (by simp [results, Tryz.results22, go_sem, rc0, rc1]) rfl ⟨rfl, blp2 (bw_below B8 q) (by omega)⟩

set_option maxRecDepth 100000 in
set_option maxHeartbeats 4000000 in
theorem tri_Hit_yes (a1 a2 a3 b1 b2 b3 c1 c2 c3 o1 o2 o3 d1 d2 d3 fr : Int) (w : World) (hp : (pl3 (a1, a2, a3) (b1, b2, b3) (c1, c2, c3) && plc (o1, o2, o3)) = true) (hk : fmakeOk (vvol (b1 - a1) (b2 - a2) (b3 - a3) (c1 - a1) (c2 - a2) (c3 - a3) (a1 - o1) (a2 - o2) (a3 - o3)) (vvol (b1 - a1) (b2 - a2) (b3 - a3) (c1 - a1) (c2 - a2) (c3 - a3) d1 d2 d3) = true) (hg : decide ((fmake (vvol (b1 - a1) (b2 - a2) (b3 - a3) (c1 - a1) (c2 - a2) (c3 - a3) (a1 - o1) (a2 - o2) (a3 - o3)) (vvol (b1 - a1) (b2 - a2) (b3 - a3) (c1 - a1) (c2 - a2) (c3 - a3) d1 d2 d3)).1 ≤ 0) = false) (hs : srd (vvol d1 d2 d3 (a1 - o1) (a2 - o2) (a3 - o3) (b1 - o1) (b2 - o2) (b3 - o3)) (vvol d1 d2 d3 (b1 - o1) (b2 - o2) (b3 - o3) (c1 - o1) (c2 - o2) (c3 - o3)) (vvol d1 d2 d3 (c1 - o1) (c2 - o2) (c3 - o3) (a1 - o1) (a2 - o2) (a3 - o3)) = true) :
    Calls Tryz.prog 22 #[.agg #[.int .i64 a1, .int .i64 a2, .int .i64 a3], .agg #[.int .i64 b1, .int .i64 b2, .int .i64 b3], .agg #[.int .i64 c1, .int .i64 c2, .int .i64 c3], .agg #[.int .i64 o1, .int .i64 o2, .int .i64 o3, .int .i64 d1, .int .i64 d2, .int .i64 d3, .int .i64 fr]] w fun en w' => en = .returned (.tuple #[.agg #[.int .i64 (fmake (vvol (b1 - a1) (b2 - a2) (b3 - a3) (c1 - a1) (c2 - a2) (c3 - a3) (a1 - o1) (a2 - o2) (a3 - o3)) (vvol (b1 - a1) (b2 - a2) (b3 - a3) (c1 - a1) (c2 - a2) (c3 - a3) d1 d2 d3)).1, .int .i64 (fmake (vvol (b1 - a1) (b2 - a2) (b3 - a3) (c1 - a1) (c2 - a2) (c3 - a3) (a1 - o1) (a2 - o2) (a3 - o3)) (vvol (b1 - a1) (b2 - a2) (b3 - a3) (c1 - a1) (c2 - a2) (c3 - a3) d1 d2 d3)).2], .bool true]) ∧ Below w.heap.size w w' := by
  obtain ⟨h0, h4⟩ := Bool.and_eq_true_iff.1 hp
  obtain ⟨h1, h2, h3⟩ := pl3_iff.1 h0
  have q1 := plc_iff.1 h1
  dsimp only at q1
  have q2 := plc_iff.1 h2
  dsimp only at q2
  have q3 := plc_iff.1 h3
  dsimp only at q3
  have q4 := plc_iff.1 h4
  dsimp only at q4
  have vb := @vvol_61
  have i1 := vb (b1 - a1) (b2 - a2) (b3 - a3) (c1 - a1) (c2 - a2) (c3 - a3) (a1 - o1) (a2 - o2) (a3 - o3)
  have i2 := vb (b1 - a1) (b2 - a2) (b3 - a3) (c1 - a1) (c2 - a2) (c3 - a3) d1 d2 d3
  have KM := Lib.hid (fun w => frac_Make (vvol (b1 - a1) (b2 - a2) (b3 - a3) (c1 - a1) (c2 - a2) (c3 - a3) (a1 - o1) (a2 - o2) (a3 - o3)) (vvol (b1 - a1) (b2 - a2) (b3 - a3) (c1 - a1) (c2 - a2) (c3 - a3) d1 d2 d3) w (by unfold I64; omega) (by unfold I64; omega))
  rw [hk] at KM
  clear vb i1 i2
  have KU := Lib.hid (fun w => vec_Sub b1 b2 b3 a1 a2 a3 w (by unfold I64; omega) (by unfold I64; omega) (by unfold I64; omega) (by unfold I64; omega) (by unfold I64; omega) (by unfold I64; omega))
  rw [vsub_pl (x := b1) (a := a1) (by omega) (by omega), vsub_pl (x := b2) (a := a2) (by omega) (by omega), vsub_pl (x := b3) (a := a3) (by omega) (by omega)] at KU
  obtain ⟨u1, hu1⟩ : ∃ t, t = b1 - a1 := ⟨_, rfl⟩
  obtain ⟨u2, hu2⟩ : ∃ t, t = b2 - a2 := ⟨_, rfl⟩
  obtain ⟨u3, hu3⟩ : ∃ t, t = b3 - a3 := ⟨_, rfl⟩
  rw [← hu1, ← hu2, ← hu3] at KU
  have KV := Lib.hid (fun w => vec_Sub c1 c2 c3 a1 a2 a3 w (by unfold I64; omega) (by unfold I64; omega) (by unfold I64; omega) (by unfold I64; omega) (by unfold I64; omega) (by unfold I64; omega))
  rw [vsub_pl (x := c1) (a := a1) (by omega) (by omega), vsub_pl (x := c2) (a := a2) (by omega) (by omega), vsub_pl (x := c3) (a := a3) (by omega) (by omega)] at KV
  obtain ⟨v1, hv1⟩ : ∃ t, t = c1 - a1 := ⟨_, rfl⟩
  obtain ⟨v2, hv2⟩ : ∃ t, t = c2 - a2 := ⟨_, rfl⟩
  obtain ⟨v3, hv3⟩ : ∃ t, t = c3 - a3 := ⟨_, rfl⟩
  rw [← hv1, ← hv2, ← hv3] at KV
  have KT := Lib.hid (fun w => vec_Sub a1 a2 a3 o1 o2 o3 w (by unfold I64; omega) (by unfold I64; omega) (by unfold I64; omega) (by unfold I64; omega) (by unfold I64; omega) (by unfold I64; omega))
  rw [vsub_pl (x := a1) (a := o1) (by omega) (by omega), vsub_pl (x := a2) (a := o2) (by omega) (by omega), vsub_pl (x := a3) (a := o3) (by omega) (by omega)] at KT
  obtain ⟨t1, ht1⟩ : ∃ t, t = a1 - o1 := ⟨_, rfl⟩
  obtain ⟨t2, ht2⟩ : ∃ t, t = a2 - o2 := ⟨_, rfl⟩
  obtain ⟨t3, ht3⟩ : ∃ t, t = a3 - o3 := ⟨_, rfl⟩
  rw [← ht1, ← ht2, ← ht3] at KT
  rw [← hu1, ← hu2, ← hu3, ← hv1, ← hv2, ← hv3, ← ht1, ← ht2, ← ht3] at KM hk hg ⊢
  have KE := Lib.hid (fun w => vec_Sub b1 b2 b3 o1 o2 o3 w (by unfold I64; omega) (by unfold I64; omega) (by unfold I64; omega) (by unfold I64; omega) (by unfold I64; omega) (by unfold I64; omega))
  rw [vsub_pl (x := b1) (a := o1) (by omega) (by omega), vsub_pl (x := b2) (a := o2) (by omega) (by omega), vsub_pl (x := b3) (a := o3) (by omega) (by omega)] at KE
  obtain ⟨e1, he1⟩ : ∃ t, t = b1 - o1 := ⟨_, rfl⟩
  obtain ⟨e2, he2⟩ : ∃ t, t = b2 - o2 := ⟨_, rfl⟩
  obtain ⟨e3, he3⟩ : ∃ t, t = b3 - o3 := ⟨_, rfl⟩
  rw [← he1, ← he2, ← he3] at KE
  have KF := Lib.hid (fun w => vec_Sub c1 c2 c3 o1 o2 o3 w (by unfold I64; omega) (by unfold I64; omega) (by unfold I64; omega) (by unfold I64; omega) (by unfold I64; omega) (by unfold I64; omega))
  rw [vsub_pl (x := c1) (a := o1) (by omega) (by omega), vsub_pl (x := c2) (a := o2) (by omega) (by omega), vsub_pl (x := c3) (a := o3) (by omega) (by omega)] at KF
  obtain ⟨m1, hm1⟩ : ∃ t, t = c1 - o1 := ⟨_, rfl⟩
  obtain ⟨m2, hm2⟩ : ∃ t, t = c2 - o2 := ⟨_, rfl⟩
  obtain ⟨m3, hm3⟩ : ∃ t, t = c3 - o3 := ⟨_, rfl⟩
  rw [← hm1, ← hm2, ← hm3] at KF
  rw [← ht1, ← ht2, ← ht3, ← he1, ← he2, ← he3, ← hm1, ← hm2, ← hm3] at hs
  have KS := Lib.hid (fun (b : Nat) (w : World) kb => tri_surround d1 d2 d3 t1 t2 t3 e1 e2 e3 m1 m2 m3 w b 3 kb)
  rw [hs] at KS
  clear hs
  have KN := Lib.hid (fun w => vec_Volume u1 u2 u3 v1 v2 v3 t1 t2 t3 w)
  have KD := Lib.hid (fun w => vec_Volume u1 u2 u3 v1 v2 v3 d1 d2 d3 w)
  generalize vvol u1 u2 u3 v1 v2 v3 t1 t2 t3 = num at *
  generalize vvol u1 u2 u3 v1 v2 v3 d1 d2 d3 = den at *
  generalize fmake num den = X at *
  obtain ⟨f1, f2⟩ := X
  dsimp only at KM hg ⊢
  clear hk h0 h1 h2 h3 h4 q1 q2 q3 q4 hu1 hu2 hu3 hv1 hv2 hv3 ht1 ht2 ht3 he1 he2 he3 hm1 hm2 hm3
  go_enter Tryz.func22, Tryz.ntmps22
  go_upto_region 1 with (fail)
  obtain ⟨W1, hW1⟩ : ∃ W, W = ((((w.alloc (.cells #[.int .i64 a1, .int .i64 a2, .int .i64 a3] 23)).alloc (.cells #[.int .i64 b1, .int .i64 b2, .int .i64 b3] 23)).alloc (.cells #[.int .i64 c1, .int .i64 c2, .int .i64 c3] 23)).alloc (.cells #[.int .i64 o1, .int .i64 o2, .int .i64 o3, .int .i64 d1, .int .i64 d2, .int .i64 d3, .int .i64 fr] 27)).alloc (.cells #[.int .i64 0, .int .i64 0] 32) := ⟨_, rfl⟩
  obtain ⟨k_a, k_b, k_c, k_y, k_r, B1⟩ := st5 hW1
  rw [← hW1]
  clear hW1
  have l_b : w.heap.size < w.heap.size + 1 := by omega
  have l_c : w.heap.size + 1 < w.heap.size + 1 + 1 := by omega
  have l_y : w.heap.size + 1 + 1 < w.heap.size + 1 + 1 + 1 := by omega
  have l_r : w.heap.size + 1 + 1 + 1 < w.heap.size + 1 + 1 + 1 + 1 := by omega
  generalize w.heap.size + 1 + 1 + 1 + 1 = g_r at *
  generalize w.heap.size + 1 + 1 + 1 = g_y at *
  generalize w.heap.size + 1 + 1 = g_c at *
  generalize w.heap.size + 1 = g_b at *
  obtain ⟨c_a_0, c_a_1, c_a_2⟩ := bwc3 (k_a)
  obtain ⟨c_b_0, c_b_1, c_b_2⟩ := bwc3 (k_b)
  obtain ⟨c_c_0, c_c_1, c_c_2⟩ := bwc3 (k_c)
  obtain ⟨c_y_0, c_y_1, c_y_2, c_y_3, c_y_4, c_y_5, c_y_6⟩ := bwc7 (k_y)
  obtain ⟨c_r_0, c_r_1⟩ := bwc2 (k_r)
  obtain ⟨f_r_0, f_r_1⟩ := bwf2 (k_r)
  obtain ⟨p1, hp1⟩ : ∃ p : BW W1, p.w = W1 := ⟨BW.start W1, rfl⟩
  rw [← hp1]
  clear hp1
  have KC : ∀ p : BW W1, Calls Tryz.prog 42 #[.slice (some ⟨p.w.heap.size, 0, none⟩) 4 4] (p.w.alloc (.cells #[.int .i64 a1, .int .i64 a2, .int .i64 a3, .int .i64 b1, .int .i64 b2, .int .i64 b3, .int .i64 c1, .int .i64 c2, .int .i64 c3, .int .i64 o1, .int .i64 o2, .int .i64 o3] 23)) fun e w' => e = .returned (.bool true) ∧ ∃ q : BW W1, w' = q.w := fun p =>
    (tri_places4 4 a1 a2 a3 b1 b2 b3 c1 c2 c3 o1 o2 o3 W1 p.w _ rfl p.h).mono fun e w' h => ⟨by rw [hp] at h; exact h.1, ⟨w', h.2⟩, rfl⟩
  clear hp
  go_upto_region 3 with (go_at_call 42; (with_reducible refine (KC _).mono ?_); rintro e w' ⟨rfl, q, rfl⟩)
  clear KC
  refine wp_region_floatL 13 72 [⟨10, 10, 23, #[.int .i64 0, .int .i64 0, .int .i64 0]⟩, ⟨11, 11, 23, #[.int .i64 0, .int .i64 0, .int .i64 0]⟩, ⟨12, 12, 23, #[.int .i64 0, .int .i64 0, .int .i64 0]⟩] (by kernel_rfl) (by kernel_rfl) (by kernel_rfl) (by kernel_rfl) (by kernel_rfl) (by decide) (by kernel_rfl) ?_ ?_
  · exact ⟨⟨_, rfl, fun ev wx => by simp [execOp, go_sem]⟩, ⟨_, rfl, fun ev wx => by simp [execOp, go_sem]⟩, ⟨_, rfl, fun ev wx => by simp [execOp, go_sem]⟩, trivial⟩
  apply Exists.intro
  refine ⟨?_, ?_⟩
  · intro wb' hwb'
    obtain ⟨d_a_0, d_a_1, d_a_2⟩ := bwc3 (k_a.below hwb')
    obtain ⟨d_b_0, d_b_1, d_b_2⟩ := bwc3 (k_b.below hwb')
    obtain ⟨d_c_0, d_c_1, d_c_2⟩ := bwc3 (k_c.below hwb')
    obtain ⟨d_y_0, d_y_1, d_y_2, d_y_3, d_y_4, d_y_5, d_y_6⟩ := bwc7 (k_y.below hwb')
    obtain ⟨d_r_0, d_r_1⟩ := bwc2 (k_r.below hwb')
    simp only [List.map_cons, List.map_nil, maskL, List.foldr_cons, List.foldr_nil, maskAt, List.take_succ_cons, List.take_zero]
    repeat (go_big_quiet_step (first
      | (go_at_call 26; (first | (with_reducible exact bw_call KU.out _) | (with_reducible exact bw_call KV.out _) | (with_reducible exact bw_call KT.out _)))))
    refine wpQuiet_nil ?_
    exact rfl
  intro W2 st hW hst hne
  obtain ⟨g_u, e_u, hg_u, k_u⟩ := hst 0 _ rfl
  obtain ⟨g_v, e_v, hg_v, k_v⟩ := hst 1 _ rfl
  obtain ⟨g_t, e_t, hg_t, k_t⟩ := hst 2 _ rfl
  have n_u_v : g_u ≠ g_v := fun e => hne 0 1 _ (by simp) (by simp) (by omega) e_u (by rw [e]; exact e_v)
  have n_u_t : g_u ≠ g_t := fun e => hne 0 2 _ (by simp) (by simp) (by omega) e_u (by rw [e]; exact e_t)
  have n_v_t : g_v ≠ g_t := fun e => hne 1 2 _ (by simp) (by simp) (by omega) e_v (by rw [e]; exact e_t)
  have B2 : Below w.heap.size w W2 := B1.trans (hW.mono B1.size)
  have l_u : g_r < g_u := Nat.lt_of_lt_of_le k_r.lt hg_u
  have l_v : g_r < g_v := Nat.lt_of_lt_of_le k_r.lt hg_v
  have l_t : g_r < g_t := Nat.lt_of_lt_of_le k_r.lt hg_t
  have k_a := k_a.below hW
  have k_b := k_b.below hW
  have k_c := k_c.below hW
  have k_y := k_y.below hW
  have k_r := k_r.below hW
  simp only [List.drop_succ_cons, List.drop_zero, putAll, Nat.zero_add, Nat.reduceAdd, e_u, e_v, e_t, putO, Act.put, List.setIfInBounds_toArray, List.set_cons_zero, List.set_cons_succ]
  clear hW hst hne B1 hg_u e_u hg_v e_v hg_t e_t
  clear c_a_0 c_a_1 c_a_2 c_b_0 c_b_1 c_b_2 c_c_0 c_c_1 c_c_2 c_y_0 c_y_1 c_y_2 c_y_3 c_y_4 c_y_5 c_y_6 c_r_0 c_r_1 f_r_0 f_r_1
  obtain ⟨c_a_0, c_a_1, c_a_2⟩ := bwc3 (k_a)
  obtain ⟨c_b_0, c_b_1, c_b_2⟩ := bwc3 (k_b)
  obtain ⟨c_c_0, c_c_1, c_c_2⟩ := bwc3 (k_c)
  obtain ⟨c_y_0, c_y_1, c_y_2, c_y_3, c_y_4, c_y_5, c_y_6⟩ := bwc7 (k_y)
  obtain ⟨c_r_0, c_r_1⟩ := bwc2 (k_r)
  obtain ⟨c_u_0, c_u_1, c_u_2⟩ := bwc3 (k_u)
  obtain ⟨f_u_0, f_u_1, f_u_2⟩ := bwf3 (k_u)
  obtain ⟨c_v_0, c_v_1, c_v_2⟩ := bwc3 (k_v)
  obtain ⟨f_v_0, f_v_1, f_v_2⟩ := bwf3 (k_v)
  obtain ⟨c_t_0, c_t_1, c_t_2⟩ := bwc3 (k_t)
  obtain ⟨f_t_0, f_t_1, f_t_2⟩ := bwf3 (k_t)
  obtain ⟨p2, hp2⟩ : ∃ p : BW W2, p.w = W2 := ⟨BW.start W2, rfl⟩
  rw [← hp2]
  clear hp2
  go_upto_region 4 with (fail)
  obtain ⟨W3, hW3⟩ : ∃ W, W = ((p2.w.setCell ⟨g_u, 0, none⟩ (.int .i64 u1)).setCell ⟨g_u, 1, none⟩ (.int .i64 u2)).setCell ⟨g_u, 2, none⟩ (.int .i64 u3) := ⟨_, rfl⟩
  have B3 : Below w.heap.size w W3 := by rw [hW3]; exact blp3 (bw_below B2 p2) (by omega)
  have k_a := bkoe3 hW3 (k_a.below p2.h) (by omega)
  have k_b := bkoe3 hW3 (k_b.below p2.h) (by omega)
  have k_c := bkoe3 hW3 (k_c.below p2.h) (by omega)
  have k_y := bkoe3 hW3 (k_y.below p2.h) (by omega)
  have k_r := bkoe3 hW3 (k_r.below p2.h) (by omega)
  have k_u := bkpe3 hW3 (k_u.below p2.h)
  have k_v := bkoe3 hW3 (k_v.below p2.h) (by omega)
  have k_t := bkoe3 hW3 (k_t.below p2.h) (by omega)
  rw [← hW3]
  clear hW3
  clear B2
  clear c_a_0 c_a_1 c_a_2 c_b_0 c_b_1 c_b_2 c_c_0 c_c_1 c_c_2 c_y_0 c_y_1 c_y_2 c_y_3 c_y_4 c_y_5 c_y_6 c_r_0 c_r_1 c_u_0 c_u_1 c_u_2 f_u_0 f_u_1 f_u_2 c_v_0 c_v_1 c_v_2 f_v_0 f_v_1 f_v_2 c_t_0 c_t_1 c_t_2 f_t_0 f_t_1 f_t_2
  obtain ⟨c_a_0, c_a_1, c_a_2⟩ := bwc3 (k_a)
  obtain ⟨c_b_0, c_b_1, c_b_2⟩ := bwc3 (k_b)
  obtain ⟨c_c_0, c_c_1, c_c_2⟩ := bwc3 (k_c)
  obtain ⟨c_y_0, c_y_1, c_y_2, c_y_3, c_y_4, c_y_5, c_y_6⟩ := bwc7 (k_y)
  obtain ⟨c_r_0, c_r_1⟩ := bwc2 (k_r)
  obtain ⟨c_u_0, c_u_1, c_u_2⟩ := bwc3 (k_u)
  obtain ⟨f_u_0, f_u_1, f_u_2⟩ := bwf3 (k_u)
  obtain ⟨c_v_0, c_v_1, c_v_2⟩ := bwc3 (k_v)
  obtain ⟨f_v_0, f_v_1, f_v_2⟩ := bwf3 (k_v)
  obtain ⟨c_t_0, c_t_1, c_t_2⟩ := bwc3 (k_t)
  obtain ⟨f_t_0, f_t_1, f_t_2⟩ := bwf3 (k_t)
  obtain ⟨p3, hp3⟩ : ∃ p : BW W3, p.w = W3 := ⟨BW.start W3, rfl⟩
  rw [← hp3]
  clear hp3
  obtain ⟨W4, hW4⟩ : ∃ W, W = ((p3.w.setCell ⟨g_v, 0, none⟩ (.int .i64 v1)).setCell ⟨g_v, 1, none⟩ (.int .i64 v2)).setCell ⟨g_v, 2, none⟩ (.int .i64 v3) := ⟨_, rfl⟩
  have B4 : Below w.heap.size w W4 := by rw [hW4]; exact blp3 (bw_below B3 p3) (by omega)
  have k_a := bkoe3 hW4 (k_a.below p3.h) (by omega)
  have k_b := bkoe3 hW4 (k_b.below p3.h) (by omega)
  have k_c := bkoe3 hW4 (k_c.below p3.h) (by omega)
  have k_y := bkoe3 hW4 (k_y.below p3.h) (by omega)
  have k_r := bkoe3 hW4 (k_r.below p3.h) (by omega)
  have k_u := bkoe3 hW4 (k_u.below p3.h) (by omega)
  have k_v := bkpe3 hW4 (k_v.below p3.h)
  have k_t := bkoe3 hW4 (k_t.below p3.h) (by omega)
  rw [← hW4]
  clear hW4
  clear B3
  clear c_a_0 c_a_1 c_a_2 c_b_0 c_b_1 c_b_2 c_c_0 c_c_1 c_c_2 c_y_0 c_y_1 c_y_2 c_y_3 c_y_4 c_y_5 c_y_6 c_r_0 c_r_1 c_u_0 c_u_1 c_u_2 f_u_0 f_u_1 f_u_2 c_v_0 c_v_1 c_v_2 f_v_0 f_v_1 f_v_2 c_t_0 c_t_1 c_t_2 f_t_0 f_t_1 f_t_2
  obtain ⟨c_a_0, c_a_1, c_a_2⟩ := bwc3 (k_a)
  obtain ⟨c_b_0, c_b_1, c_b_2⟩ := bwc3 (k_b)
  obtain ⟨c_c_0, c_c_1, c_c_2⟩ := bwc3 (k_c)
  obtain ⟨c_y_0, c_y_1, c_y_2, c_y_3, c_y_4, c_y_5, c_y_6⟩ := bwc7 (k_y)
  obtain ⟨c_r_0, c_r_1⟩ := bwc2 (k_r)
  obtain ⟨c_u_0, c_u_1, c_u_2⟩ := bwc3 (k_u)
  obtain ⟨f_u_0, f_u_1, f_u_2⟩ := bwf3 (k_u)
  obtain ⟨c_v_0, c_v_1, c_v_2⟩ := bwc3 (k_v)
  obtain ⟨f_v_0, f_v_1, f_v_2⟩ := bwf3 (k_v)
  obtain ⟨c_t_0, c_t_1, c_t_2⟩ := bwc3 (k_t)
  obtain ⟨f_t_0, f_t_1, f_t_2⟩ := bwf3 (k_t)
  obtain ⟨p4, hp4⟩ : ∃ p : BW W4, p.w = W4 := ⟨BW.start W4, rfl⟩
  rw [← hp4]
  clear hp4
  obtain ⟨W5, hW5⟩ : ∃ W, W = ((p4.w.setCell ⟨g_t, 0, none⟩ (.int .i64 t1)).setCell ⟨g_t, 1, none⟩ (.int .i64 t2)).setCell ⟨g_t, 2, none⟩ (.int .i64 t3) := ⟨_, rfl⟩
  have B5 : Below w.heap.size w W5 := by rw [hW5]; exact blp3 (bw_below B4 p4) (by omega)
  have k_a := bkoe3 hW5 (k_a.below p4.h) (by omega)
  have k_b := bkoe3 hW5 (k_b.below p4.h) (by omega)
  have k_c := bkoe3 hW5 (k_c.below p4.h) (by omega)
  have k_y := bkoe3 hW5 (k_y.below p4.h) (by omega)
  have k_r := bkoe3 hW5 (k_r.below p4.h) (by omega)
  have k_u := bkoe3 hW5 (k_u.below p4.h) (by omega)
  have k_v := bkoe3 hW5 (k_v.below p4.h) (by omega)
  have k_t := bkpe3 hW5 (k_t.below p4.h)
  rw [← hW5]
  clear hW5
  clear B4
  clear c_a_0 c_a_1 c_a_2 c_b_0 c_b_1 c_b_2 c_c_0 c_c_1 c_c_2 c_y_0 c_y_1 c_y_2 c_y_3 c_y_4 c_y_5 c_y_6 c_r_0 c_r_1 c_u_0 c_u_1 c_u_2 f_u_0 f_u_1 f_u_2 c_v_0 c_v_1 c_v_2 f_v_0 f_v_1 f_v_2 c_t_0 c_t_1 c_t_2 f_t_0 f_t_1 f_t_2
  obtain ⟨c_a_0, c_a_1, c_a_2⟩ := bwc3 (k_a)
  obtain ⟨c_b_0, c_b_1, c_b_2⟩ := bwc3 (k_b)
  obtain ⟨c_c_0, c_c_1, c_c_2⟩ := bwc3 (k_c)
  obtain ⟨c_y_0, c_y_1, c_y_2, c_y_3, c_y_4, c_y_5, c_y_6⟩ := bwc7 (k_y)
  obtain ⟨c_r_0, c_r_1⟩ := bwc2 (k_r)
  obtain ⟨c_u_0, c_u_1, c_u_2⟩ := bwc3 (k_u)
  obtain ⟨c_v_0, c_v_1, c_v_2⟩ := bwc3 (k_v)
  obtain ⟨c_t_0, c_t_1, c_t_2⟩ := bwc3 (k_t)
  obtain ⟨p5, hp5⟩ : ∃ p : BW W5, p.w = W5 := ⟨BW.start W5, rfl⟩
  rw [← hp5]
  clear hp5
  refine wp_region_late 12 14 46 (by kernel_rfl) (by kernel_rfl) rfl rfl rfl (fun _ _ _ _ h => h) ?_
  refine any_region_float (t := 32) (zs := #[.int .i64 0, .int .i64 0]) 14 13 13 72 (by kernel_rfl) (by kernel_rfl) (by kernel_rfl) (by kernel_rfl) rfl ?_ ?_
  · intro ev wx
    simp [execOp, go_sem]
  apply Exists.intro
  refine ⟨?_, ?_⟩
  · intro wb' hwb'
    obtain ⟨d_a_0, d_a_1, d_a_2⟩ := bwc3 (k_a.below hwb')
    obtain ⟨d_b_0, d_b_1, d_b_2⟩ := bwc3 (k_b.below hwb')
    obtain ⟨d_c_0, d_c_1, d_c_2⟩ := bwc3 (k_c.below hwb')
    obtain ⟨d_y_0, d_y_1, d_y_2, d_y_3, d_y_4, d_y_5, d_y_6⟩ := bwc7 (k_y.below hwb')
    obtain ⟨d_r_0, d_r_1⟩ := bwc2 (k_r.below hwb')
    obtain ⟨d_u_0, d_u_1, d_u_2⟩ := bwc3 (k_u.below hwb')
    obtain ⟨d_v_0, d_v_1, d_v_2⟩ := bwc3 (k_v.below hwb')
    obtain ⟨d_t_0, d_t_1, d_t_2⟩ := bwc3 (k_t.below hwb')
    simp only [edgeAt, maskAt, List.take_succ_cons, List.take_zero]
    repeat (go_big_quiet_step (first
      | (go_at_call 44; (first | (with_reducible exact bw_call KN.out _) | (with_reducible exact bw_call KD.out _)))
      | (go_at_call 43; (first | (with_reducible exact bw_call KM.out _)))))
    refine wpQuiet_nil ?_
    exact rfl
  intro W6 g_f hW hg k_f
  have B6 : Below w.heap.size w W6 := B5.trans (hW.mono B5.size)
  have o_f : w.heap.size ≤ g_f := Nat.le_trans B5.size hg
  have l_f : g_t < g_f := Nat.lt_of_lt_of_le k_t.lt hg
  have l_f_u : g_u < g_f := Nat.lt_of_lt_of_le k_u.lt hg
  have l_f_v : g_v < g_f := Nat.lt_of_lt_of_le k_v.lt hg
  have k_a := k_a.below hW
  have k_b := k_b.below hW
  have k_c := k_c.below hW
  have k_y := k_y.below hW
  have k_r := k_r.below hW
  have k_u := k_u.below hW
  have k_v := k_v.below hW
  have k_t := k_t.below hW
  clear hW hg B5
  clear c_a_0 c_a_1 c_a_2 c_b_0 c_b_1 c_b_2 c_c_0 c_c_1 c_c_2 c_y_0 c_y_1 c_y_2 c_y_3 c_y_4 c_y_5 c_y_6 c_r_0 c_r_1 c_u_0 c_u_1 c_u_2 c_v_0 c_v_1 c_v_2 c_t_0 c_t_1 c_t_2
  simp only [edgeAt, List.drop_succ_cons, List.drop_zero, Act.put, List.setIfInBounds_toArray, List.set_cons_zero, List.set_cons_succ]
  obtain ⟨c_a_0, c_a_1, c_a_2⟩ := bwc3 (k_a)
  obtain ⟨c_b_0, c_b_1, c_b_2⟩ := bwc3 (k_b)
  obtain ⟨c_c_0, c_c_1, c_c_2⟩ := bwc3 (k_c)
  obtain ⟨c_y_0, c_y_1, c_y_2, c_y_3, c_y_4, c_y_5, c_y_6⟩ := bwc7 (k_y)
  obtain ⟨c_r_0, c_r_1⟩ := bwc2 (k_r)
  obtain ⟨c_u_0, c_u_1, c_u_2⟩ := bwc3 (k_u)
  obtain ⟨c_v_0, c_v_1, c_v_2⟩ := bwc3 (k_v)
  obtain ⟨c_t_0, c_t_1, c_t_2⟩ := bwc3 (k_t)
  obtain ⟨c_f_0, c_f_1⟩ := bwc2 (k_f)
  obtain ⟨f_f_0, f_f_1⟩ := bwf2 (k_f)
  obtain ⟨p6, hp6⟩ : ∃ p : BW W6, p.w = W6 := ⟨BW.start W6, rfl⟩
  rw [← hp6]
  clear hp6
  go_upto_region 5 with (fail)
  obtain ⟨W7, hW7⟩ : ∃ W, W = (p6.w.setCell ⟨g_f, 0, none⟩ (.int .i64 f1)).setCell ⟨g_f, 1, none⟩ (.int .i64 f2) := ⟨_, rfl⟩
  have B7 : Below w.heap.size w W7 := by rw [hW7]; exact blp2 (bw_below B6 p6) (by omega)
  have k_a := bkoe2 hW7 (k_a.below p6.h) (by omega)
  have k_b := bkoe2 hW7 (k_b.below p6.h) (by omega)
  have k_c := bkoe2 hW7 (k_c.below p6.h) (by omega)
  have k_y := bkoe2 hW7 (k_y.below p6.h) (by omega)
  have k_r := bkoe2 hW7 (k_r.below p6.h) (by omega)
  have k_u := bkoe2 hW7 (k_u.below p6.h) (by omega)
  have k_v := bkoe2 hW7 (k_v.below p6.h) (by omega)
  have k_t := bkoe2 hW7 (k_t.below p6.h) (by omega)
  have k_f := bkpe2 hW7 (k_f.below p6.h)
  rw [← hW7]
  clear hW7
  clear B6
  clear c_a_0 c_a_1 c_a_2 c_b_0 c_b_1 c_b_2 c_c_0 c_c_1 c_c_2 c_y_0 c_y_1 c_y_2 c_y_3 c_y_4 c_y_5 c_y_6 c_r_0 c_r_1 c_u_0 c_u_1 c_u_2 c_v_0 c_v_1 c_v_2 c_t_0 c_t_1 c_t_2 c_f_0 c_f_1 f_f_0 f_f_1
  obtain ⟨c_a_0, c_a_1, c_a_2⟩ := bwc3 (k_a)
  obtain ⟨c_b_0, c_b_1, c_b_2⟩ := bwc3 (k_b)
  obtain ⟨c_c_0, c_c_1, c_c_2⟩ := bwc3 (k_c)
  obtain ⟨c_y_0, c_y_1, c_y_2, c_y_3, c_y_4, c_y_5, c_y_6⟩ := bwc7 (k_y)
  obtain ⟨c_r_0, c_r_1⟩ := bwc2 (k_r)
  obtain ⟨f_r_0, f_r_1⟩ := bwf2 (k_r)
  obtain ⟨c_u_0, c_u_1, c_u_2⟩ := bwc3 (k_u)
  obtain ⟨c_v_0, c_v_1, c_v_2⟩ := bwc3 (k_v)
  obtain ⟨c_t_0, c_t_1, c_t_2⟩ := bwc3 (k_t)
  obtain ⟨c_f_0, c_f_1⟩ := bwc2 (k_f)
  obtain ⟨p7, hp7⟩ : ∃ p : BW W7, p.w = W7 := ⟨BW.start W7, rfl⟩
  rw [← hp7]
  clear hp7
  refine wp_region_floatV (t := 23) (zs := #[.int .i64 t1, .int .i64 t2, .int .i64 t3, .int .i64 e1, .int .i64 e2, .int .i64 e3, .int .i64 m1, .int .i64 m2, .int .i64 m3]) 20 19 66 72 [54, 57, 61, 65] (fun g => .slice (some ⟨g, 0, none⟩) 3 3) (by kernel_rfl) (by kernel_rfl) (by kernel_rfl) (by kernel_rfl) rfl rfl ?_
  apply Exists.intro
  refine ⟨?_, ?_, ?_⟩
  · intro wb' hwb'
    obtain ⟨d_a_0, d_a_1, d_a_2⟩ := bwc3 (k_a.below hwb')
    obtain ⟨d_b_0, d_b_1, d_b_2⟩ := bwc3 (k_b.below hwb')
    obtain ⟨d_c_0, d_c_1, d_c_2⟩ := bwc3 (k_c.below hwb')
    obtain ⟨d_y_0, d_y_1, d_y_2, d_y_3, d_y_4, d_y_5, d_y_6⟩ := bwc7 (k_y.below hwb')
    obtain ⟨d_r_0, d_r_1⟩ := bwc2 (k_r.below hwb')
    obtain ⟨d_u_0, d_u_1, d_u_2⟩ := bwc3 (k_u.below hwb')
    obtain ⟨d_v_0, d_v_1, d_v_2⟩ := bwc3 (k_v.below hwb')
    obtain ⟨d_t_0, d_t_1, d_t_2⟩ := bwc3 (k_t.below hwb')
    obtain ⟨d_f_0, d_f_1⟩ := bwc2 (k_f.below hwb')
    simp only [maskAt, List.take_succ_cons, List.take_zero]
    repeat (go_big_quiet_step (first
      | (go_at_call 26; (first | (with_reducible exact bw_call KE.out _) | (with_reducible exact bw_call KF.out _)))))
    refine wpQuiet_nil ?_
    exact rfl
  · intro ax wx hp
    have e54 := hp 54 (by decide)
    have e57 := hp 57 (by decide)
    have e61 := hp 61 (by decide)
    have e65 := hp 65 (by decide)
    clear hp
    simp only [Act.put, List.setIfInBounds_toArray, List.set_cons_zero, List.set_cons_succ, List.getElem?_toArray, List.getElem?_cons_succ, List.getElem?_cons_zero] at e54 e57 e61 e65
    exact ⟨by simp [Region.wanted, yielded, e54, e57, e61, e65], by simp [execOp, go_sem, Act.eval, e54, e57, e61, e65]⟩
  intro W8 g_s hW hg k_s
  have B8 : Below w.heap.size w W8 := B7.trans (hW.mono B7.size)
  have o_s : w.heap.size ≤ g_s := Nat.le_trans B7.size hg
  have l_s : g_f < g_s := Nat.lt_of_lt_of_le k_f.lt hg
  have l_s_u : g_u < g_s := Nat.lt_of_lt_of_le k_u.lt hg
  have l_s_v : g_v < g_s := Nat.lt_of_lt_of_le k_v.lt hg
  have l_s_t : g_t < g_s := Nat.lt_of_lt_of_le k_t.lt hg
  have k_a := k_a.below hW
  have k_b := k_b.below hW
  have k_c := k_c.below hW
  have k_y := k_y.below hW
  have k_r := k_r.below hW
  have k_u := k_u.below hW
  have k_v := k_v.below hW
  have k_t := k_t.below hW
  have k_f := k_f.below hW
  clear hW hg B7
  clear c_a_0 c_a_1 c_a_2 c_b_0 c_b_1 c_b_2 c_c_0 c_c_1 c_c_2 c_y_0 c_y_1 c_y_2 c_y_3 c_y_4 c_y_5 c_y_6 c_r_0 c_r_1 f_r_0 f_r_1 c_u_0 c_u_1 c_u_2 c_v_0 c_v_1 c_v_2 c_t_0 c_t_1 c_t_2 c_f_0 c_f_1
  simp only [List.drop_succ_cons, List.drop_zero, Act.put, List.setIfInBounds_toArray, List.set_cons_zero, List.set_cons_succ]
  obtain ⟨c_a_0, c_a_1, c_a_2⟩ := bwc3 (k_a)
  obtain ⟨c_b_0, c_b_1, c_b_2⟩ := bwc3 (k_b)
  obtain ⟨c_c_0, c_c_1, c_c_2⟩ := bwc3 (k_c)
  obtain ⟨c_y_0, c_y_1, c_y_2, c_y_3, c_y_4, c_y_5, c_y_6⟩ := bwc7 (k_y)
  obtain ⟨c_r_0, c_r_1⟩ := bwc2 (k_r)
  obtain ⟨f_r_0, f_r_1⟩ := bwf2 (k_r)
  obtain ⟨c_u_0, c_u_1, c_u_2⟩ := bwc3 (k_u)
  obtain ⟨c_v_0, c_v_1, c_v_2⟩ := bwc3 (k_v)
  obtain ⟨c_t_0, c_t_1, c_t_2⟩ := bwc3 (k_t)
  obtain ⟨c_f_0, c_f_1⟩ := bwc2 (k_f)
  obtain ⟨c_s_0, c_s_1, c_s_2, c_s_3, c_s_4, c_s_5, c_s_6, c_s_7, c_s_8⟩ := bwc9 (k_s)
  obtain ⟨p8, hp8⟩ : ∃ p : BW W8, p.w = W8 := ⟨BW.start W8, rfl⟩
  rw [← hp8]
  clear hp8
  have KS2 : ∀ p : BW W8, Calls Tryz.prog 45 #[.agg #[.int .i64 d1, .int .i64 d2, .int .i64 d3], .slice (some ⟨g_s, 0, none⟩) 3 3] p.w fun e w' => e = .returned (.bool true) ∧ ∃ q : BW W8, w' = q.w := fun p =>
    (KS.out g_s p.w (k_s.below p.h)).mono fun e w' h => ⟨h.1, p.next w' h.2, rfl⟩
  go_wp2_with (go_at_call 45; (with_reducible refine (KS2 _).mono ?_); rintro e w' ⟨rfl, q, rfl⟩)
  have kr := bkp2 (k_r.below q.h) (.int .i64 f1) (.int .i64 f2)
  obtain ⟨rc0, rc1⟩ := rwc2 kr
  exact bodyPost_ret (v := .tuple #[.agg #[.int .i64 f1, .int .i64 f2], .bool true]) (by simp [results, Tryz.results22, go_sem, rc0, rc1]) rfl ⟨rfl, blp2 (bw_below B8 q) (by omega)⟩

theorem tri_Hit (a1 a2 a3 b1 b2 b3 c1 c2 c3 o1 o2 o3 d1 d2 d3 fr : Int) (w : World) (ha : I3 (a1, a2, a3)) (hb : I3 (b1, b2, b3)) (hc : I3 (c1, c2, c3)) (ho : I3 (o1, o2, o3)) (hd : I3 (d1, d2, d3)) :
    Calls Tryz.prog 22 #[.agg #[.int .i64 a1, .int .i64 a2, .int .i64 a3], .agg #[.int .i64 b1, .int .i64 b2, .int .i64 b3], .agg #[.int .i64 c1, .int .i64 c2, .int .i64 c3], .agg #[.int .i64 o1, .int .i64 o2, .int .i64 o3, .int .i64 d1, .int .i64 d2, .int .i64 d3, .int .i64 fr]] w fun en w' => en = .returned (.tuple #[.agg #[.int .i64 (tHit (a1, a2, a3) (b1, b2, b3) (c1, c2, c3) (o1, o2, o3) (d1, d2, d3)).1.1, .int .i64 (tHit (a1, a2, a3) (b1, b2, b3) (c1, c2, c3) (o1, o2, o3) (d1, d2, d3)).1.2], .bool (tHit (a1, a2, a3) (b1, b2, b3) (c1, c2, c3) (o1, o2, o3) (d1, d2, d3)).2]) ∧ Below w.heap.size w w' := by
  cases hp : (pl3 (a1, a2, a3) (b1, b2, b3) (c1, c2, c3) && plc (o1, o2, o3)) with
  | false => rw [tHit_no hp]; exact tri_Hit_no a1 a2 a3 b1 b2 b3 c1 c2 c3 o1 o2 o3 d1 d2 d3 fr w hp
  | true =>
    obtain ⟨h0, h4⟩ := Bool.and_eq_true_iff.1 hp
    obtain ⟨h1, h2, h3⟩ := pl3_iff.1 h0
    cases hn : nrT (d1, d2, d3) with
    | false =>
      rw [tHit_far hn]
      refine tri_Hit_nok a1 a2 a3 b1 b2 b3 c1 c2 c3 o1 o2 o3 d1 d2 d3 fr w hp (decide_eq_false ?_)
      rintro ⟨e, _⟩
      apply e
      unfold vvol
      rw [if_neg]
      rintro ⟨_, _, e3⟩
      unfold nrT at hn
      rw [e3] at hn
      cases hn
    | true =>
      rw [tHit_mk h0 h4 hn, ← vvol_X hn (nr_sb h1 h4) (nr_sb h2 h4), ← vvol_X hn (nr_sb h2 h4) (nr_sb h3 h4), ← vvol_X hn (nr_sb h3 h4) (nr_sb h1 h4), ← vvol_X (nr_sb h2 h1) (nr_sb h3 h1) (nr_sb h1 h4), ← vvol_X (nr_sb h2 h1) (nr_sb h3 h1) hn]
      unfold tMk sbT
      dsimp only
      cases hk : fmakeOk (vvol (b1 - a1) (b2 - a2) (b3 - a3) (c1 - a1) (c2 - a2) (c3 - a3) (a1 - o1) (a2 - o2) (a3 - o3)) (vvol (b1 - a1) (b2 - a2) (b3 - a3) (c1 - a1) (c2 - a2) (c3 - a3) d1 d2 d3) with
      | false => rw [if_neg (fun e => by cases e.1)]; exact tri_Hit_nok a1 a2 a3 b1 b2 b3 c1 c2 c3 o1 o2 o3 d1 d2 d3 fr w hp hk
      | true =>
        by_cases hg : (fmake (vvol (b1 - a1) (b2 - a2) (b3 - a3) (c1 - a1) (c2 - a2) (c3 - a3) (a1 - o1) (a2 - o2) (a3 - o3)) (vvol (b1 - a1) (b2 - a2) (b3 - a3) (c1 - a1) (c2 - a2) (c3 - a3) d1 d2 d3)).1 ≤ 0
        · rw [if_neg (fun e => by have := e.2.1; omega)]; exact tri_Hit_neg a1 a2 a3 b1 b2 b3 c1 c2 c3 o1 o2 o3 d1 d2 d3 fr w hp hk (decide_eq_true hg)
        · cases hs : srd (vvol d1 d2 d3 (a1 - o1) (a2 - o2) (a3 - o3) (b1 - o1) (b2 - o2) (b3 - o3)) (vvol d1 d2 d3 (b1 - o1) (b2 - o2) (b3 - o3) (c1 - o1) (c2 - o2) (c3 - o3)) (vvol d1 d2 d3 (c1 - o1) (c2 - o2) (c3 - o3) (a1 - o1) (a2 - o2) (a3 - o3)) with
          | false => rw [if_neg (fun e => by cases e.2.2)]; exact tri_Hit_out a1 a2 a3 b1 b2 b3 c1 c2 c3 o1 o2 o3 d1 d2 d3 fr w hp hk (decide_eq_false hg) hs
          | true => rw [if_pos ⟨rfl, by omega, rfl⟩]; exact tri_Hit_yes a1 a2 a3 b1 b2 b3 c1 c2 c3 o1 o2 o3 d1 d2 d3 fr w hp hk (decide_eq_false hg) hs

set_option maxRecDepth 100000 in
set_option maxHeartbeats 4000000 in
theorem tri_At_np (a1 a2 a3 b1 b2 b3 c1 c2 c3 u v : Int) (w : World) (hp : pl3 (a1, a2, a3) (b1, b2, b3) (c1, c2, c3) = false) :
    Calls Tryz.prog 38 #[.agg #[.int .i64 a1, .int .i64 a2, .int .i64 a3], .agg #[.int .i64 b1, .int .i64 b2, .int .i64 b3], .agg #[.int .i64 c1, .int .i64 c2, .int .i64 c3], .int .i64 u, .int .i64 v] w fun en w' => en = .returned (.agg #[.int .i64 0, .int .i64 0, .int .i64 0]) ∧ Below w.heap.size w w' := by
  go_enter Tryz.func38, Tryz.ntmps38
  go_upto_region 1 with (fail)
  obtain ⟨W1, hW1⟩ : ∃ W, W = (((w.alloc (.cells #[.int .i64 a1, .int .i64 a2, .int .i64 a3] 23)).alloc (.cells #[.int .i64 b1, .int .i64 b2, .int .i64 b3] 23)).alloc (.cells #[.int .i64 c1, .int .i64 c2, .int .i64 c3] 23)).alloc (.cells #[.int .i64 0, .int .i64 0, .int .i64 0] 23) := ⟨_, rfl⟩
  obtain ⟨k_a, k_b, k_c, k_r, B1⟩ := st4 hW1
  rw [← hW1]
  clear hW1
  have l_b : w.heap.size < w.heap.size + 1 := by omega
  have l_c : w.heap.size + 1 < w.heap.size + 1 + 1 := by omega
  have l_r : w.heap.size + 1 + 1 < w.heap.size + 1 + 1 + 1 := by omega
  generalize w.heap.size + 1 + 1 + 1 = g_r at *
  generalize w.heap.size + 1 + 1 = g_c at *
  generalize w.heap.size + 1 = g_b at *
  obtain ⟨c_a_0, c_a_1, c_a_2⟩ := bwc3 (k_a)
  obtain ⟨c_b_0, c_b_1, c_b_2⟩ := bwc3 (k_b)
  obtain ⟨c_c_0, c_c_1, c_c_2⟩ := bwc3 (k_c)
  obtain ⟨c_r_0, c_r_1, c_r_2⟩ := bwc3 (k_r)
  obtain ⟨f_r_0, f_r_1, f_r_2⟩ := bwf3 (k_r)
  obtain ⟨p1, hp1⟩ : ∃ p : BW W1, p.w = W1 := ⟨BW.start W1, rfl⟩
  rw [← hp1]
  clear hp1
  have KC : ∀ p : BW W1, Calls Tryz.prog 42 #[.slice (some ⟨p.w.heap.size, 0, none⟩) 3 3] (p.w.alloc (.cells #[.int .i64 a1, .int .i64 a2, .int .i64 a3, .int .i64 b1, .int .i64 b2, .int .i64 b3, .int .i64 c1, .int .i64 c2, .int .i64 c3] 23)) fun e w' => e = .returned (.bool false) ∧ ∃ q : BW W1, w' = q.w := fun p =>
    (tri_places3 3 a1 a2 a3 b1 b2 b3 c1 c2 c3 W1 p.w _ rfl p.h).mono fun e w' h => ⟨by rw [hp] at h; exact h.1, ⟨w', h.2⟩, rfl⟩
  clear hp
  go_wp2_with (go_at_call 42; (with_reducible refine (KC _).mono ?_); rintro e w' ⟨rfl, q, rfl⟩)
  have kr := bkp3 (k_r.below q.h) (.int .i64 0) (.int .i64 0) (.int .i64 0)
  obtain ⟨rc0, rc1, rc2⟩ := rwc3 kr
  exact bodyPost_ret (v := .agg #[.int .i64 0, .int .i64 0, .int .i64 0]) (by simp [results, Tryz.results38, go_sem, rc0, rc1, rc2]) rfl ⟨rfl, blp3 (bw_below B1 q) (by omega)⟩

set_option maxRecDepth 100000 in
set_option maxHeartbeats 4000000 in
theorem tri_At_mn (a1 a2 a3 b1 b2 b3 c1 c2 c3 u v : Int) (w : World) (hp : pl3 (a1, a2, a3) (b1, b2, b3) (c1, c2, c3) = true) (hm : min u v < 0) :
    Calls Tryz.prog 38 #[.agg #[.int .i64 a1, .int .i64 a2, .int .i64 a3], .agg #[.int .i64 b1, .int .i64 b2, .int .i64 b3], .agg #[.int .i64 c1, .int .i64 c2, .int .i64 c3], .int .i64 u, .int .i64 v] w fun en w' => en = .returned (.agg #[.int .i64 0, .int .i64 0, .int .i64 0]) ∧ Below w.heap.size w w' := by
  obtain ⟨m, em⟩ : ∃ m, min u v = m := ⟨_, rfl⟩
  rw [em] at hm
  have tz1 : decide (m < 0) = true := decide_eq_true hm
  clear hm
  go_enter Tryz.func38, Tryz.ntmps38
  go_upto_region 1 with (fail)
  obtain ⟨W1, hW1⟩ : ∃ W, W = (((w.alloc (.cells #[.int .i64 a1, .int .i64 a2, .int .i64 a3] 23)).alloc (.cells #[.int .i64 b1, .int .i64 b2, .int .i64 b3] 23)).alloc (.cells #[.int .i64 c1, .int .i64 c2, .int .i64 c3] 23)).alloc (.cells #[.int .i64 0, .int .i64 0, .int .i64 0] 23) := ⟨_, rfl⟩
  obtain ⟨k_a, k_b, k_c, k_r, B1⟩ := st4 hW1
  rw [← hW1]
  clear hW1
  have l_b : w.heap.size < w.heap.size + 1 := by omega
  have l_c : w.heap.size + 1 < w.heap.size + 1 + 1 := by omega
  have l_r : w.heap.size + 1 + 1 < w.heap.size + 1 + 1 + 1 := by omega
  generalize w.heap.size + 1 + 1 + 1 = g_r at *
  generalize w.heap.size + 1 + 1 = g_c at *
  generalize w.heap.size + 1 = g_b at *
  obtain ⟨c_a_0, c_a_1, c_a_2⟩ := bwc3 (k_a)
  obtain ⟨c_b_0, c_b_1, c_b_2⟩ := bwc3 (k_b)
  obtain ⟨c_c_0, c_c_1, c_c_2⟩ := bwc3 (k_c)
  obtain ⟨c_r_0, c_r_1, c_r_2⟩ := bwc3 (k_r)
  obtain ⟨f_r_0, f_r_1, f_r_2⟩ := bwf3 (k_r)
  obtain ⟨p1, hp1⟩ : ∃ p : BW W1, p.w = W1 := ⟨BW.start W1, rfl⟩
  rw [← hp1]
  clear hp1
  have KC : ∀ p : BW W1, Calls Tryz.prog 42 #[.slice (some ⟨p.w.heap.size, 0, none⟩) 3 3] (p.w.alloc (.cells #[.int .i64 a1, .int .i64 a2, .int .i64 a3, .int .i64 b1, .int .i64 b2, .int .i64 b3, .int .i64 c1, .int .i64 c2, .int .i64 c3] 23)) fun e w' => e = .returned (.bool true) ∧ ∃ q : BW W1, w' = q.w := fun p =>
    (tri_places3 3 a1 a2 a3 b1 b2 b3 c1 c2 c3 W1 p.w _ rfl p.h).mono fun e w' h => ⟨by rw [hp] at h; exact h.1, ⟨w', h.2⟩, rfl⟩
  clear hp
  go_wp2_with (go_at_call 42; (with_reducible refine (KC _).mono ?_); rintro e w' ⟨rfl, q, rfl⟩)
  have kr := bkp3 (k_r.below q.h) (.int .i64 0) (.int .i64 0) (.int .i64 0)
  obtain ⟨rc0, rc1, rc2⟩ := rwc3 kr
  exact bodyPost_ret (v := .agg #[.int .i64 0, .int .i64 0, .int .i64 0]) (by simp [results, Tryz.results38, go_sem, rc0, rc1, rc2]) rfl ⟨rfl, blp3 (bw_below B1 q) (by omega)⟩

set_option maxRecDepth 100000 in
set_option maxHeartbeats 4000000 in
theorem tri_At_mx (a1 a2 a3 b1 b2 b3 c1 c2 c3 u v : Int) (w : World) (hp : pl3 (a1, a2, a3) (b1, b2, b3) (c1, c2, c3) = true) (hm : ¬ min u v < 0) (hM : 65536 < max u v) :
    Calls Tryz.prog 38 #[.agg #[.int .i64 a1, .int .i64 a2, .int .i64 a3], .agg #[.int .i64 b1, .int .i64 b2, .int .i64 b3], .agg #[.int .i64 c1, .int .i64 c2, .int .i64 c3], .int .i64 u, .int .i64 v] w fun en w' => en = .returned (.agg #[.int .i64 0, .int .i64 0, .int .i64 0]) ∧ Below w.heap.size w w' := by
  obtain ⟨m, em⟩ : ∃ m, min u v = m := ⟨_, rfl⟩
  obtain ⟨M, eM⟩ : ∃ M, max u v = M := ⟨_, rfl⟩
  rw [em] at hm
  rw [eM] at hM
  have tz1 : decide (m < 0) = false := decide_eq_false hm
  have tz2 : decide (65536 < M) = true := decide_eq_true hM
  clear hm hM
  go_enter Tryz.func38, Tryz.ntmps38
  go_upto_region 1 with (fail)
  obtain ⟨W1, hW1⟩ : ∃ W, W = (((w.alloc (.cells #[.int .i64 a1, .int .i64 a2, .int .i64 a3] 23)).alloc (.cells #[.int .i64 b1, .int .i64 b2, .int .i64 b3] 23)).alloc (.cells #[.int .i64 c1, .int .i64 c2, .int .i64 c3] 23)).alloc (.cells #[.int .i64 0, .int .i64 0, .int .i64 0] 23) := ⟨_, rfl⟩
  obtain ⟨k_a, k_b, k_c, k_r, B1⟩ := st4 hW1
  rw [← hW1]
  clear hW1
  have l_b : w.heap.size < w.heap.size + 1 := by omega
  have l_c : w.heap.size + 1 < w.heap.size + 1 + 1 := by omega
  have l_r : w.heap.size + 1 + 1 < w.heap.size + 1 + 1 + 1 := by omega
  generalize w.heap.size + 1 + 1 + 1 = g_r at *
  generalize w.heap.size + 1 + 1 = g_c at *
  generalize w.heap.size + 1 = g_b at *
  obtain ⟨c_a_0, c_a_1, c_a_2⟩ := bwc3 (k_a)
  obtain ⟨c_b_0, c_b_1, c_b_2⟩ := bwc3 (k_b)
  obtain ⟨c_c_0, c_c_1, c_c_2⟩ := bwc3 (k_c)
  obtain ⟨c_r_0, c_r_1, c_r_2⟩ := bwc3 (k_r)
  obtain ⟨f_r_0, f_r_1, f_r_2⟩ := bwf3 (k_r)
  obtain ⟨p1, hp1⟩ : ∃ p : BW W1, p.w = W1 := ⟨BW.start W1, rfl⟩
  rw [← hp1]
  clear hp1
  have KC : ∀ p : BW W1, Calls Tryz.prog 42 #[.slice (some ⟨p.w.heap.size, 0, none⟩) 3 3] (p.w.alloc (.cells #[.int .i64 a1, .int .i64 a2, .int .i64 a3, .int .i64 b1, .int .i64 b2, .int .i64 b3, .int .i64 c1, .int .i64 c2, .int .i64 c3] 23)) fun e w' => e = .returned (.bool true) ∧ ∃ q : BW W1, w' = q.w := fun p =>
    (tri_places3 3 a1 a2 a3 b1 b2 b3 c1 c2 c3 W1 p.w _ rfl p.h).mono fun e w' h => ⟨by rw [hp] at h; exact h.1, ⟨w', h.2⟩, rfl⟩
  clear hp
  go_wp2_with (go_at_call 42; (with_reducible refine (KC _).mono ?_); rintro e w' ⟨rfl, q, rfl⟩)
  have kr := bkp3 (k_r.below q.h) (.int .i64 0) (.int .i64 0) (.int .i64 0)
  obtain ⟨rc0, rc1, rc2⟩ := rwc3 kr
  exact bodyPost_ret (v := .agg #[.int .i64 0, .int .i64 0, .int .i64 0]) (by simp [results, Tryz.results38, go_sem, rc0, rc1, rc2]) rfl ⟨rfl, blp3 (bw_below B1 q) (by omega)⟩

set_option maxRecDepth 100000 in
set_option maxHeartbeats 4000000 in
theorem tri_At_lo (a1 a2 a3 b1 b2 b3 c1 c2 c3 u v : Int) (w : World) (hp : pl3 (a1, a2, a3) (b1, b2, b3) (c1, c2, c3) = true) (hu : 0 ≤ u ∧ u ≤ 65536) (hv : 0 ≤ v ∧ v ≤ 65536) (hsum : ¬ 65536 < u + v) :
    Calls Tryz.prog 38 #[.agg #[.int .i64 a1, .int .i64 a2, .int .i64 a3], .agg #[.int .i64 b1, .int .i64 b2, .int .i64 b3], .agg #[.int .i64 c1, .int .i64 c2, .int .i64 c3], .int .i64 u, .int .i64 v] w fun en w' => en = .returned (.agg #[.int .i64 (a1 + ((b1 - a1) * u + (c1 - a1) * v) / 65536), .int .i64 (a2 + ((b2 - a2) * u + (c2 - a2) * v) / 65536), .int .i64 (a3 + ((b3 - a3) * u + (c3 - a3) * v) / 65536)]) ∧ Below w.heap.size w w' := by
  have hm : ¬ min u v < 0 := by omega
  have hM : ¬ 65536 < max u v := by omega
  obtain ⟨m, em⟩ : ∃ m, min u v = m := ⟨_, rfl⟩
  obtain ⟨M, eM⟩ : ∃ M, max u v = M := ⟨_, rfl⟩
  rw [em] at hm
  rw [eM] at hM
  have tz1 : decide (m < 0) = false := decide_eq_false hm
  have tz2 : decide (65536 < M) = false := decide_eq_false hM
  clear hm hM
  obtain ⟨h1, h2, h3⟩ := pl3_iff.1 hp
  have q1 := plc_iff.1 h1
  dsimp only at q1
  have q2 := plc_iff.1 h2
  dsimp only at q2
  have q3 := plc_iff.1 h3
  dsimp only at q3
  have KU := Lib.hid (fun w => vec_Sub b1 b2 b3 a1 a2 a3 w (by unfold I64; omega) (by unfold I64; omega) (by unfold I64; omega) (by unfold I64; omega) (by unfold I64; omega) (by unfold I64; omega))
  rw [vsub_pl (x := b1) (a := a1) (by omega) (by omega), vsub_pl (x := b2) (a := a2) (by omega) (by omega), vsub_pl (x := b3) (a := a3) (by omega) (by omega)] at KU
  obtain ⟨s1, hs1⟩ : ∃ t, t = b1 - a1 := ⟨_, rfl⟩
  obtain ⟨s2, hs2⟩ : ∃ t, t = b2 - a2 := ⟨_, rfl⟩
  obtain ⟨s3, hs3⟩ : ∃ t, t = b3 - a3 := ⟨_, rfl⟩
  rw [← hs1, ← hs2, ← hs3] at KU
  have KV := Lib.hid (fun w => vec_Sub c1 c2 c3 a1 a2 a3 w (by unfold I64; omega) (by unfold I64; omega) (by unfold I64; omega) (by unfold I64; omega) (by unfold I64; omega) (by unfold I64; omega))
  rw [vsub_pl (x := c1) (a := a1) (by omega) (by omega), vsub_pl (x := c2) (a := a2) (by omega) (by omega), vsub_pl (x := c3) (a := a3) (by omega) (by omega)] at KV
  obtain ⟨t1, ht1⟩ : ∃ t, t = c1 - a1 := ⟨_, rfl⟩
  obtain ⟨t2, ht2⟩ : ∃ t, t = c2 - a2 := ⟨_, rfl⟩
  obtain ⟨t3, ht3⟩ : ∃ t, t = c3 - a3 := ⟨_, rfl⟩
  rw [← ht1, ← ht2, ← ht3] at KV
  obtain ⟨sm, esm⟩ : ∃ s, s = u + v := ⟨_, rfl⟩
  have w1 : wrap64 (u + v) = sm := by rw [esm]; exact IntWalk.wrap64_in _ (by omega)
  have w2 : IntKind.i64.wrap (u + v) = sm := by rw [esm, i64w]; omega
  have tz3 : decide (65536 < sm) = false := decide_eq_false (by rw [esm]; exact hsum)
  have KP := Lib.hid (fun w => tri_times s1 s2 s3 u w (by unfold I64; omega) (by unfold I64; omega) (by unfold I64; omega) (by unfold I64; omega))
  obtain ⟨js1, bs1⟩ := fat_one (x := s1) (u := u) (by omega) hu
  obtain ⟨js2, bs2⟩ := fat_one (x := s2) (u := u) (by omega) hu
  obtain ⟨js3, bs3⟩ := fat_one (x := s3) (u := u) (by omega) hu
  rw [js1, js2, js3] at KP
  obtain ⟨f1, hf1⟩ : ∃ z, z = s1 * u := ⟨_, rfl⟩
  obtain ⟨f2, hf2⟩ : ∃ z, z = s2 * u := ⟨_, rfl⟩
  obtain ⟨f3, hf3⟩ : ∃ z, z = s3 * u := ⟨_, rfl⟩
  rw [← hf1, ← hf2, ← hf3] at KP
  rw [← hf1] at bs1
  rw [← hf2] at bs2
  rw [← hf3] at bs3
  have KQ := Lib.hid (fun w => tri_times t1 t2 t3 v w (by unfold I64; omega) (by unfold I64; omega) (by unfold I64; omega) (by unfold I64; omega))
  obtain ⟨jt1, bt1⟩ := fat_one (x := t1) (u := v) (by omega) hv
  obtain ⟨jt2, bt2⟩ := fat_one (x := t2) (u := v) (by omega) hv
  obtain ⟨jt3, bt3⟩ := fat_one (x := t3) (u := v) (by omega) hv
  rw [jt1, jt2, jt3] at KQ
  obtain ⟨g1, hg1⟩ : ∃ z, z = t1 * v := ⟨_, rfl⟩
  obtain ⟨g2, hg2⟩ : ∃ z, z = t2 * v := ⟨_, rfl⟩
  obtain ⟨g3, hg3⟩ : ∃ z, z = t3 * v := ⟨_, rfl⟩
  rw [← hg1, ← hg2, ← hg3] at KQ
  rw [← hg1] at bt1
  rw [← hg2] at bt2
  rw [← hg3] at bt3
  have KA := Lib.hid (fun w => vec_Add f1 f2 f3 g1 g2 g3 w (by unfold I64; omega) (by unfold I64; omega) (by unfold I64; omega) (by unfold I64; omega) (by unfold I64; omega) (by unfold I64; omega))
  rw [sat_mid (x := f1 + g1) (by omega), sat_mid (x := f2 + g2) (by omega), sat_mid (x := f3 + g3) (by omega)] at KA
  obtain ⟨n1, hn1⟩ : ∃ z, z = f1 + g1 := ⟨_, rfl⟩
  obtain ⟨n2, hn2⟩ : ∃ z, z = f2 + g2 := ⟨_, rfl⟩
  obtain ⟨n3, hn3⟩ : ∃ z, z = f3 + g3 := ⟨_, rfl⟩
  rw [← hn1, ← hn2, ← hn3] at KA
  have KS := Lib.hid (fun w => vec_Scale n1 n2 n3 1 65536 w (by unfold I64; omega) (by unfold I64; omega) (by unfold I64; omega) (by unfold I64; omega) (by unfold I64; omega))
  obtain ⟨jn1, bn1⟩ := fat_part (s := n1) (by omega)
  obtain ⟨jn2, bn2⟩ := fat_part (s := n2) (by omega)
  obtain ⟨jn3, bn3⟩ := fat_part (s := n3) (by omega)
  rw [jn1, jn2, jn3] at KS
  obtain ⟨o1, hq1⟩ : ∃ z, z = n1 / 65536 := ⟨_, rfl⟩
  obtain ⟨o2, hq2⟩ : ∃ z, z = n2 / 65536 := ⟨_, rfl⟩
  obtain ⟨o3, hq3⟩ : ∃ z, z = n3 / 65536 := ⟨_, rfl⟩
  rw [← hq1, ← hq2, ← hq3] at KS
  rw [← hq1] at bn1
  rw [← hq2] at bn2
  rw [← hq3] at bn3
  have KR := Lib.hid (fun w => vec_Add a1 a2 a3 o1 o2 o3 w (by unfold I64; omega) (by unfold I64; omega) (by unfold I64; omega) (by unfold I64; omega) (by unfold I64; omega) (by unfold I64; omega))
  rw [sat_mid (x := a1 + o1) (by omega), sat_mid (x := a2 + o2) (by omega), sat_mid (x := a3 + o3) (by omega)] at KR
  rw [← hs1, ← hs2, ← hs3, ← ht1, ← ht2, ← ht3, ← hf1, ← hf2, ← hf3, ← hg1, ← hg2, ← hg3, ← hn1, ← hn2, ← hn3, ← hq1, ← hq2, ← hq3]
  obtain ⟨r1, hr1⟩ : ∃ z, z = a1 + o1 := ⟨_, rfl⟩
  obtain ⟨r2, hr2⟩ : ∃ z, z = a2 + o2 := ⟨_, rfl⟩
  obtain ⟨r3, hr3⟩ : ∃ z, z = a3 + o3 := ⟨_, rfl⟩
  rw [← hr1, ← hr2, ← hr3] at KR ⊢
  clear h1 h2 h3 q1 q2 q3 hu hv hsum esm hs1 hs2 hs3 ht1 ht2 ht3 js1 js2 js3 bs1 bs2 bs3 jt1 jt2 jt3 bt1 bt2 bt3 hf1 hf2 hf3 hg1 hg2 hg3 hn1 hn2 hn3 jn1 jn2 jn3 bn1 bn2 bn3 hq1 hq2 hq3 hr1 hr2 hr3
  go_enter Tryz.func38, Tryz.ntmps38
  go_upto_region 1 with (fail)
  obtain ⟨W1, hW1⟩ : ∃ W, W = (((w.alloc (.cells #[.int .i64 a1, .int .i64 a2, .int .i64 a3] 23)).alloc (.cells #[.int .i64 b1, .int .i64 b2, .int .i64 b3] 23)).alloc (.cells #[.int .i64 c1, .int .i64 c2, .int .i64 c3] 23)).alloc (.cells #[.int .i64 0, .int .i64 0, .int .i64 0] 23) := ⟨_, rfl⟩
  obtain ⟨k_a, k_b, k_c, k_r, B1⟩ := st4 hW1
  rw [← hW1]
  clear hW1
  have l_b : w.heap.size < w.heap.size + 1 := by omega
  have l_c : w.heap.size + 1 < w.heap.size + 1 + 1 := by omega
  have l_r : w.heap.size + 1 + 1 < w.heap.size + 1 + 1 + 1 := by omega
  generalize w.heap.size + 1 + 1 + 1 = g_r at *
  generalize w.heap.size + 1 + 1 = g_c at *
  generalize w.heap.size + 1 = g_b at *
  obtain ⟨c_a_0, c_a_1, c_a_2⟩ := bwc3 (k_a)
  obtain ⟨c_b_0, c_b_1, c_b_2⟩ := bwc3 (k_b)
  obtain ⟨c_c_0, c_c_1, c_c_2⟩ := bwc3 (k_c)
  obtain ⟨c_r_0, c_r_1, c_r_2⟩ := bwc3 (k_r)
  obtain ⟨f_r_0, f_r_1, f_r_2⟩ := bwf3 (k_r)
  obtain ⟨p1, hp1⟩ : ∃ p : BW W1, p.w = W1 := ⟨BW.start W1, rfl⟩
  rw [← hp1]
  clear hp1
  have KC : ∀ p : BW W1, Calls Tryz.prog 42 #[.slice (some ⟨p.w.heap.size, 0, none⟩) 3 3] (p.w.alloc (.cells #[.int .i64 a1, .int .i64 a2, .int .i64 a3, .int .i64 b1, .int .i64 b2, .int .i64 b3, .int .i64 c1, .int .i64 c2, .int .i64 c3] 23)) fun e w' => e = .returned (.bool true) ∧ ∃ q : BW W1, w' = q.w := fun p =>
    (tri_places3 3 a1 a2 a3 b1 b2 b3 c1 c2 c3 W1 p.w _ rfl p.h).mono fun e w' h => ⟨by rw [hp] at h; exact h.1, ⟨w', h.2⟩, rfl⟩
  clear hp
  go_upto_region 5 with (go_at_call 42; (with_reducible refine (KC _).mono ?_); rintro e w' ⟨rfl, q, rfl⟩)
  clear KC
  refine wp_region_float (t := 23) (zs := #[.int .i64 0, .int .i64 0, .int .i64 0]) 12 11 11 55 (by kernel_rfl) (by kernel_rfl) (by kernel_rfl) (by kernel_rfl) (by kernel_rfl) rfl ?_ ?_
  · intro ev wx
    simp [execOp, go_sem]
  apply Exists.intro
  refine ⟨?_, ?_⟩
  · intro wb' hwb'
    obtain ⟨d_a_0, d_a_1, d_a_2⟩ := bwc3 (k_a.below hwb')
    obtain ⟨d_b_0, d_b_1, d_b_2⟩ := bwc3 (k_b.below hwb')
    obtain ⟨d_c_0, d_c_1, d_c_2⟩ := bwc3 (k_c.below hwb')
    obtain ⟨d_r_0, d_r_1, d_r_2⟩ := bwc3 (k_r.below hwb')
    simp only [maskAt, List.take_succ_cons, List.take_zero]
    repeat (go_big_quiet_step (first
      | (go_at_call 26; (first | (with_reducible exact bw_call KU.out _) | (with_reducible exact bw_call KV.out _)))
      | (go_at_call 63; (first | (with_reducible exact bw_call KP.out _) | (with_reducible exact bw_call KQ.out _)))
      | (go_at_call 27; (first | (with_reducible exact bw_call KA.out _)))))
    refine wpQuiet_nil ?_
    exact rfl
  intro W2 g_s hW hg k_s
  have B2 : Below w.heap.size w W2 := B1.trans (hW.mono B1.size)
  have o_s : w.heap.size ≤ g_s := Nat.le_trans B1.size hg
  have l_s : g_r < g_s := Nat.lt_of_lt_of_le k_r.lt hg
  have k_a := k_a.below hW
  have k_b := k_b.below hW
  have k_c := k_c.below hW
  have k_r := k_r.below hW
  clear hW hg B1
  clear c_a_0 c_a_1 c_a_2 c_b_0 c_b_1 c_b_2 c_c_0 c_c_1 c_c_2 c_r_0 c_r_1 c_r_2 f_r_0 f_r_1 f_r_2
  simp only [List.drop_succ_cons, List.drop_zero, Act.put, List.setIfInBounds_toArray, List.set_cons_zero, List.set_cons_succ]
  obtain ⟨c_a_0, c_a_1, c_a_2⟩ := bwc3 (k_a)
  obtain ⟨c_b_0, c_b_1, c_b_2⟩ := bwc3 (k_b)
  obtain ⟨c_c_0, c_c_1, c_c_2⟩ := bwc3 (k_c)
  obtain ⟨c_r_0, c_r_1, c_r_2⟩ := bwc3 (k_r)
  obtain ⟨c_s_0, c_s_1, c_s_2⟩ := bwc3 (k_s)
  obtain ⟨f_s_0, f_s_1, f_s_2⟩ := bwf3 (k_s)
  obtain ⟨p2, hp2⟩ : ∃ p : BW W2, p.w = W2 := ⟨BW.start W2, rfl⟩
  rw [← hp2]
  clear hp2
  go_upto_region 6 with (fail)
  obtain ⟨W3, hW3⟩ : ∃ W, W = ((p2.w.setCell ⟨g_s, 0, none⟩ (.int .i64 n1)).setCell ⟨g_s, 1, none⟩ (.int .i64 n2)).setCell ⟨g_s, 2, none⟩ (.int .i64 n3) := ⟨_, rfl⟩
  have B3 : Below w.heap.size w W3 := by rw [hW3]; exact blp3 (bw_below B2 p2) (by omega)
  have k_a := bkoe3 hW3 (k_a.below p2.h) (by omega)
  have k_b := bkoe3 hW3 (k_b.below p2.h) (by omega)
  have k_c := bkoe3 hW3 (k_c.below p2.h) (by omega)
  have k_r := bkoe3 hW3 (k_r.below p2.h) (by omega)
  have k_s := bkpe3 hW3 (k_s.below p2.h)
  rw [← hW3]
  clear hW3
  clear B2
  clear c_a_0 c_a_1 c_a_2 c_b_0 c_b_1 c_b_2 c_c_0 c_c_1 c_c_2 c_r_0 c_r_1 c_r_2 c_s_0 c_s_1 c_s_2 f_s_0 f_s_1 f_s_2
  obtain ⟨c_a_0, c_a_1, c_a_2⟩ := bwc3 (k_a)
  obtain ⟨c_b_0, c_b_1, c_b_2⟩ := bwc3 (k_b)
  obtain ⟨c_c_0, c_c_1, c_c_2⟩ := bwc3 (k_c)
  obtain ⟨c_r_0, c_r_1, c_r_2⟩ := bwc3 (k_r)
  obtain ⟨f_r_0, f_r_1, f_r_2⟩ := bwf3 (k_r)
  obtain ⟨c_s_0, c_s_1, c_s_2⟩ := bwc3 (k_s)
  obtain ⟨p3, hp3⟩ : ∃ p : BW W3, p.w = W3 := ⟨BW.start W3, rfl⟩
  rw [← hp3]
  clear hp3
  refine wp_region_bw_tail 5 (by kernel_rfl) (by kernel_rfl) (by kernel_rfl) ?_
  simp only [List.take_succ_cons, List.take_zero, List.drop_succ_cons, List.drop_zero]
  repeat (go_big_quiet_step (first
    | (go_at_call 64; (first | (with_reducible exact bw_call KS.out _)))
    | (go_at_call 27; (first | (with_reducible exact bw_call KR.out _)))))
  refine wpQuiet_nil ?_
  intro _ hw'
  obtain ⟨q, rfl⟩ := hw'
  go_wp2
  have kr := bkp3 (k_r.below q.h) (.int .i64 r1) (.int .i64 r2) (.int .i64 r3)
  obtain ⟨rc0, rc1, rc2⟩ := rwc3 kr
  exact bodyPost_ret (v := .agg #[.int .i64 r1, .int .i64 r2, .int .i64 r3]) (by simp [results, Tryz.results38, go_sem, rc0, rc1, rc2]) rfl ⟨rfl, blp3 (bw_below B3 q) (by omega)⟩

set_option maxRecDepth 100000 in
set_option maxHeartbeats 4000000 in
theorem tri_At_hi (a1 a2 a3 b1 b2 b3 c1 c2 c3 u v : Int) (w : World) (hp : pl3 (a1, a2, a3) (b1, b2, b3) (c1, c2, c3) = true) (hu : 0 ≤ u ∧ u ≤ 65536) (hv : 0 ≤ v ∧ v ≤ 65536) (hsum : 65536 < u + v) :
    Calls Tryz.prog 38 #[.agg #[.int .i64 a1, .int .i64 a2, .int .i64 a3], .agg #[.int .i64 b1, .int .i64 b2, .int .i64 b3], .agg #[.int .i64 c1, .int .i64 c2, .int .i64 c3], .int .i64 u, .int .i64 v] w fun en w' => en = .returned (.agg #[.int .i64 (a1 + ((b1 - a1) * (65536 - u) + (c1 - a1) * (65536 - v)) / 65536), .int .i64 (a2 + ((b2 - a2) * (65536 - u) + (c2 - a2) * (65536 - v)) / 65536), .int .i64 (a3 + ((b3 - a3) * (65536 - u) + (c3 - a3) * (65536 - v)) / 65536)]) ∧ Below w.heap.size w w' := by
  have hm : ¬ min u v < 0 := by omega
  have hM : ¬ 65536 < max u v := by omega
  obtain ⟨m, em⟩ : ∃ m, min u v = m := ⟨_, rfl⟩
  obtain ⟨M, eM⟩ : ∃ M, max u v = M := ⟨_, rfl⟩
  rw [em] at hm
  rw [eM] at hM
  have tz1 : decide (m < 0) = false := decide_eq_false hm
  have tz2 : decide (65536 < M) = false := decide_eq_false hM
  clear hm hM
  obtain ⟨h1, h2, h3⟩ := pl3_iff.1 hp
  have q1 := plc_iff.1 h1
  dsimp only at q1
  have q2 := plc_iff.1 h2
  dsimp only at q2
  have q3 := plc_iff.1 h3
  dsimp only at q3
  have KU := Lib.hid (fun w => vec_Sub b1 b2 b3 a1 a2 a3 w (by unfold I64; omega) (by unfold I64; omega) (by unfold I64; omega) (by unfold I64; omega) (by unfold I64; omega) (by unfold I64; omega))
  rw [vsub_pl (x := b1) (a := a1) (by omega) (by omega), vsub_pl (x := b2) (a := a2) (by omega) (by omega), vsub_pl (x := b3) (a := a3) (by omega) (by omega)] at KU
  obtain ⟨s1, hs1⟩ : ∃ t, t = b1 - a1 := ⟨_, rfl⟩
  obtain ⟨s2, hs2⟩ : ∃ t, t = b2 - a2 := ⟨_, rfl⟩
  obtain ⟨s3, hs3⟩ : ∃ t, t = b3 - a3 := ⟨_, rfl⟩
  rw [← hs1, ← hs2, ← hs3] at KU
  have KV := Lib.hid (fun w => vec_Sub c1 c2 c3 a1 a2 a3 w (by unfold I64; omega) (by unfold I64; omega) (by unfold I64; omega) (by unfold I64; omega) (by unfold I64; omega) (by unfold I64; omega))
  rw [vsub_pl (x := c1) (a := a1) (by omega) (by omega), vsub_pl (x := c2) (a := a2) (by omega) (by omega), vsub_pl (x := c3) (a := a3) (by omega) (by omega)] at KV
  obtain ⟨t1, ht1⟩ : ∃ t, t = c1 - a1 := ⟨_, rfl⟩
  obtain ⟨t2, ht2⟩ : ∃ t, t = c2 - a2 := ⟨_, rfl⟩
  obtain ⟨t3, ht3⟩ : ∃ t, t = c3 - a3 := ⟨_, rfl⟩
  rw [← ht1, ← ht2, ← ht3] at KV
  obtain ⟨sm, esm⟩ : ∃ s, s = u + v := ⟨_, rfl⟩
  have w1 : wrap64 (u + v) = sm := by rw [esm]; exact IntWalk.wrap64_in _ (by omega)
  have w2 : IntKind.i64.wrap (u + v) = sm := by rw [esm, i64w]; omega
  have tz3 : decide (65536 < sm) = true := decide_eq_true (by rw [esm]; exact hsum)
  obtain ⟨x, ex⟩ : ∃ s, s = 65536 - u := ⟨_, rfl⟩
  have wx1 : wrap64 (65536 - u) = x := by rw [ex]; exact IntWalk.wrap64_in _ (by omega)
  have wx2 : IntKind.i64.wrap (65536 - u) = x := by rw [ex, i64w]; omega
  obtain ⟨y, ey⟩ : ∃ s, s = 65536 - v := ⟨_, rfl⟩
  have wy1 : wrap64 (65536 - v) = y := by rw [ey]; exact IntWalk.wrap64_in _ (by omega)
  have wy2 : IntKind.i64.wrap (65536 - v) = y := by rw [ey, i64w]; omega
  rw [← ex, ← ey]
  have hx : 0 ≤ x ∧ x ≤ 65536 := by omega
  have hy : 0 ≤ y ∧ y ≤ 65536 := by omega
  have KP := Lib.hid (fun w => tri_times s1 s2 s3 x w (by unfold I64; omega) (by unfold I64; omega) (by unfold I64; omega) (by unfold I64; omega))
  obtain ⟨js1, bs1⟩ := fat_one (x := s1) (u := x) (by omega) hx
  obtain ⟨js2, bs2⟩ := fat_one (x := s2) (u := x) (by omega) hx
  obtain ⟨js3, bs3⟩ := fat_one (x := s3) (u := x) (by omega) hx
  rw [js1, js2, js3] at KP
  obtain ⟨f1, hf1⟩ : ∃ z, z = s1 * x := ⟨_, rfl⟩
  obtain ⟨f2, hf2⟩ : ∃ z, z = s2 * x := ⟨_, rfl⟩
  obtain ⟨f3, hf3⟩ : ∃ z, z = s3 * x := ⟨_, rfl⟩
  rw [← hf1, ← hf2, ← hf3] at KP
  rw [← hf1] at bs1
  rw [← hf2] at bs2
  rw [← hf3] at bs3
  have KQ := Lib.hid (fun w => tri_times t1 t2 t3 y w (by unfold I64; omega) (by unfold I64; omega) (by unfold I64; omega) (by unfold I64; omega))
  obtain ⟨jt1, bt1⟩ := fat_one (x := t1) (u := y) (by omega) hy
  obtain ⟨jt2, bt2⟩ := fat_one (x := t2) (u := y) (by omega) hy
  obtain ⟨jt3, bt3⟩ := fat_one (x := t3) (u := y) (by omega) hy
  rw [jt1, jt2, jt3] at KQ
  obtain ⟨g1, hg1⟩ : ∃ z, z = t1 * y := ⟨_, rfl⟩
  obtain ⟨g2, hg2⟩ : ∃ z, z = t2 * y := ⟨_, rfl⟩
  obtain ⟨g3, hg3⟩ : ∃ z, z = t3 * y := ⟨_, rfl⟩
  rw [← hg1, ← hg2, ← hg3] at KQ
  rw [← hg1] at bt1
  rw [← hg2] at bt2
  rw [← hg3] at bt3
  have KA := Lib.hid (fun w => vec_Add f1 f2 f3 g1 g2 g3 w (by unfold I64; omega) (by unfold I64; omega) (by unfold I64; omega) (by unfold I64; omega) (by unfold I64; omega) (by unfold I64; omega))
  rw [sat_mid (x := f1 + g1) (by omega), sat_mid (x := f2 + g2) (by omega), sat_mid (x := f3 + g3) (by omega)] at KA
  obtain ⟨n1, hn1⟩ : ∃ z, z = f1 + g1 := ⟨_, rfl⟩
  obtain ⟨n2, hn2⟩ : ∃ z, z = f2 + g2 := ⟨_, rfl⟩
  obtain ⟨n3, hn3⟩ : ∃ z, z = f3 + g3 := ⟨_, rfl⟩
  rw [← hn1, ← hn2, ← hn3] at KA
  have KS := Lib.hid (fun w => vec_Scale n1 n2 n3 1 65536 w (by unfold I64; omega) (by unfold I64; omega) (by unfold I64; omega) (by unfold I64; omega) (by unfold I64; omega))
  obtain ⟨jn1, bn1⟩ := fat_part (s := n1) (by omega)
  obtain ⟨jn2, bn2⟩ := fat_part (s := n2) (by omega)
  obtain ⟨jn3, bn3⟩ := fat_part (s := n3) (by omega)
  rw [jn1, jn2, jn3] at KS
  obtain ⟨o1, hq1⟩ : ∃ z, z = n1 / 65536 := ⟨_, rfl⟩
  obtain ⟨o2, hq2⟩ : ∃ z, z = n2 / 65536 := ⟨_, rfl⟩
  obtain ⟨o3, hq3⟩ : ∃ z, z = n3 / 65536 := ⟨_, rfl⟩
  rw [← hq1, ← hq2, ← hq3] at KS
  rw [← hq1] at bn1
  rw [← hq2] at bn2
  rw [← hq3] at bn3
  have KR := Lib.hid (fun w => vec_Add a1 a2 a3 o1 o2 o3 w (by unfold I64; omega) (by unfold I64; omega) (by unfold I64; omega) (by unfold I64; omega) (by unfold I64; omega) (by unfold I64; omega))
  rw [sat_mid (x := a1 + o1) (by omega), sat_mid (x := a2 + o2) (by omega), sat_mid (x := a3 + o3) (by omega)] at KR
  rw [← hs1, ← hs2, ← hs3, ← ht1, ← ht2, ← ht3, ← hf1, ← hf2, ← hf3, ← hg1, ← hg2, ← hg3, ← hn1, ← hn2, ← hn3, ← hq1, ← hq2, ← hq3]
  obtain ⟨r1, hr1⟩ : ∃ z, z = a1 + o1 := ⟨_, rfl⟩
  obtain ⟨r2, hr2⟩ : ∃ z, z = a2 + o2 := ⟨_, rfl⟩
  obtain ⟨r3, hr3⟩ : ∃ z, z = a3 + o3 := ⟨_, rfl⟩
  rw [← hr1, ← hr2, ← hr3] at KR ⊢
  clear h1 h2 h3 q1 q2 q3 hu hv hsum esm hs1 hs2 hs3 ht1 ht2 ht3 js1 js2 js3 bs1 bs2 bs3 jt1 jt2 jt3 bt1 bt2 bt3 hf1 hf2 hf3 hg1 hg2 hg3 hn1 hn2 hn3 jn1 jn2 jn3 bn1 bn2 bn3 hq1 hq2 hq3 hr1 hr2 hr3 ex ey hx hy
  go_enter Tryz.func38, Tryz.ntmps38
  go_upto_region 1 with (fail)
  obtain ⟨W1, hW1⟩ : ∃ W, W = (((w.alloc (.cells #[.int .i64 a1, .int .i64 a2, .int .i64 a3] 23)).alloc (.cells #[.int .i64 b1, .int .i64 b2, .int .i64 b3] 23)).alloc (.cells #[.int .i64 c1, .int .i64 c2, .int .i64 c3] 23)).alloc (.cells #[.int .i64 0, .int .i64 0, .int .i64 0] 23) := ⟨_, rfl⟩
  obtain ⟨k_a, k_b, k_c, k_r, B1⟩ := st4 hW1
  rw [← hW1]
  clear hW1
  have l_b : w.heap.size < w.heap.size + 1 := by omega
  have l_c : w.heap.size + 1 < w.heap.size + 1 + 1 := by omega
  have l_r : w.heap.size + 1 + 1 < w.heap.size + 1 + 1 + 1 := by omega
  generalize w.heap.size + 1 + 1 + 1 = g_r at *
  generalize w.heap.size + 1 + 1 = g_c at *
  generalize w.heap.size + 1 = g_b at *
  obtain ⟨c_a_0, c_a_1, c_a_2⟩ := bwc3 (k_a)
  obtain ⟨c_b_0, c_b_1, c_b_2⟩ := bwc3 (k_b)
  obtain ⟨c_c_0, c_c_1, c_c_2⟩ := bwc3 (k_c)
  obtain ⟨c_r_0, c_r_1, c_r_2⟩ := bwc3 (k_r)
  obtain ⟨f_r_0, f_r_1, f_r_2⟩ := bwf3 (k_r)
  obtain ⟨p1, hp1⟩ : ∃ p : BW W1, p.w = W1 := ⟨BW.start W1, rfl⟩
  rw [← hp1]
  clear hp1
  have KC : ∀ p : BW W1, Calls Tryz.prog 42 #[.slice (some ⟨p.w.heap.size, 0, none⟩) 3 3] (p.w.alloc (.cells #[.int .i64 a1, .int .i64 a2, .int .i64 a3, .int .i64 b1, .int .i64 b2, .int .i64 b3, .int .i64 c1, .int .i64 c2, .int .i64 c3] 23)) fun e w' => e = .returned (.bool true) ∧ ∃ q : BW W1, w' = q.w := fun p =>
    (tri_places3 3 a1 a2 a3 b1 b2 b3 c1 c2 c3 W1 p.w _ rfl p.h).mono fun e w' h => ⟨by rw [hp] at h; exact h.1, ⟨w', h.2⟩, rfl⟩
  clear hp
  go_upto_region 5 with (go_at_call 42; (with_reducible refine (KC _).mono ?_); rintro e w' ⟨rfl, q, rfl⟩)
  clear KC
  refine wp_region_float (t := 23) (zs := #[.int .i64 0, .int .i64 0, .int .i64 0]) 12 11 11 55 (by kernel_rfl) (by kernel_rfl) (by kernel_rfl) (by kernel_rfl) (by kernel_rfl) rfl ?_ ?_
  · intro ev wx
    simp [execOp, go_sem]
  apply Exists.intro
  refine ⟨?_, ?_⟩
  · intro wb' hwb'
    obtain ⟨d_a_0, d_a_1, d_a_2⟩ := bwc3 (k_a.below hwb')
    obtain ⟨d_b_0, d_b_1, d_b_2⟩ := bwc3 (k_b.below hwb')
    obtain ⟨d_c_0, d_c_1, d_c_2⟩ := bwc3 (k_c.below hwb')
    obtain ⟨d_r_0, d_r_1, d_r_2⟩ := bwc3 (k_r.below hwb')
    simp only [maskAt, List.take_succ_cons, List.take_zero]
    repeat (go_big_quiet_step (first
      | (go_at_call 26; (first | (with_reducible exact bw_call KU.out _) | (with_reducible exact bw_call KV.out _)))
      | (go_at_call 63; (first | (with_reducible exact bw_call KP.out _) | (with_reducible exact bw_call KQ.out _)))
      | (go_at_call 27; (first | (with_reducible exact bw_call KA.out _)))))
    refine wpQuiet_nil ?_
    exact rfl
  intro W2 g_s hW hg k_s
  have B2 : Below w.heap.size w W2 := B1.trans (hW.mono B1.size)
  have o_s : w.heap.size ≤ g_s := Nat.le_trans B1.size hg
  have l_s : g_r < g_s := Nat.lt_of_lt_of_le k_r.lt hg
  have k_a := k_a.below hW
  have k_b := k_b.below hW
  have k_c := k_c.below hW
  have k_r := k_r.below hW
  clear hW hg B1
  clear c_a_0 c_a_1 c_a_2 c_b_0 c_b_1 c_b_2 c_c_0 c_c_1 c_c_2 c_r_0 c_r_1 c_r_2 f_r_0 f_r_1 f_r_2
  simp only [List.drop_succ_cons, List.drop_zero, Act.put, List.setIfInBounds_toArray, List.set_cons_zero, List.set_cons_succ]
  obtain ⟨c_a_0, c_a_1, c_a_2⟩ := bwc3 (k_a)
  obtain ⟨c_b_0, c_b_1, c_b_2⟩ := bwc3 (k_b)
  obtain ⟨c_c_0, c_c_1, c_c_2⟩ := bwc3 (k_c)
  obtain ⟨c_r_0, c_r_1, c_r_2⟩ := bwc3 (k_r)
  obtain ⟨c_s_0, c_s_1, c_s_2⟩ := bwc3 (k_s)
  obtain ⟨f_s_0, f_s_1, f_s_2⟩ := bwf3 (k_s)
  obtain ⟨p2, hp2⟩ : ∃ p : BW W2, p.w = W2 := ⟨BW.start W2, rfl⟩
  rw [← hp2]
  clear hp2
  go_upto_region 6 with (fail)
  obtain ⟨W3, hW3⟩ : ∃ W, W = ((p2.w.setCell ⟨g_s, 0, none⟩ (.int .i64 n1)).setCell ⟨g_s, 1, none⟩ (.int .i64 n2)).setCell ⟨g_s, 2, none⟩ (.int .i64 n3) := ⟨_, rfl⟩
  have B3 : Below w.heap.size w W3 := by rw [hW3]; exact blp3 (bw_below B2 p2) (by omega)
  have k_a := bkoe3 hW3 (k_a.below p2.h) (by omega)
  have k_b := bkoe3 hW3 (k_b.below p2.h) (by omega)
  have k_c := bkoe3 hW3 (k_c.below p2.h) (by omega)
  have k_r := bkoe3 hW3 (k_r.below p2.h) (by omega)
  have k_s := bkpe3 hW3 (k_s.below p2.h)
  rw [← hW3]
  clear hW3
  clear B2
  clear c_a_0 c_a_1 c_a_2 c_b_0 c_b_1 c_b_2 c_c_0 c_c_1 c_c_2 c_r_0 c_r_1 c_r_2 c_s_0 c_s_1 c_s_2 f_s_0 f_s_1 f_s_2
  obtain ⟨c_a_0, c_a_1, c_a_2⟩ := bwc3 (k_a)
  obtain ⟨c_b_0, c_b_1, c_b_2⟩ := bwc3 (k_b)
  obtain ⟨c_c_0, c_c_1, c_c_2⟩ := bwc3 (k_c)
  obtain ⟨c_r_0, c_r_1, c_r_2⟩ := bwc3 (k_r)
  obtain ⟨f_r_0, f_r_1, f_r_2⟩ := bwf3 (k_r)
  obtain ⟨c_s_0, c_s_1, c_s_2⟩ := bwc3 (k_s)
  obtain ⟨p3, hp3⟩ : ∃ p : BW W3, p.w = W3 := ⟨BW.start W3, rfl⟩
  rw [← hp3]
  clear hp3
  refine wp_region_bw_tail 5 (by kernel_rfl) (by kernel_rfl) (by kernel_rfl) ?_
  simp only [List.take_succ_cons, List.take_zero, List.drop_succ_cons, List.drop_zero]
  repeat (go_big_quiet_step (first
    | (go_at_call 64; (first | (with_reducible exact bw_call KS.out _)))
    | (go_at_call 27; (first | (with_reducible exact bw_call KR.out _)))))
  refine wpQuiet_nil ?_
  intro _ hw'
  obtain ⟨q, rfl⟩ := hw'
  go_wp2
  have kr := bkp3 (k_r.below q.h) (.int .i64 r1) (.int .i64 r2) (.int .i64 r3)
  obtain ⟨rc0, rc1, rc2⟩ := rwc3 kr
  exact bodyPost_ret (v := .agg #[.int .i64 r1, .int .i64 r2, .int .i64 r3]) (by simp [results, Tryz.results38, go_sem, rc0, rc1, rc2]) rfl ⟨rfl, blp3 (bw_below B3 q) (by omega)⟩

theorem tri_At (a1 a2 a3 b1 b2 b3 c1 c2 c3 u v : Int) (w : World) (ha : I3 (a1, a2, a3)) (hb : I3 (b1, b2, b3)) (hc : I3 (c1, c2, c3)) (hu : I64 u) (hv : I64 v) :
    Calls Tryz.prog 38 #[.agg #[.int .i64 a1, .int .i64 a2, .int .i64 a3], .agg #[.int .i64 b1, .int .i64 b2, .int .i64 b3], .agg #[.int .i64 c1, .int .i64 c2, .int .i64 c3], .int .i64 u, .int .i64 v] w fun en w' => en = .returned (.agg #[.int .i64 (tAt (a1, a2, a3) (b1, b2, b3) (c1, c2, c3) u v).1, .int .i64 (tAt (a1, a2, a3) (b1, b2, b3) (c1, c2, c3) u v).2.1, .int .i64 (tAt (a1, a2, a3) (b1, b2, b3) (c1, c2, c3) u v).2.2]) ∧ Below w.heap.size w w' := by
  unfold tAt
  cases hp : pl3 (a1, a2, a3) (b1, b2, b3) (c1, c2, c3) with
  | false => rw [if_neg (by simp)]; exact tri_At_np a1 a2 a3 b1 b2 b3 c1 c2 c3 u v w hp
  | true =>
    by_cases hm : min u v < 0
    · rw [if_neg (by unfold c16; simp only [decide_eq_true_eq]; omega)]; exact tri_At_mn a1 a2 a3 b1 b2 b3 c1 c2 c3 u v w hp hm
    · by_cases hM : 65536 < max u v
      · rw [if_neg (by unfold c16; simp only [decide_eq_true_eq]; rw [Int.max_def] at hM; split at hM <;> omega)]; exact tri_At_mx a1 a2 a3 b1 b2 b3 c1 c2 c3 u v w hp hm hM
      · rw [if_pos ⟨rfl, decide_eq_true (by omega), decide_eq_true (by omega)⟩]
        by_cases hs : 65536 < u + v
        · rw [if_pos hs]; exact tri_At_hi a1 a2 a3 b1 b2 b3 c1 c2 c3 u v w hp (by omega) (by omega) hs
        · rw [if_neg hs]; exact tri_At_lo a1 a2 a3 b1 b2 b3 c1 c2 c3 u v w hp (by omega) (by omega) hs

end Go.Proofs.YtdmfmdekcojjbaaGreat
