/- Contracts of the document's own answers, layer 11: At. -/
import Derived.Test.YtnidgokmndnenaaRef11
import Derived.Test.YtnidgokmndnenaaRef01
import Derived.Deep.DeepCutAuto
namespace Go.Proofs.Ytnidgokmndnenaa
open Go.RowKit Go.Proofs.Sky
set_option linter.unusedVariables false

set_option maxRecDepth 100000 in
set_option maxHeartbeats 8000000 in
theorem ref11_At_no0 (a1 a2 a3 b1 b2 b3 c1 c2 c3 u v : Int) (w : World) (h0 : pl3 (a1, a2, a3) (b1, b2, b3) (c1, c2, c3) = false) :
    Calls Try.prog 17 #[.agg #[.int .i64 a1, .int .i64 a2, .int .i64 a3], .agg #[.int .i64 b1, .int .i64 b2, .int .i64 b3], .agg #[.int .i64 c1, .int .i64 c2, .int .i64 c3], .int .i64 u, .int .i64 v] w fun en w' => en = .returned (.agg #[.int .i64 (tAt (a1, a2, a3) (b1, b2, b3) (c1, c2, c3) u v).1, .int .i64 (tAt (a1, a2, a3) (b1, b2, b3) (c1, c2, c3) u v).2.1, .int .i64 (tAt (a1, a2, a3) (b1, b2, b3) (c1, c2, c3) u v).2.2]) ∧ Below w.heap.size w w' := by
  rw [show tAt (a1, a2, a3) (b1, b2, b3) (c1, c2, c3) u v = (0, 0, 0) by unfold tAt; rw [if_neg (by simp [h0])]]
  dsimp only
  have KP := Lib.hid (fun w => ref11_places a1 a2 a3 b1 b2 b3 c1 c2 c3 w)
  rw [h0] at KP
  clear h0
  go_enter Try.func17, Try.ntmps17
  go_upto_region 1 with (fail)
  obtain ⟨W1, hW1⟩ : ∃ W, W = (((w.alloc (.cells #[.int .i64 a1, .int .i64 a2, .int .i64 a3] 23)).alloc (.cells #[.int .i64 b1, .int .i64 b2, .int .i64 b3] 23)).alloc (.cells #[.int .i64 c1, .int .i64 c2, .int .i64 c3] 23)).alloc (.cells #[.int .i64 0, .int .i64 0, .int .i64 0] 23) := ⟨_, rfl⟩
  obtain ⟨k_a, k_b, k_c, k_r, B1⟩ := st4 hW1
  rw [← hW1]
  clear hW1
  have l_b : w.heap.size < w.heap.size + 1 := by omega
  have l_c : w.heap.size + 1 < w.heap.size + 1 + 1 := by omega
  have l_r : w.heap.size + 1 + 1 < w.heap.size + 1 + 1 + 1 := by omega
  generalize w.heap.size + 1 + 1 + 1 = g_r at *
  generalize w.heap.size + 1 + 1 = g_c at *
  generalize w.heap.size + 1 = g_b at *
  obtain ⟨c_a_0, c_a_1, c_a_2⟩ := bwc3 (k_a)
  obtain ⟨c_b_0, c_b_1, c_b_2⟩ := bwc3 (k_b)
  obtain ⟨c_c_0, c_c_1, c_c_2⟩ := bwc3 (k_c)
  obtain ⟨c_r_0, c_r_1, c_r_2⟩ := bwc3 (k_r)
  obtain ⟨f_r_0, f_r_1, f_r_2⟩ := bwf3 (k_r)
  obtain ⟨p1, hp1⟩ : ∃ p : BW W1, p.w = W1 := ⟨BW.start W1, rfl⟩
  rw [← hp1]
  clear hp1
  go_wp2_with (first
    | (go_at_call 33; (first | (with_reducible refine (bw_call KP.out _).mono ?_)); rintro e w' ⟨rfl, q, rfl⟩))
  have kr := bkp3 (k_r.below q.h) (.int .i64 0) (.int .i64 0) (.int .i64 0)
  obtain ⟨rc0, rc1, rc2⟩ := rwc3 kr
  exact bodyPost_ret (v := .agg #[.int .i64 0, .int .i64 0, .int .i64 0]) (by simp [results, Try.results17, go_sem, rc0, rc1, rc2]) rfl ⟨rfl, blp3 (bw_below B1 q) (by omega)⟩

set_option maxRecDepth 100000 in
set_option maxHeartbeats 8000000 in
theorem ref11_At_no1 (a1 a2 a3 b1 b2 b3 c1 c2 c3 u v : Int) (w : World) (h0 : pl3 (a1, a2, a3) (b1, b2, b3) (c1, c2, c3) = true) (h1 : u < 0) :
    Calls Try.prog 17 #[.agg #[.int .i64 a1, .int .i64 a2, .int .i64 a3], .agg #[.int .i64 b1, .int .i64 b2, .int .i64 b3], .agg #[.int .i64 c1, .int .i64 c2, .int .i64 c3], .int .i64 u, .int .i64 v] w fun en w' => en = .returned (.agg #[.int .i64 (tAt (a1, a2, a3) (b1, b2, b3) (c1, c2, c3) u v).1, .int .i64 (tAt (a1, a2, a3) (b1, b2, b3) (c1, c2, c3) u v).2.1, .int .i64 (tAt (a1, a2, a3) (b1, b2, b3) (c1, c2, c3) u v).2.2]) ∧ Below w.heap.size w w' := by
  rw [show tAt (a1, a2, a3) (b1, b2, b3) (c1, c2, c3) u v = (0, 0, 0) by unfold tAt; rw [if_neg (by unfold c16; simp; omega)]]
  dsimp only
  have KP := Lib.hid (fun w => ref11_places a1 a2 a3 b1 b2 b3 c1 c2 c3 w)
  rw [h0] at KP
  have t1 : decide (u < 0) = true := decide_eq_true (by omega)
  clear h0 h1
  go_enter Try.func17, Try.ntmps17
  go_upto_region 1 with (fail)
  obtain ⟨W1, hW1⟩ : ∃ W, W = (((w.alloc (.cells #[.int .i64 a1, .int .i64 a2, .int .i64 a3] 23)).alloc (.cells #[.int .i64 b1, .int .i64 b2, .int .i64 b3] 23)).alloc (.cells #[.int .i64 c1, .int .i64 c2, .int .i64 c3] 23)).alloc (.cells #[.int .i64 0, .int .i64 0, .int .i64 0] 23) := ⟨_, rfl⟩
  obtain ⟨k_a, k_b, k_c, k_r, B1⟩ := st4 hW1
  rw [← hW1]
  clear hW1
  have l_b : w.heap.size < w.heap.size + 1 := by omega
  have l_c : w.heap.size + 1 < w.heap.size + 1 + 1 := by omega
  have l_r : w.heap.size + 1 + 1 < w.heap.size + 1 + 1 + 1 := by omega
  generalize w.heap.size + 1 + 1 + 1 = g_r at *
  generalize w.heap.size + 1 + 1 = g_c at *
  generalize w.heap.size + 1 = g_b at *
  obtain ⟨c_a_0, c_a_1, c_a_2⟩ := bwc3 (k_a)
  obtain ⟨c_b_0, c_b_1, c_b_2⟩ := bwc3 (k_b)
  obtain ⟨c_c_0, c_c_1, c_c_2⟩ := bwc3 (k_c)
  obtain ⟨c_r_0, c_r_1, c_r_2⟩ := bwc3 (k_r)
  obtain ⟨f_r_0, f_r_1, f_r_2⟩ := bwf3 (k_r)
  obtain ⟨p1, hp1⟩ : ∃ p : BW W1, p.w = W1 := ⟨BW.start W1, rfl⟩
  rw [← hp1]
  clear hp1
  go_wp2_with (first
    | (go_at_call 33; (first | (with_reducible refine (bw_call KP.out _).mono ?_)); rintro e w' ⟨rfl, q, rfl⟩))
  have kr := bkp3 (k_r.below q.h) (.int .i64 0) (.int .i64 0) (.int .i64 0)
  obtain ⟨rc0, rc1, rc2⟩ := rwc3 kr
  exact bodyPost_ret (v := .agg #[.int .i64 0, .int .i64 0, .int .i64 0]) (by simp [results, Try.results17, go_sem, rc0, rc1, rc2]) rfl ⟨rfl, blp3 (bw_below B1 q) (by omega)⟩

set_option maxRecDepth 100000 in
set_option maxHeartbeats 8000000 in
theorem ref11_At_no2 (a1 a2 a3 b1 b2 b3 c1 c2 c3 u v : Int) (w : World) (h0 : pl3 (a1, a2, a3) (b1, b2, b3) (c1, c2, c3) = true) (h1 : 0 ≤ u) (h2 : v < 0) :
    Calls Try.prog 17 #[.agg #[.int .i64 a1, .int .i64 a2, .int .i64 a3], .agg #[.int .i64 b1, .int .i64 b2, .int .i64 b3], .agg #[.int .i64 c1, .int .i64 c2, .int .i64 c3], .int .i64 u, .int .i64 v] w fun en w' => en = .returned (.agg #[.int .i64 (tAt (a1, a2, a3) (b1, b2, b3) (c1, c2, c3) u v).1, .int .i64 (tAt (a1, a2, a3) (b1, b2, b3) (c1, c2, c3) u v).2.1, .int .i64 (tAt (a1, a2, a3) (b1, b2, b3) (c1, c2, c3) u v).2.2]) ∧ Below w.heap.size w w' := by
  rw [show tAt (a1, a2, a3) (b1, b2, b3) (c1, c2, c3) u v = (0, 0, 0) by unfold tAt; rw [if_neg (by unfold c16; simp; omega)]]
  dsimp only
  have KP := Lib.hid (fun w => ref11_places a1 a2 a3 b1 b2 b3 c1 c2 c3 w)
  rw [h0] at KP
  have t1 : decide (u < 0) = false := decide_eq_false (by omega)
  have t2 : decide (v < 0) = true := decide_eq_true (by omega)
  clear h0 h1 h2
  go_enter Try.func17, Try.ntmps17
  go_upto_region 1 with (fail)
  obtain ⟨W1, hW1⟩ : ∃ W, W = (((w.alloc (.cells #[.int .i64 a1, .int .i64 a2, .int .i64 a3] 23)).alloc (.cells #[.int .i64 b1, .int .i64 b2, .int .i64 b3] 23)).alloc (.cells #[.int .i64 c1, .int .i64 c2, .int .i64 c3] 23)).alloc (.cells #[.int .i64 0, .int .i64 0, .int .i64 0] 23) := ⟨_, rfl⟩
  obtain ⟨k_a, k_b, k_c, k_r, B1⟩ := st4 hW1
  rw [← hW1]
  clear hW1
  have l_b : w.heap.size < w.heap.size + 1 := by omega
  have l_c : w.heap.size + 1 < w.heap.size + 1 + 1 := by omega
  have l_r : w.heap.size + 1 + 1 < w.heap.size + 1 + 1 + 1 := by omega
  generalize w.heap.size + 1 + 1 + 1 = g_r at *
  generalize w.heap.size + 1 + 1 = g_c at *
  generalize w.heap.size + 1 = g_b at *
  obtain ⟨c_a_0, c_a_1, c_a_2⟩ := bwc3 (k_a)
  obtain ⟨c_b_0, c_b_1, c_b_2⟩ := bwc3 (k_b)
  obtain ⟨c_c_0, c_c_1, c_c_2⟩ := bwc3 (k_c)
  obtain ⟨c_r_0, c_r_1, c_r_2⟩ := bwc3 (k_r)
  obtain ⟨f_r_0, f_r_1, f_r_2⟩ := bwf3 (k_r)
  obtain ⟨p1, hp1⟩ : ∃ p : BW W1, p.w = W1 := ⟨BW.start W1, rfl⟩
  rw [← hp1]
  clear hp1
  go_wp2_with (first
    | (go_at_call 33; (first | (with_reducible refine (bw_call KP.out _).mono ?_)); rintro e w' ⟨rfl, q, rfl⟩))
  have kr := bkp3 (k_r.below q.h) (.int .i64 0) (.int .i64 0) (.int .i64 0)
  obtain ⟨rc0, rc1, rc2⟩ := rwc3 kr
  exact bodyPost_ret (v := .agg #[.int .i64 0, .int .i64 0, .int .i64 0]) (by simp [results, Try.results17, go_sem, rc0, rc1, rc2]) rfl ⟨rfl, blp3 (bw_below B1 q) (by omega)⟩

set_option maxRecDepth 100000 in
set_option maxHeartbeats 8000000 in
theorem ref11_At_no3 (a1 a2 a3 b1 b2 b3 c1 c2 c3 u v : Int) (w : World) (h0 : pl3 (a1, a2, a3) (b1, b2, b3) (c1, c2, c3) = true) (h1 : 0 ≤ u) (h2 : 0 ≤ v) (h3 : 65536 < u) :
    Calls Try.prog 17 #[.agg #[.int .i64 a1, .int .i64 a2, .int .i64 a3], .agg #[.int .i64 b1, .int .i64 b2, .int .i64 b3], .agg #[.int .i64 c1, .int .i64 c2, .int .i64 c3], .int .i64 u, .int .i64 v] w fun en w' => en = .returned (.agg #[.int .i64 (tAt (a1, a2, a3) (b1, b2, b3) (c1, c2, c3) u v).1, .int .i64 (tAt (a1, a2, a3) (b1, b2, b3) (c1, c2, c3) u v).2.1, .int .i64 (tAt (a1, a2, a3) (b1, b2, b3) (c1, c2, c3) u v).2.2]) ∧ Below w.heap.size w w' := by
  rw [show tAt (a1, a2, a3) (b1, b2, b3) (c1, c2, c3) u v = (0, 0, 0) by unfold tAt; rw [if_neg (by unfold c16; simp; omega)]]
  dsimp only
  have KP := Lib.hid (fun w => ref11_places a1 a2 a3 b1 b2 b3 c1 c2 c3 w)
  rw [h0] at KP
  have t1 : decide (u < 0) = false := decide_eq_false (by omega)
  have t2 : decide (v < 0) = false := decide_eq_false (by omega)
  have t3 : decide (65536 < u) = true := decide_eq_true (by omega)
  clear h0 h1 h2 h3
  go_enter Try.func17, Try.ntmps17
  go_upto_region 1 with (fail)
  obtain ⟨W1, hW1⟩ : ∃ W, W = (((w.alloc (.cells #[.int .i64 a1, .int .i64 a2, .int .i64 a3] 23)).alloc (.cells #[.int .i64 b1, .int .i64 b2, .int .i64 b3] 23)).alloc (.cells #[.int .i64 c1, .int .i64 c2, .int .i64 c3] 23)).alloc (.cells #[.int .i64 0, .int .i64 0, .int .i64 0] 23) := ⟨_, rfl⟩
  obtain ⟨k_a, k_b, k_c, k_r, B1⟩ := st4 hW1
  rw [← hW1]
  clear hW1
  have l_b : w.heap.size < w.heap.size + 1 := by omega
  have l_c : w.heap.size + 1 < w.heap.size + 1 + 1 := by omega
  have l_r : w.heap.size + 1 + 1 < w.heap.size + 1 + 1 + 1 := by omega
  generalize w.heap.size + 1 + 1 + 1 = g_r at *
  generalize w.heap.size + 1 + 1 = g_c at *
  generalize w.heap.size + 1 = g_b at *
  obtain ⟨c_a_0, c_a_1, c_a_2⟩ := bwc3 (k_a)
  obtain ⟨c_b_0, c_b_1, c_b_2⟩ := bwc3 (k_b)
  obtain ⟨c_c_0, c_c_1, c_c_2⟩ := bwc3 (k_c)
  obtain ⟨c_r_0, c_r_1, c_r_2⟩ := bwc3 (k_r)
  obtain ⟨f_r_0, f_r_1, f_r_2⟩ := bwf3 (k_r)
  obtain ⟨p1, hp1⟩ : ∃ p : BW W1, p.w = W1 := ⟨BW.start W1, rfl⟩
  rw [← hp1]
  clear hp1
  go_wp2_with (first
    | (go_at_call 33; (first | (with_reducible refine (bw_call KP.out _).mono ?_)); rintro e w' ⟨rfl, q, rfl⟩))
  have kr := bkp3 (k_r.below q.h) (.int .i64 0) (.int .i64 0) (.int .i64 0)
  obtain ⟨rc0, rc1, rc2⟩ := rwc3 kr
  exact bodyPost_ret (v := .agg #[.int .i64 0, .int .i64 0, .int .i64 0]) (by simp [results, Try.results17, go_sem, rc0, rc1, rc2]) rfl ⟨rfl, blp3 (bw_below B1 q) (by omega)⟩

set_option maxRecDepth 100000 in
set_option maxHeartbeats 8000000 in
theorem ref11_At_no4 (a1 a2 a3 b1 b2 b3 c1 c2 c3 u v : Int) (w : World) (h0 : pl3 (a1, a2, a3) (b1, b2, b3) (c1, c2, c3) = true) (h1 : 0 ≤ u) (h2 : 0 ≤ v) (h3 : u ≤ 65536) (h4 : 65536 < v) :
    Calls Try.prog 17 #[.agg #[.int .i64 a1, .int .i64 a2, .int .i64 a3], .agg #[.int .i64 b1, .int .i64 b2, .int .i64 b3], .agg #[.int .i64 c1, .int .i64 c2, .int .i64 c3], .int .i64 u, .int .i64 v] w fun en w' => en = .returned (.agg #[.int .i64 (tAt (a1, a2, a3) (b1, b2, b3) (c1, c2, c3) u v).1, .int .i64 (tAt (a1, a2, a3) (b1, b2, b3) (c1, c2, c3) u v).2.1, .int .i64 (tAt (a1, a2, a3) (b1, b2, b3) (c1, c2, c3) u v).2.2]) ∧ Below w.heap.size w w' := by
  rw [show tAt (a1, a2, a3) (b1, b2, b3) (c1, c2, c3) u v = (0, 0, 0) by unfold tAt; rw [if_neg (by unfold c16; simp; omega)]]
  dsimp only
  have KP := Lib.hid (fun w => ref11_places a1 a2 a3 b1 b2 b3 c1 c2 c3 w)
  rw [h0] at KP
  have t1 : decide (u < 0) = false := decide_eq_false (by omega)
  have t2 : decide (v < 0) = false := decide_eq_false (by omega)
  have t3 : decide (65536 < u) = false := decide_eq_false (by omega)
  have t4 : decide (65536 < v) = true := decide_eq_true (by omega)
  clear h0 h1 h2 h3 h4
  go_enter Try.func17, Try.ntmps17
  go_upto_region 1 with (fail)
  obtain ⟨W1, hW1⟩ : ∃ W, W = (((w.alloc (.cells #[.int .i64 a1, .int .i64 a2, .int .i64 a3] 23)).alloc (.cells #[.int .i64 b1, .int .i64 b2, .int .i64 b3] 23)).alloc (.cells #[.int .i64 c1, .int .i64 c2, .int .i64 c3] 23)).alloc (.cells #[.int .i64 0, .int .i64 0, .int .i64 0] 23) := ⟨_, rfl⟩
  obtain ⟨k_a, k_b, k_c, k_r, B1⟩ := st4 hW1
  rw [← hW1]
  clear hW1
  have l_b : w.heap.size < w.heap.size + 1 := by omega
  have l_c : w.heap.size + 1 < w.heap.size + 1 + 1 := by omega
  have l_r : w.heap.size + 1 + 1 < w.heap.size + 1 + 1 + 1 := by omega
  generalize w.heap.size + 1 + 1 + 1 = g_r at *
  generalize w.heap.size + 1 + 1 = g_c at *
  generalize w.heap.size + 1 = g_b at *
  obtain ⟨c_a_0, c_a_1, c_a_2⟩ := bwc3 (k_a)
  obtain ⟨c_b_0, c_b_1, c_b_2⟩ := bwc3 (k_b)
  obtain ⟨c_c_0, c_c_1, c_c_2⟩ := bwc3 (k_c)
  obtain ⟨c_r_0, c_r_1, c_r_2⟩ := bwc3 (k_r)
  obtain ⟨f_r_0, f_r_1, f_r_2⟩ := bwf3 (k_r)
  obtain ⟨p1, hp1⟩ : ∃ p : BW W1, p.w = W1 := ⟨BW.start W1, rfl⟩
  rw [← hp1]
  clear hp1
  go_wp2_with (first
    | (go_at_call 33; (first | (with_reducible refine (bw_call KP.out _).mono ?_)); rintro e w' ⟨rfl, q, rfl⟩))
  have kr := bkp3 (k_r.below q.h) (.int .i64 0) (.int .i64 0) (.int .i64 0)
  obtain ⟨rc0, rc1, rc2⟩ := rwc3 kr
  exact bodyPost_ret (v := .agg #[.int .i64 0, .int .i64 0, .int .i64 0]) (by simp [results, Try.results17, go_sem, rc0, rc1, rc2]) rfl ⟨rfl, blp3 (bw_below B1 q) (by omega)⟩

set_option maxRecDepth 100000 in
set_option maxHeartbeats 8000000 in
theorem ref11_At_turned (a1 a2 a3 b1 b2 b3 c1 c2 c3 u v : Int) (w : World) (h0 : pl3 (a1, a2, a3) (b1, b2, b3) (c1, c2, c3) = true) (h1 : 0 ≤ u ∧ u ≤ 65536) (h2 : 0 ≤ v ∧ v ≤ 65536) (h3 : 65536 < u + v) :
    Calls Try.prog 17 #[.agg #[.int .i64 a1, .int .i64 a2, .int .i64 a3], .agg #[.int .i64 b1, .int .i64 b2, .int .i64 b3], .agg #[.int .i64 c1, .int .i64 c2, .int .i64 c3], .int .i64 u, .int .i64 v] w fun en w' => en = .returned (.agg #[.int .i64 (tAt (a1, a2, a3) (b1, b2, b3) (c1, c2, c3) u v).1, .int .i64 (tAt (a1, a2, a3) (b1, b2, b3) (c1, c2, c3) u v).2.1, .int .i64 (tAt (a1, a2, a3) (b1, b2, b3) (c1, c2, c3) u v).2.2]) ∧ Below w.heap.size w w' := by
  have KP := Lib.hid (fun w => ref11_places a1 a2 a3 b1 b2 b3 c1 c2 c3 w)
  obtain ⟨ha, hb, hc⟩ := pl3_iff.1 h0
  have i1 := plc_iff.1 ha
  have i2 := plc_iff.1 hb
  have i3 := plc_iff.1 hc
  dsimp only at i1 i2 i3
  rw [show tAt (a1, a2, a3) (b1, b2, b3) (c1, c2, c3) u v = (a1 + ((b1 - a1) * (65536 - u) + (c1 - a1) * (65536 - v)) / 65536, a2 + ((b2 - a2) * (65536 - u) + (c2 - a2) * (65536 - v)) / 65536, a3 + ((b3 - a3) * (65536 - u) + (c3 - a3) * (65536 - v)) / 65536) by unfold tAt c16; rw [if_pos ⟨h0, decide_eq_true h1, decide_eq_true h2⟩, if_pos h3]]
  dsimp only
  rw [h0] at KP
  have t1 : decide (u < 0) = false := decide_eq_false (by omega)
  have r1 : decide (65536 < u) = false := decide_eq_false (by omega)
  have t2 : decide (v < 0) = false := decide_eq_false (by omega)
  have r2 : decide (65536 < v) = false := decide_eq_false (by omega)
  obtain ⟨sm, hsm⟩ : ∃ t, u + v = t := ⟨_, rfl⟩
  have wsm : wrap64 (u + v) = sm := by rw [hsm]; exact IntWalk.wrap64_in _ (by omega)
  have vsm : IntKind.i64.wrap (u + v) = sm := by rw [hsm, i64w]; omega
  have t5 : decide (65536 < sm) = true := decide_eq_true (by omega)
  obtain ⟨uu, huu⟩ : ∃ t, 65536 - u = t := ⟨_, rfl⟩
  have wuu : wrap64 (65536 - u) = uu := by rw [huu]; exact IntWalk.wrap64_in _ (by omega)
  have vuu : IntKind.i64.wrap (65536 - u) = uu := by rw [huu, i64w]; omega
  obtain ⟨vv, hvv⟩ : ∃ t, 65536 - v = t := ⟨_, rfl⟩
  have wvv : wrap64 (65536 - v) = vv := by rw [hvv]; exact IntWalk.wrap64_in _ (by omega)
  have vvv : IntKind.i64.wrap (65536 - v) = vv := by rw [hvv, i64w]; omega
  rw [huu, hvv]
  have iu : 0 ≤ uu ∧ uu ≤ 65536 := by omega
  have iv : 0 ≤ vv ∧ vv ≤ 65536 := by omega
  obtain ⟨e1, he1⟩ : ∃ t, b1 - a1 = t := ⟨_, rfl⟩
  have we1 : wrap64 (b1 - a1) = e1 := by rw [he1]; exact IntWalk.wrap64_in _ (by omega)
  have ve1 : IntKind.i64.wrap (b1 - a1) = e1 := by rw [he1, i64w]; omega
  obtain ⟨f1, hf1⟩ : ∃ t, c1 - a1 = t := ⟨_, rfl⟩
  have wf1 : wrap64 (c1 - a1) = f1 := by rw [hf1]; exact IntWalk.wrap64_in _ (by omega)
  have vf1 : IntKind.i64.wrap (c1 - a1) = f1 := by rw [hf1, i64w]; omega
  have ie0 := mul_in (x := e1) (a := uu) (N := 1048576) (M := 65536) (by omega) (by omega)
  have if0 := mul_in (x := f1) (a := vv) (N := 1048576) (M := 65536) (by omega) (by omega)
  obtain ⟨m1, hm1⟩ : ∃ t, e1 * uu = t := ⟨_, rfl⟩
  rw [hm1] at ie0
  have wm1 : wrap64 (e1 * uu) = m1 := by rw [hm1]; exact IntWalk.wrap64_in _ (by omega)
  have vm1 : IntKind.i64.wrap (e1 * uu) = m1 := by rw [hm1, i64w]; omega
  obtain ⟨n1, hn1⟩ : ∃ t, f1 * vv = t := ⟨_, rfl⟩
  rw [hn1] at if0
  have wn1 : wrap64 (f1 * vv) = n1 := by rw [hn1]; exact IntWalk.wrap64_in _ (by omega)
  have vn1 : IntKind.i64.wrap (f1 * vv) = n1 := by rw [hn1, i64w]; omega
  obtain ⟨s1, hs1⟩ : ∃ t, m1 + n1 = t := ⟨_, rfl⟩
  have ws1 : wrap64 (m1 + n1) = s1 := by rw [hs1]; exact IntWalk.wrap64_in _ (by omega)
  have vs1 : IntKind.i64.wrap (m1 + n1) = s1 := by rw [hs1, i64w]; omega
  have KD1 := Lib.hid (fun w => below_of_same (fun w => ref_Div s1 65536 w (by unfold I64; omega) (by unfold I64; omega)) w)
  rw [show dv s1 65536 = s1 / 65536 by unfold dv; rw [if_neg (by omega)]] at KD1
  obtain ⟨d1, hd1⟩ : ∃ t, s1 / 65536 = t := ⟨_, rfl⟩
  rw [hd1] at KD1
  obtain ⟨x1, hx1⟩ : ∃ t, a1 + d1 = t := ⟨_, rfl⟩
  have wx1 : wrap64 (a1 + d1) = x1 := by rw [hx1]; exact IntWalk.wrap64_in _ (by omega)
  have vx1 : IntKind.i64.wrap (a1 + d1) = x1 := by rw [hx1, i64w]; omega
  rw [he1, hf1, hm1, hn1, hs1, hd1, hx1]
  obtain ⟨e2, he2⟩ : ∃ t, b2 - a2 = t := ⟨_, rfl⟩
  have we2 : wrap64 (b2 - a2) = e2 := by rw [he2]; exact IntWalk.wrap64_in _ (by omega)
  have ve2 : IntKind.i64.wrap (b2 - a2) = e2 := by rw [he2, i64w]; omega
  obtain ⟨f2, hf2⟩ : ∃ t, c2 - a2 = t := ⟨_, rfl⟩
  have wf2 : wrap64 (c2 - a2) = f2 := by rw [hf2]; exact IntWalk.wrap64_in _ (by omega)
  have vf2 : IntKind.i64.wrap (c2 - a2) = f2 := by rw [hf2, i64w]; omega
  have ie1 := mul_in (x := e2) (a := uu) (N := 1048576) (M := 65536) (by omega) (by omega)
  have if1 := mul_in (x := f2) (a := vv) (N := 1048576) (M := 65536) (by omega) (by omega)
  obtain ⟨m2, hm2⟩ : ∃ t, e2 * uu = t := ⟨_, rfl⟩
  rw [hm2] at ie1
  have wm2 : wrap64 (e2 * uu) = m2 := by rw [hm2]; exact IntWalk.wrap64_in _ (by omega)
  have vm2 : IntKind.i64.wrap (e2 * uu) = m2 := by rw [hm2, i64w]; omega
  obtain ⟨n2, hn2⟩ : ∃ t, f2 * vv = t := ⟨_, rfl⟩
  rw [hn2] at if1
  have wn2 : wrap64 (f2 * vv) = n2 := by rw [hn2]; exact IntWalk.wrap64_in _ (by omega)
  have vn2 : IntKind.i64.wrap (f2 * vv) = n2 := by rw [hn2, i64w]; omega
  obtain ⟨s2, hs2⟩ : ∃ t, m2 + n2 = t := ⟨_, rfl⟩
  have ws2 : wrap64 (m2 + n2) = s2 := by rw [hs2]; exact IntWalk.wrap64_in _ (by omega)
  have vs2 : IntKind.i64.wrap (m2 + n2) = s2 := by rw [hs2, i64w]; omega
  have KD2 := Lib.hid (fun w => below_of_same (fun w => ref_Div s2 65536 w (by unfold I64; omega) (by unfold I64; omega)) w)
  rw [show dv s2 65536 = s2 / 65536 by unfold dv; rw [if_neg (by omega)]] at KD2
  obtain ⟨d2, hd2⟩ : ∃ t, s2 / 65536 = t := ⟨_, rfl⟩
  rw [hd2] at KD2
  obtain ⟨x2, hx2⟩ : ∃ t, a2 + d2 = t := ⟨_, rfl⟩
  have wx2 : wrap64 (a2 + d2) = x2 := by rw [hx2]; exact IntWalk.wrap64_in _ (by omega)
  have vx2 : IntKind.i64.wrap (a2 + d2) = x2 := by rw [hx2, i64w]; omega
  rw [he2, hf2, hm2, hn2, hs2, hd2, hx2]
  obtain ⟨e3, he3⟩ : ∃ t, b3 - a3 = t := ⟨_, rfl⟩
  have we3 : wrap64 (b3 - a3) = e3 := by rw [he3]; exact IntWalk.wrap64_in _ (by omega)
  have ve3 : IntKind.i64.wrap (b3 - a3) = e3 := by rw [he3, i64w]; omega
  obtain ⟨f3, hf3⟩ : ∃ t, c3 - a3 = t := ⟨_, rfl⟩
  have wf3 : wrap64 (c3 - a3) = f3 := by rw [hf3]; exact IntWalk.wrap64_in _ (by omega)
  have vf3 : IntKind.i64.wrap (c3 - a3) = f3 := by rw [hf3, i64w]; omega
  have ie2 := mul_in (x := e3) (a := uu) (N := 1048576) (M := 65536) (by omega) (by omega)
  have if2 := mul_in (x := f3) (a := vv) (N := 1048576) (M := 65536) (by omega) (by omega)
  obtain ⟨m3, hm3⟩ : ∃ t, e3 * uu = t := ⟨_, rfl⟩
  rw [hm3] at ie2
  have wm3 : wrap64 (e3 * uu) = m3 := by rw [hm3]; exact IntWalk.wrap64_in _ (by omega)
  have vm3 : IntKind.i64.wrap (e3 * uu) = m3 := by rw [hm3, i64w]; omega
  obtain ⟨n3, hn3⟩ : ∃ t, f3 * vv = t := ⟨_, rfl⟩
  rw [hn3] at if2
  have wn3 : wrap64 (f3 * vv) = n3 := by rw [hn3]; exact IntWalk.wrap64_in _ (by omega)
  have vn3 : IntKind.i64.wrap (f3 * vv) = n3 := by rw [hn3, i64w]; omega
  obtain ⟨s3, hs3⟩ : ∃ t, m3 + n3 = t := ⟨_, rfl⟩
  have ws3 : wrap64 (m3 + n3) = s3 := by rw [hs3]; exact IntWalk.wrap64_in _ (by omega)
  have vs3 : IntKind.i64.wrap (m3 + n3) = s3 := by rw [hs3, i64w]; omega
  have KD3 := Lib.hid (fun w => below_of_same (fun w => ref_Div s3 65536 w (by unfold I64; omega) (by unfold I64; omega)) w)
  rw [show dv s3 65536 = s3 / 65536 by unfold dv; rw [if_neg (by omega)]] at KD3
  obtain ⟨d3, hd3⟩ : ∃ t, s3 / 65536 = t := ⟨_, rfl⟩
  rw [hd3] at KD3
  obtain ⟨x3, hx3⟩ : ∃ t, a3 + d3 = t := ⟨_, rfl⟩
  have wx3 : wrap64 (a3 + d3) = x3 := by rw [hx3]; exact IntWalk.wrap64_in _ (by omega)
  have vx3 : IntKind.i64.wrap (a3 + d3) = x3 := by rw [hx3, i64w]; omega
  rw [he3, hf3, hm3, hn3, hs3, hd3, hx3]
  clear he1 hf1 hm1 hn1 hs1 hd1 hx1 he2 hf2 hm2 hn2 hs2 hd2 hx2 he3 hf3 hm3 hn3 hs3 hd3 hx3 ie0 ie1 ie2 if0 if1 if2 hsm iu iv i1 i2 i3 ha hb hc h0 h1 h2 h3 huu hvv
  go_enter Try.func17, Try.ntmps17
  go_upto_region 1 with (fail)
  obtain ⟨W1, hW1⟩ : ∃ W, W = (((w.alloc (.cells #[.int .i64 a1, .int .i64 a2, .int .i64 a3] 23)).alloc (.cells #[.int .i64 b1, .int .i64 b2, .int .i64 b3] 23)).alloc (.cells #[.int .i64 c1, .int .i64 c2, .int .i64 c3] 23)).alloc (.cells #[.int .i64 0, .int .i64 0, .int .i64 0] 23) := ⟨_, rfl⟩
  obtain ⟨k_a, k_b, k_c, k_r, B1⟩ := st4 hW1
  rw [← hW1]
  clear hW1
  have l_b : w.heap.size < w.heap.size + 1 := by omega
  have l_c : w.heap.size + 1 < w.heap.size + 1 + 1 := by omega
  have l_r : w.heap.size + 1 + 1 < w.heap.size + 1 + 1 + 1 := by omega
  generalize w.heap.size + 1 + 1 + 1 = g_r at *
  generalize w.heap.size + 1 + 1 = g_c at *
  generalize w.heap.size + 1 = g_b at *
  obtain ⟨c_a_0, c_a_1, c_a_2⟩ := bwc3 (k_a)
  obtain ⟨c_b_0, c_b_1, c_b_2⟩ := bwc3 (k_b)
  obtain ⟨c_c_0, c_c_1, c_c_2⟩ := bwc3 (k_c)
  obtain ⟨c_r_0, c_r_1, c_r_2⟩ := bwc3 (k_r)
  obtain ⟨f_r_0, f_r_1, f_r_2⟩ := bwf3 (k_r)
  obtain ⟨p1, hp1⟩ : ∃ p : BW W1, p.w = W1 := ⟨BW.start W1, rfl⟩
  rw [← hp1]
  clear hp1
  go_upto_region 3 with (first
    | (go_at_call 33; (first | (with_reducible refine (bw_call KP.out _).mono ?_)); rintro e w' ⟨rfl, q, rfl⟩))
  go_upto_region 9 with (first
    | (go_at_call 44; (first | (with_reducible refine (bw_call KD1.out _).mono ?_) | (with_reducible refine (bw_call KD2.out _).mono ?_) | (with_reducible refine (bw_call KD3.out _).mono ?_)); rintro e w' ⟨rfl, q, rfl⟩))
  repeat (first | go_values | go_skip | go_guarded | go_step | go_upon)
  have kr := bkp3 (k_r.below q.h) (.int .i64 x1) (.int .i64 x2) (.int .i64 x3)
  obtain ⟨rc0, rc1, rc2⟩ := rwc3 kr
  exact bodyPost_ret (v := .agg #[.int .i64 x1, .int .i64 x2, .int .i64 x3]) (by simp [results, Try.results17, go_sem, rc0, rc1, rc2]) rfl ⟨rfl, blp3 (bw_below B1 q) (by omega)⟩

set_option maxRecDepth 100000 in
set_option maxHeartbeats 8000000 in
theorem ref11_At_plain (a1 a2 a3 b1 b2 b3 c1 c2 c3 u v : Int) (w : World) (h0 : pl3 (a1, a2, a3) (b1, b2, b3) (c1, c2, c3) = true) (h1 : 0 ≤ u ∧ u ≤ 65536) (h2 : 0 ≤ v ∧ v ≤ 65536) (h3 : u + v ≤ 65536) :
    Calls Try.prog 17 #[.agg #[.int .i64 a1, .int .i64 a2, .int .i64 a3], .agg #[.int .i64 b1, .int .i64 b2, .int .i64 b3], .agg #[.int .i64 c1, .int .i64 c2, .int .i64 c3], .int .i64 u, .int .i64 v] w fun en w' => en = .returned (.agg #[.int .i64 (tAt (a1, a2, a3) (b1, b2, b3) (c1, c2, c3) u v).1, .int .i64 (tAt (a1, a2, a3) (b1, b2, b3) (c1, c2, c3) u v).2.1, .int .i64 (tAt (a1, a2, a3) (b1, b2, b3) (c1, c2, c3) u v).2.2]) ∧ Below w.heap.size w w' := by
  have KP := Lib.hid (fun w => ref11_places a1 a2 a3 b1 b2 b3 c1 c2 c3 w)
  obtain ⟨ha, hb, hc⟩ := pl3_iff.1 h0
  have i1 := plc_iff.1 ha
  have i2 := plc_iff.1 hb
  have i3 := plc_iff.1 hc
  dsimp only at i1 i2 i3
  rw [show tAt (a1, a2, a3) (b1, b2, b3) (c1, c2, c3) u v = (a1 + ((b1 - a1) * u + (c1 - a1) * v) / 65536, a2 + ((b2 - a2) * u + (c2 - a2) * v) / 65536, a3 + ((b3 - a3) * u + (c3 - a3) * v) / 65536) by unfold tAt c16; rw [if_pos ⟨h0, decide_eq_true h1, decide_eq_true h2⟩, if_neg (by omega)]]
  dsimp only
  rw [h0] at KP
  have t1 : decide (u < 0) = false := decide_eq_false (by omega)
  have r1 : decide (65536 < u) = false := decide_eq_false (by omega)
  have t2 : decide (v < 0) = false := decide_eq_false (by omega)
  have r2 : decide (65536 < v) = false := decide_eq_false (by omega)
  obtain ⟨sm, hsm⟩ : ∃ t, u + v = t := ⟨_, rfl⟩
  have wsm : wrap64 (u + v) = sm := by rw [hsm]; exact IntWalk.wrap64_in _ (by omega)
  have vsm : IntKind.i64.wrap (u + v) = sm := by rw [hsm, i64w]; omega
  have t5 : decide (65536 < sm) = false := decide_eq_false (by omega)
  have iu : 0 ≤ u ∧ u ≤ 65536 := by omega
  have iv : 0 ≤ v ∧ v ≤ 65536 := by omega
  obtain ⟨e1, he1⟩ : ∃ t, b1 - a1 = t := ⟨_, rfl⟩
  have we1 : wrap64 (b1 - a1) = e1 := by rw [he1]; exact IntWalk.wrap64_in _ (by omega)
  have ve1 : IntKind.i64.wrap (b1 - a1) = e1 := by rw [he1, i64w]; omega
  obtain ⟨f1, hf1⟩ : ∃ t, c1 - a1 = t := ⟨_, rfl⟩
  have wf1 : wrap64 (c1 - a1) = f1 := by rw [hf1]; exact IntWalk.wrap64_in _ (by omega)
  have vf1 : IntKind.i64.wrap (c1 - a1) = f1 := by rw [hf1, i64w]; omega
  have ie0 := mul_in (x := e1) (a := u) (N := 1048576) (M := 65536) (by omega) (by omega)
  have if0 := mul_in (x := f1) (a := v) (N := 1048576) (M := 65536) (by omega) (by omega)
  obtain ⟨m1, hm1⟩ : ∃ t, e1 * u = t := ⟨_, rfl⟩
  rw [hm1] at ie0
  have wm1 : wrap64 (e1 * u) = m1 := by rw [hm1]; exact IntWalk.wrap64_in _ (by omega)
  have vm1 : IntKind.i64.wrap (e1 * u) = m1 := by rw [hm1, i64w]; omega
  obtain ⟨n1, hn1⟩ : ∃ t, f1 * v = t := ⟨_, rfl⟩
  rw [hn1] at if0
  have wn1 : wrap64 (f1 * v) = n1 := by rw [hn1]; exact IntWalk.wrap64_in _ (by omega)
  have vn1 : IntKind.i64.wrap (f1 * v) = n1 := by rw [hn1, i64w]; omega
  obtain ⟨s1, hs1⟩ : ∃ t, m1 + n1 = t := ⟨_, rfl⟩
  have ws1 : wrap64 (m1 + n1) = s1 := by rw [hs1]; exact IntWalk.wrap64_in _ (by omega)
  have vs1 : IntKind.i64.wrap (m1 + n1) = s1 := by rw [hs1, i64w]; omega
  have KD1 := Lib.hid (fun w => below_of_same (fun w => ref_Div s1 65536 w (by unfold I64; omega) (by unfold I64; omega)) w)
  rw [show dv s1 65536 = s1 / 65536 by unfold dv; rw [if_neg (by omega)]] at KD1
  obtain ⟨d1, hd1⟩ : ∃ t, s1 / 65536 = t := ⟨_, rfl⟩
  rw [hd1] at KD1
  obtain ⟨x1, hx1⟩ : ∃ t, a1 + d1 = t := ⟨_, rfl⟩
  have wx1 : wrap64 (a1 + d1) = x1 := by rw [hx1]; exact IntWalk.wrap64_in _ (by omega)
  have vx1 : IntKind.i64.wrap (a1 + d1) = x1 := by rw [hx1, i64w]; omega
  rw [he1, hf1, hm1, hn1, hs1, hd1, hx1]
  obtain ⟨e2, he2⟩ : ∃ t, b2 - a2 = t := ⟨_, rfl⟩
  have we2 : wrap64 (b2 - a2) = e2 := by rw [he2]; exact IntWalk.wrap64_in _ (by omega)
  have ve2 : IntKind.i64.wrap (b2 - a2) = e2 := by rw [he2, i64w]; omega
  obtain ⟨f2, hf2⟩ : ∃ t, c2 - a2 = t := ⟨_, rfl⟩
  have wf2 : wrap64 (c2 - a2) = f2 := by rw [hf2]; exact IntWalk.wrap64_in _ (by omega)
  have vf2 : IntKind.i64.wrap (c2 - a2) = f2 := by rw [hf2, i64w]; omega
  have ie1 := mul_in (x := e2) (a := u) (N := 1048576) (M := 65536) (by omega) (by omega)
  have if1 := mul_in (x := f2) (a := v) (N := 1048576) (M := 65536) (by omega) (by omega)
  obtain ⟨m2, hm2⟩ : ∃ t, e2 * u = t := ⟨_, rfl⟩
  rw [hm2] at ie1
  have wm2 : wrap64 (e2 * u) = m2 := by rw [hm2]; exact IntWalk.wrap64_in _ (by omega)
  have vm2 : IntKind.i64.wrap (e2 * u) = m2 := by rw [hm2, i64w]; omega
  obtain ⟨n2, hn2⟩ : ∃ t, f2 * v = t := ⟨_, rfl⟩
  rw [hn2] at if1
  have wn2 : wrap64 (f2 * v) = n2 := by rw [hn2]; exact IntWalk.wrap64_in _ (by omega)
  have vn2 : IntKind.i64.wrap (f2 * v) = n2 := by rw [hn2, i64w]; omega
  obtain ⟨s2, hs2⟩ : ∃ t, m2 + n2 = t := ⟨_, rfl⟩
  have ws2 : wrap64 (m2 + n2) = s2 := by rw [hs2]; exact IntWalk.wrap64_in _ (by omega)
  have vs2 : IntKind.i64.wrap (m2 + n2) = s2 := by rw [hs2, i64w]; omega
  have KD2 := Lib.hid (fun w => below_of_same (fun w => ref_Div s2 65536 w (by unfold I64; omega) (by unfold I64; omega)) w)
  rw [show dv s2 65536 = s2 / 65536 by unfold dv; rw [if_neg (by omega)]] at KD2
  obtain ⟨d2, hd2⟩ : ∃ t, s2 / 65536 = t := ⟨_, rfl⟩
  rw [hd2] at KD2
  obtain ⟨x2, hx2⟩ : ∃ t, a2 + d2 = t := ⟨_, rfl⟩
  have wx2 : wrap64 (a2 + d2) = x2 := by rw [hx2]; exact IntWalk.wrap64_in _ (by omega)
  have vx2 : IntKind.i64.wrap (a2 + d2) = x2 := by rw [hx2, i64w]; omega
  rw [he2, hf2, hm2, hn2, hs2, hd2, hx2]
  obtain ⟨e3, he3⟩ : ∃ t, b3 - a3 = t := ⟨_, rfl⟩
  have we3 : wrap64 (b3 - a3) = e3 := by rw [he3]; exact IntWalk.wrap64_in _ (by omega)
  have ve3 : IntKind.i64.wrap (b3 - a3) = e3 := by rw [he3, i64w]; omega
  obtain ⟨f3, hf3⟩ : ∃ t, c3 - a3 = t := ⟨_, rfl⟩
  have wf3 : wrap64 (c3 - a3) = f3 := by rw [hf3]; exact IntWalk.wrap64_in _ (by omega)
  have vf3 : IntKind.i64.wrap (c3 - a3) = f3 := by rw [hf3, i64w]; omega
  have ie2 := mul_in (x := e3) (a := u) (N := 1048576) (M := 65536) (by omega) (by omega)
  have if2 := mul_in (x := f3) (a := v) (N := 1048576) (M := 65536) (by omega) (by omega)
  obtain ⟨m3, hm3⟩ : ∃ t, e3 * u = t := ⟨_, rfl⟩
  rw [hm3] at ie2
  have wm3 : wrap64 (e3 * u) = m3 := by rw [hm3]; exact IntWalk.wrap64_in _ (by omega)
  have vm3 : IntKind.i64.wrap (e3 * u) = m3 := by rw [hm3, i64w]; omega
  obtain ⟨n3, hn3⟩ : ∃ t, f3 * v = t := ⟨_, rfl⟩
  rw [hn3] at if2
  have wn3 : wrap64 (f3 * v) = n3 := by rw [hn3]; exact IntWalk.wrap64_in _ (by omega)
  have vn3 : IntKind.i64.wrap (f3 * v) = n3 := by rw [hn3, i64w]; omega
  obtain ⟨s3, hs3⟩ : ∃ t, m3 + n3 = t := ⟨_, rfl⟩
  have ws3 : wrap64 (m3 + n3) = s3 := by rw [hs3]; exact IntWalk.wrap64_in _ (by omega)
  have vs3 : IntKind.i64.wrap (m3 + n3) = s3 := by rw [hs3, i64w]; omega
  have KD3 := Lib.hid (fun w => below_of_same (fun w => ref_Div s3 65536 w (by unfold I64; omega) (by unfold I64; omega)) w)
  rw [show dv s3 65536 = s3 / 65536 by unfold dv; rw [if_neg (by omega)]] at KD3
  obtain ⟨d3, hd3⟩ : ∃ t, s3 / 65536 = t := ⟨_, rfl⟩
  rw [hd3] at KD3
  obtain ⟨x3, hx3⟩ : ∃ t, a3 + d3 = t := ⟨_, rfl⟩
  have wx3 : wrap64 (a3 + d3) = x3 := by rw [hx3]; exact IntWalk.wrap64_in _ (by omega)
  have vx3 : IntKind.i64.wrap (a3 + d3) = x3 := by rw [hx3, i64w]; omega
  rw [he3, hf3, hm3, hn3, hs3, hd3, hx3]
  clear he1 hf1 hm1 hn1 hs1 hd1 hx1 he2 hf2 hm2 hn2 hs2 hd2 hx2 he3 hf3 hm3 hn3 hs3 hd3 hx3 ie0 ie1 ie2 if0 if1 if2 hsm iu iv i1 i2 i3 ha hb hc h0 h1 h2 h3
  go_enter Try.func17, Try.ntmps17
  go_upto_region 1 with (fail)
  obtain ⟨W1, hW1⟩ : ∃ W, W = (((w.alloc (.cells #[.int .i64 a1, .int .i64 a2, .int .i64 a3] 23)).alloc (.cells #[.int .i64 b1, .int .i64 b2, .int .i64 b3] 23)).alloc (.cells #[.int .i64 c1, .int .i64 c2, .int .i64 c3] 23)).alloc (.cells #[.int .i64 0, .int .i64 0, .int .i64 0] 23) := ⟨_, rfl⟩
  obtain ⟨k_a, k_b, k_c, k_r, B1⟩ := st4 hW1
  rw [← hW1]
  clear hW1
  have l_b : w.heap.size < w.heap.size + 1 := by omega
  have l_c : w.heap.size + 1 < w.heap.size + 1 + 1 := by omega
  have l_r : w.heap.size + 1 + 1 < w.heap.size + 1 + 1 + 1 := by omega
  generalize w.heap.size + 1 + 1 + 1 = g_r at *
  generalize w.heap.size + 1 + 1 = g_c at *
  generalize w.heap.size + 1 = g_b at *
  obtain ⟨c_a_0, c_a_1, c_a_2⟩ := bwc3 (k_a)
  obtain ⟨c_b_0, c_b_1, c_b_2⟩ := bwc3 (k_b)
  obtain ⟨c_c_0, c_c_1, c_c_2⟩ := bwc3 (k_c)
  obtain ⟨c_r_0, c_r_1, c_r_2⟩ := bwc3 (k_r)
  obtain ⟨f_r_0, f_r_1, f_r_2⟩ := bwf3 (k_r)
  obtain ⟨p1, hp1⟩ : ∃ p : BW W1, p.w = W1 := ⟨BW.start W1, rfl⟩
  rw [← hp1]
  clear hp1
  go_upto_region 3 with (first
    | (go_at_call 33; (first | (with_reducible refine (bw_call KP.out _).mono ?_)); rintro e w' ⟨rfl, q, rfl⟩))
  go_upto_region 9 with (first
    | (go_at_call 44; (first | (with_reducible refine (bw_call KD1.out _).mono ?_) | (with_reducible refine (bw_call KD2.out _).mono ?_) | (with_reducible refine (bw_call KD3.out _).mono ?_)); rintro e w' ⟨rfl, q, rfl⟩))
  repeat (first | go_values | go_skip | go_guarded | go_step | go_upon)
  have kr := bkp3 (k_r.below q.h) (.int .i64 x1) (.int .i64 x2) (.int .i64 x3)
  obtain ⟨rc0, rc1, rc2⟩ := rwc3 kr
  exact bodyPost_ret (v := .agg #[.int .i64 x1, .int .i64 x2, .int .i64 x3]) (by simp [results, Try.results17, go_sem, rc0, rc1, rc2]) rfl ⟨rfl, blp3 (bw_below B1 q) (by omega)⟩

set_option maxRecDepth 100000 in
set_option maxHeartbeats 8000000 in
theorem ref11_At (a1 a2 a3 b1 b2 b3 c1 c2 c3 u v : Int) (w : World) :
    Calls Try.prog 17 #[.agg #[.int .i64 a1, .int .i64 a2, .int .i64 a3], .agg #[.int .i64 b1, .int .i64 b2, .int .i64 b3], .agg #[.int .i64 c1, .int .i64 c2, .int .i64 c3], .int .i64 u, .int .i64 v] w fun en w' => en = .returned (.agg #[.int .i64 (tAt (a1, a2, a3) (b1, b2, b3) (c1, c2, c3) u v).1, .int .i64 (tAt (a1, a2, a3) (b1, b2, b3) (c1, c2, c3) u v).2.1, .int .i64 (tAt (a1, a2, a3) (b1, b2, b3) (c1, c2, c3) u v).2.2]) ∧ Below w.heap.size w w' := by
  cases h0 : pl3 (a1, a2, a3) (b1, b2, b3) (c1, c2, c3) with
  | false => exact ref11_At_no0 a1 a2 a3 b1 b2 b3 c1 c2 c3 u v w h0
  | true =>
    by_cases h1 : u < 0
    · exact ref11_At_no1 a1 a2 a3 b1 b2 b3 c1 c2 c3 u v w h0 h1
    by_cases h2 : v < 0
    · exact ref11_At_no2 a1 a2 a3 b1 b2 b3 c1 c2 c3 u v w h0 (by omega) h2
    by_cases h3 : 65536 < u
    · exact ref11_At_no3 a1 a2 a3 b1 b2 b3 c1 c2 c3 u v w h0 (by omega) (by omega) h3
    by_cases h4 : 65536 < v
    · exact ref11_At_no4 a1 a2 a3 b1 b2 b3 c1 c2 c3 u v w h0 (by omega) (by omega) (by omega) h4
    by_cases h5 : 65536 < u + v
    · exact ref11_At_turned a1 a2 a3 b1 b2 b3 c1 c2 c3 u v w h0 (by omega) (by omega) h5
    · exact ref11_At_plain a1 a2 a3 b1 b2 b3 c1 c2 c3 u v w h0 (by omega) (by omega) (by omega)

end Go.Proofs.Ytnidgokmndnenaa
