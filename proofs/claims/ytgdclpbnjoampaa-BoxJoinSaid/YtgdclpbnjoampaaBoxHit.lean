/- The walk of the statement BoxHit. -/
import Derived.Test.YtgdclpbnjoampaaAwake10
import Derived.Test.YtgdclpbnjoampaaRef10
import Derived.Test.YtgdclpbnjoampaaFloat
import Derived.Deep.DeepCutAuto
namespace Go.Proofs.Ytgdclpbnjoampaa
open Go.RowKit Go.Proofs.Sky
set_option linter.unusedVariables false

theorem u32_of_wf {a : Int} (h : (Lit.int .u32 a).wf = true) : 0 ≤ a ∧ a ≤ 4294967295 := by
  simp [Lit.wf, IntKind.min, IntKind.max, IntKind.signed, IntKind.bits] at h
  omega

set_option maxRecDepth 100000 in
set_option maxHeartbeats 8000000 in
theorem law10_of (a1 a2 a3 a4 a5 a6 : Int) (w : World) :
    Calls Try.prog 11 #[.agg #[.int .i64 a1, .int .i64 a2, .int .i64 a3, .int .i64 a4, .int .i64 a5, .int .i64 a6]] w fun e w' => e = .returned (.agg #[.int .i64 a1, .int .i64 a2, .int .i64 a3, .int .i64 a4, .int .i64 a5, .int .i64 a6]) ∧ Below w.heap.size w w' := by
  go_enter Try.func11, Try.ntmps11
  go_upto_region 1 with (fail)
  obtain ⟨W1, hW1⟩ : ∃ W, W = (w.alloc (.cells #[.int .i64 a1, .int .i64 a2, .int .i64 a3, .int .i64 a4, .int .i64 a5, .int .i64 a6] 25)).alloc (.cells #[.int .i64 0, .int .i64 0, .int .i64 0, .int .i64 0, .int .i64 0, .int .i64 0] 37) := ⟨_, rfl⟩
  obtain ⟨k_b, k_r, B1⟩ := st2 hW1
  rw [← hW1]
  clear hW1
  have l_r : w.heap.size < w.heap.size + 1 := by omega
  generalize w.heap.size + 1 = g_r at *
  obtain ⟨c_b_0, c_b_1, c_b_2, c_b_3, c_b_4, c_b_5⟩ := bwc6 (k_b)
  obtain ⟨c_r_0, c_r_1, c_r_2, c_r_3, c_r_4, c_r_5⟩ := bwc6 (k_r)
  obtain ⟨f_r_0, f_r_1, f_r_2, f_r_3, f_r_4, f_r_5⟩ := bwf6 (k_r)
  obtain ⟨p1, hp1⟩ : ∃ p : BW W1, p.w = W1 := ⟨BW.start W1, rfl⟩
  rw [← hp1]
  clear hp1
  go_wp2
  have kr := bkp6 (k_r.below p1.h) (.int .i64 a1) (.int .i64 a2) (.int .i64 a3) (.int .i64 a4) (.int .i64 a5) (.int .i64 a6)
  obtain ⟨rc0, rc1, rc2, rc3, rc4, rc5⟩ := rwc6 kr
  exact bodyPost_ret (v := .agg #[.int .i64 a1, .int .i64 a2, .int .i64 a3, .int .i64 a4, .int .i64 a5, .int .i64 a6]) (by simp [results, Try.results11, go_sem, rc0, rc1, rc2, rc3, rc4, rc5]) rfl ⟨rfl, blp6 (bw_below B1 p1) (by omega)⟩

set_option maxRecDepth 100000 in
set_option maxHeartbeats 8000000 in
theorem law10_times (x y z n xn yn zn : Int) (w : World) (hx : x * n = xn) (hy : y * n = yn) (hz : z * n = zn) (i1 : -2199023255552 ≤ xn ∧ xn ≤ 2199023255552) (i2 : -2199023255552 ≤ yn ∧ yn ≤ 2199023255552) (i3 : -2199023255552 ≤ zn ∧ zn ≤ 2199023255552) :
    Calls Try.prog 8 #[.agg #[.int .i64 x, .int .i64 y, .int .i64 z], .int .i64 n] w fun en w' => en = .returned (.agg #[.int .i64 xn, .int .i64 yn, .int .i64 zn]) ∧ Below w.heap.size w w' := by
  have w1 : wrap64 (x * n) = xn := by rw [hx]; exact IntWalk.wrap64_in _ (by omega)
  have w2 : wrap64 (y * n) = yn := by rw [hy]; exact IntWalk.wrap64_in _ (by omega)
  have w3 : wrap64 (z * n) = zn := by rw [hz]; exact IntWalk.wrap64_in _ (by omega)
  have v1 : IntKind.i64.wrap (x * n) = xn := by rw [hx, i64w]; omega
  have v2 : IntKind.i64.wrap (y * n) = yn := by rw [hy, i64w]; omega
  have v3 : IntKind.i64.wrap (z * n) = zn := by rw [hz, i64w]; omega
  clear hx hy hz i1 i2 i3
  go_enter Try.func8, Try.ntmps8
  go_upto_region 1 with (fail)
  obtain ⟨W1, hW1⟩ : ∃ W, W = (w.alloc (.cells #[.int .i64 x, .int .i64 y, .int .i64 z] 23)).alloc (.cells #[.int .i64 0, .int .i64 0, .int .i64 0] 23) := ⟨_, rfl⟩
  obtain ⟨k_v, k_r, B1⟩ := st2 hW1
  rw [← hW1]
  clear hW1
  have l_r : w.heap.size < w.heap.size + 1 := by omega
  generalize w.heap.size + 1 = g_r at *
  obtain ⟨c_v_0, c_v_1, c_v_2⟩ := bwc3 (k_v)
  obtain ⟨c_r_0, c_r_1, c_r_2⟩ := bwc3 (k_r)
  obtain ⟨f_r_0, f_r_1, f_r_2⟩ := bwf3 (k_r)
  obtain ⟨p1, hp1⟩ : ∃ p : BW W1, p.w = W1 := ⟨BW.start W1, rfl⟩
  rw [← hp1]
  clear hp1
  go_wp2
  have kr := bkp3 (k_r.below p1.h) (.int .i64 xn) (.int .i64 yn) (.int .i64 zn)
  obtain ⟨rc0, rc1, rc2⟩ := rwc3 kr
  exact bodyPost_ret (v := .agg #[.int .i64 xn, .int .i64 yn, .int .i64 zn]) (by simp [results, Try.results8, go_sem, rc0, rc1, rc2]) rfl ⟨rfl, blp3 (bw_below B1 p1) (by omega)⟩

set_option maxRecDepth 100000 in
set_option maxHeartbeats 8000000 in
theorem law_BoxHit_no1 (a1 a2 a3 a4 a5 a6 b1 b2 b3 b4 b5 b6 o1 o2 o3 d1 d2 d3 fr n m : Int) (w : World) (h1 : bRight ((a1, a2, a3), (a4, a5, a6)) = false) :
    Calls Try.prog 3 #[.agg #[.int .i64 a1, .int .i64 a2, .int .i64 a3, .int .i64 a4, .int .i64 a5, .int .i64 a6], .agg #[.int .i64 b1, .int .i64 b2, .int .i64 b3, .int .i64 b4, .int .i64 b5, .int .i64 b6], .agg #[.int .i64 o1, .int .i64 o2, .int .i64 o3, .int .i64 d1, .int .i64 d2, .int .i64 d3, .int .i64 fr], .int .u32 n, .int .u32 m] w fun en w' => en = .returned (.bool true) ∧ Below w.heap.size w w' := by
  have HA := Lib.hid (fun w => awake10 w)
  have KR1 := Lib.hid (fun w => ref10_Right a1 a2 a3 a4 a5 a6 w)
  rw [h1] at KR1
  clear h1
  go_enter Try.func3, Try.ntmps3
  go_upto_region 1 with (fail)
  obtain ⟨W1, hW1⟩ : ∃ W, W = ((w.alloc (.cells #[.int .i64 a1, .int .i64 a2, .int .i64 a3, .int .i64 a4, .int .i64 a5, .int .i64 a6] 25)).alloc (.cells #[.int .i64 b1, .int .i64 b2, .int .i64 b3, .int .i64 b4, .int .i64 b5, .int .i64 b6] 25)).alloc (.cells #[.int .i64 o1, .int .i64 o2, .int .i64 o3, .int .i64 d1, .int .i64 d2, .int .i64 d3, .int .i64 fr] 27) := ⟨_, rfl⟩
  obtain ⟨k_a, k_b, k_y, B1⟩ := st3 hW1
  rw [← hW1]
  clear hW1
  have l_b : w.heap.size < w.heap.size + 1 := by omega
  have l_y : w.heap.size + 1 < w.heap.size + 1 + 1 := by omega
  generalize w.heap.size + 1 + 1 = g_y at *
  generalize w.heap.size + 1 = g_b at *
  obtain ⟨c_a_0, c_a_1, c_a_2, c_a_3, c_a_4, c_a_5⟩ := bwc6 (k_a)
  obtain ⟨c_b_0, c_b_1, c_b_2, c_b_3, c_b_4, c_b_5⟩ := bwc6 (k_b)
  obtain ⟨c_y_0, c_y_1, c_y_2, c_y_3, c_y_4, c_y_5, c_y_6⟩ := bwc7 (k_y)
  obtain ⟨p1, hp1⟩ : ∃ p : BW W1, p.w = W1 := ⟨BW.start W1, rfl⟩
  rw [← hp1]
  clear hp1
  go_wp2_with (first
    | (go_at_call 5; (first | (with_reducible refine (bw_call KR1.out _).mono ?_)); rintro e w' ⟨rfl, q, rfl⟩)
    | (go_at_call 7; (first | (with_reducible refine (bw_call HA.out _).mono ?_)); rintro e w' ⟨rfl, q, rfl⟩))
  go_ret
  exact ⟨rfl, bw_below B1 _⟩

set_option maxRecDepth 100000 in
set_option maxHeartbeats 8000000 in
theorem law_BoxHit_no2 (a1 a2 a3 a4 a5 a6 b1 b2 b3 b4 b5 b6 o1 o2 o3 d1 d2 d3 fr n m : Int) (w : World) (h1 : bRight ((a1, a2, a3), (a4, a5, a6)) = true) (h2 : bRight ((b1, b2, b3), (b4, b5, b6)) = false) :
    Calls Try.prog 3 #[.agg #[.int .i64 a1, .int .i64 a2, .int .i64 a3, .int .i64 a4, .int .i64 a5, .int .i64 a6], .agg #[.int .i64 b1, .int .i64 b2, .int .i64 b3, .int .i64 b4, .int .i64 b5, .int .i64 b6], .agg #[.int .i64 o1, .int .i64 o2, .int .i64 o3, .int .i64 d1, .int .i64 d2, .int .i64 d3, .int .i64 fr], .int .u32 n, .int .u32 m] w fun en w' => en = .returned (.bool true) ∧ Below w.heap.size w w' := by
  have HA := Lib.hid (fun w => awake10 w)
  have KR1 := Lib.hid (fun w => ref10_Right a1 a2 a3 a4 a5 a6 w)
  rw [h1] at KR1
  have KR2 := Lib.hid (fun w => ref10_Right b1 b2 b3 b4 b5 b6 w)
  rw [h2] at KR2
  clear h1 h2
  go_enter Try.func3, Try.ntmps3
  go_upto_region 1 with (fail)
  obtain ⟨W1, hW1⟩ : ∃ W, W = ((w.alloc (.cells #[.int .i64 a1, .int .i64 a2, .int .i64 a3, .int .i64 a4, .int .i64 a5, .int .i64 a6] 25)).alloc (.cells #[.int .i64 b1, .int .i64 b2, .int .i64 b3, .int .i64 b4, .int .i64 b5, .int .i64 b6] 25)).alloc (.cells #[.int .i64 o1, .int .i64 o2, .int .i64 o3, .int .i64 d1, .int .i64 d2, .int .i64 d3, .int .i64 fr] 27) := ⟨_, rfl⟩
  obtain ⟨k_a, k_b, k_y, B1⟩ := st3 hW1
  rw [← hW1]
  clear hW1
  have l_b : w.heap.size < w.heap.size + 1 := by omega
  have l_y : w.heap.size + 1 < w.heap.size + 1 + 1 := by omega
  generalize w.heap.size + 1 + 1 = g_y at *
  generalize w.heap.size + 1 = g_b at *
  obtain ⟨c_a_0, c_a_1, c_a_2, c_a_3, c_a_4, c_a_5⟩ := bwc6 (k_a)
  obtain ⟨c_b_0, c_b_1, c_b_2, c_b_3, c_b_4, c_b_5⟩ := bwc6 (k_b)
  obtain ⟨c_y_0, c_y_1, c_y_2, c_y_3, c_y_4, c_y_5, c_y_6⟩ := bwc7 (k_y)
  obtain ⟨p1, hp1⟩ : ∃ p : BW W1, p.w = W1 := ⟨BW.start W1, rfl⟩
  rw [← hp1]
  clear hp1
  go_wp2_with (first
    | (go_at_call 5; (first | (with_reducible refine (bw_call KR1.out _).mono ?_) | (with_reducible refine (bw_call KR2.out _).mono ?_)); rintro e w' ⟨rfl, q, rfl⟩)
    | (go_at_call 7; (first | (with_reducible refine (bw_call HA.out _).mono ?_)); rintro e w' ⟨rfl, q, rfl⟩))
  go_ret
  exact ⟨rfl, bw_below B1 _⟩

set_option maxRecDepth 100000 in
set_option maxHeartbeats 8000000 in
theorem law_BoxHit_no3 (a1 a2 a3 a4 a5 a6 b1 b2 b3 b4 b5 b6 o1 o2 o3 d1 d2 d3 fr n m : Int) (w : World) (h1 : bRight ((a1, a2, a3), (a4, a5, a6)) = true) (h2 : bRight ((b1, b2, b3), (b4, b5, b6)) = true) (h3 : nrT (o1, o2, o3) = false) :
    Calls Try.prog 3 #[.agg #[.int .i64 a1, .int .i64 a2, .int .i64 a3, .int .i64 a4, .int .i64 a5, .int .i64 a6], .agg #[.int .i64 b1, .int .i64 b2, .int .i64 b3, .int .i64 b4, .int .i64 b5, .int .i64 b6], .agg #[.int .i64 o1, .int .i64 o2, .int .i64 o3, .int .i64 d1, .int .i64 d2, .int .i64 d3, .int .i64 fr], .int .u32 n, .int .u32 m] w fun en w' => en = .returned (.bool true) ∧ Below w.heap.size w w' := by
  have HA := Lib.hid (fun w => awake10 w)
  have KR1 := Lib.hid (fun w => ref10_Right a1 a2 a3 a4 a5 a6 w)
  rw [h1] at KR1
  have KR2 := Lib.hid (fun w => ref10_Right b1 b2 b3 b4 b5 b6 w)
  rw [h2] at KR2
  have KN1 := Lib.hid (fun w => ref6_Near o1 o2 o3 w)
  rw [show vnear o1 o2 o3 = _ from h3] at KN1
  clear h1 h2 h3
  go_enter Try.func3, Try.ntmps3
  go_upto_region 1 with (fail)
  obtain ⟨W1, hW1⟩ : ∃ W, W = ((w.alloc (.cells #[.int .i64 a1, .int .i64 a2, .int .i64 a3, .int .i64 a4, .int .i64 a5, .int .i64 a6] 25)).alloc (.cells #[.int .i64 b1, .int .i64 b2, .int .i64 b3, .int .i64 b4, .int .i64 b5, .int .i64 b6] 25)).alloc (.cells #[.int .i64 o1, .int .i64 o2, .int .i64 o3, .int .i64 d1, .int .i64 d2, .int .i64 d3, .int .i64 fr] 27) := ⟨_, rfl⟩
  obtain ⟨k_a, k_b, k_y, B1⟩ := st3 hW1
  rw [← hW1]
  clear hW1
  have l_b : w.heap.size < w.heap.size + 1 := by omega
  have l_y : w.heap.size + 1 < w.heap.size + 1 + 1 := by omega
  generalize w.heap.size + 1 + 1 = g_y at *
  generalize w.heap.size + 1 = g_b at *
  obtain ⟨c_a_0, c_a_1, c_a_2, c_a_3, c_a_4, c_a_5⟩ := bwc6 (k_a)
  obtain ⟨c_b_0, c_b_1, c_b_2, c_b_3, c_b_4, c_b_5⟩ := bwc6 (k_b)
  obtain ⟨c_y_0, c_y_1, c_y_2, c_y_3, c_y_4, c_y_5, c_y_6⟩ := bwc7 (k_y)
  obtain ⟨p1, hp1⟩ : ∃ p : BW W1, p.w = W1 := ⟨BW.start W1, rfl⟩
  rw [← hp1]
  clear hp1
  go_wp2_with (first
    | (go_at_call 5; (first | (with_reducible refine (bw_call KR1.out _).mono ?_) | (with_reducible refine (bw_call KR2.out _).mono ?_)); rintro e w' ⟨rfl, q, rfl⟩)
    | (go_at_call 6; (first | (with_reducible refine (bw_call KN1.out _).mono ?_)); rintro e w' ⟨rfl, q, rfl⟩)
    | (go_at_call 7; (first | (with_reducible refine (bw_call HA.out _).mono ?_)); rintro e w' ⟨rfl, q, rfl⟩))
  go_ret
  exact ⟨rfl, bw_below B1 _⟩

set_option maxRecDepth 100000 in
set_option maxHeartbeats 8000000 in
theorem law_BoxHit_no4 (a1 a2 a3 a4 a5 a6 b1 b2 b3 b4 b5 b6 o1 o2 o3 d1 d2 d3 fr n m : Int) (w : World) (h1 : bRight ((a1, a2, a3), (a4, a5, a6)) = true) (h2 : bRight ((b1, b2, b3), (b4, b5, b6)) = true) (h3 : nrT (o1, o2, o3) = true) (h4 : nrT (d1, d2, d3) = false) :
    Calls Try.prog 3 #[.agg #[.int .i64 a1, .int .i64 a2, .int .i64 a3, .int .i64 a4, .int .i64 a5, .int .i64 a6], .agg #[.int .i64 b1, .int .i64 b2, .int .i64 b3, .int .i64 b4, .int .i64 b5, .int .i64 b6], .agg #[.int .i64 o1, .int .i64 o2, .int .i64 o3, .int .i64 d1, .int .i64 d2, .int .i64 d3, .int .i64 fr], .int .u32 n, .int .u32 m] w fun en w' => en = .returned (.bool true) ∧ Below w.heap.size w w' := by
  have HA := Lib.hid (fun w => awake10 w)
  have KR1 := Lib.hid (fun w => ref10_Right a1 a2 a3 a4 a5 a6 w)
  rw [h1] at KR1
  have KR2 := Lib.hid (fun w => ref10_Right b1 b2 b3 b4 b5 b6 w)
  rw [h2] at KR2
  have KN1 := Lib.hid (fun w => ref6_Near o1 o2 o3 w)
  rw [show vnear o1 o2 o3 = _ from h3] at KN1
  have KN2 := Lib.hid (fun w => ref6_Near d1 d2 d3 w)
  rw [show vnear d1 d2 d3 = _ from h4] at KN2
  clear h1 h2 h3 h4
  go_enter Try.func3, Try.ntmps3
  go_upto_region 1 with (fail)
  obtain ⟨W1, hW1⟩ : ∃ W, W = ((w.alloc (.cells #[.int .i64 a1, .int .i64 a2, .int .i64 a3, .int .i64 a4, .int .i64 a5, .int .i64 a6] 25)).alloc (.cells #[.int .i64 b1, .int .i64 b2, .int .i64 b3, .int .i64 b4, .int .i64 b5, .int .i64 b6] 25)).alloc (.cells #[.int .i64 o1, .int .i64 o2, .int .i64 o3, .int .i64 d1, .int .i64 d2, .int .i64 d3, .int .i64 fr] 27) := ⟨_, rfl⟩
  obtain ⟨k_a, k_b, k_y, B1⟩ := st3 hW1
  rw [← hW1]
  clear hW1
  have l_b : w.heap.size < w.heap.size + 1 := by omega
  have l_y : w.heap.size + 1 < w.heap.size + 1 + 1 := by omega
  generalize w.heap.size + 1 + 1 = g_y at *
  generalize w.heap.size + 1 = g_b at *
  obtain ⟨c_a_0, c_a_1, c_a_2, c_a_3, c_a_4, c_a_5⟩ := bwc6 (k_a)
  obtain ⟨c_b_0, c_b_1, c_b_2, c_b_3, c_b_4, c_b_5⟩ := bwc6 (k_b)
  obtain ⟨c_y_0, c_y_1, c_y_2, c_y_3, c_y_4, c_y_5, c_y_6⟩ := bwc7 (k_y)
  obtain ⟨p1, hp1⟩ : ∃ p : BW W1, p.w = W1 := ⟨BW.start W1, rfl⟩
  rw [← hp1]
  clear hp1
  go_wp2_with (first
    | (go_at_call 5; (first | (with_reducible refine (bw_call KR1.out _).mono ?_) | (with_reducible refine (bw_call KR2.out _).mono ?_)); rintro e w' ⟨rfl, q, rfl⟩)
    | (go_at_call 6; (first | (with_reducible refine (bw_call KN1.out _).mono ?_) | (with_reducible refine (bw_call KN2.out _).mono ?_)); rintro e w' ⟨rfl, q, rfl⟩)
    | (go_at_call 7; (first | (with_reducible refine (bw_call HA.out _).mono ?_)); rintro e w' ⟨rfl, q, rfl⟩))
  go_ret
  exact ⟨rfl, bw_below B1 _⟩

set_option maxRecDepth 100000 in
set_option maxHeartbeats 8000000 in
theorem law_BoxHit_yes (a1 a2 a3 a4 a5 a6 b1 b2 b3 b4 b5 b6 o1 o2 o3 d1 d2 d3 fr n m : Int) (w : World) (h1 : bRight ((a1, a2, a3), (a4, a5, a6)) = true) (h2 : bRight ((b1, b2, b3), (b4, b5, b6)) = true) (h3 : nrT (o1, o2, o3) = true) (h4 : nrT (d1, d2, d3) = true) (hn : 0 ≤ n ∧ n ≤ 4294967295) (hm : 0 ≤ m ∧ m ≤ 4294967295) :
    Calls Try.prog 3 #[.agg #[.int .i64 a1, .int .i64 a2, .int .i64 a3, .int .i64 a4, .int .i64 a5, .int .i64 a6], .agg #[.int .i64 b1, .int .i64 b2, .int .i64 b3, .int .i64 b4, .int .i64 b5, .int .i64 b6], .agg #[.int .i64 o1, .int .i64 o2, .int .i64 o3, .int .i64 d1, .int .i64 d2, .int .i64 d3, .int .i64 fr], .int .u32 n, .int .u32 m] w fun en w' => en = .returned (.bool true) ∧ Below w.heap.size w w' := by
  have HA := Lib.hid (fun w => awake10 w)
  have KR1 := Lib.hid (fun w => ref10_Right a1 a2 a3 a4 a5 a6 w)
  rw [h1] at KR1
  have KR2 := Lib.hid (fun w => ref10_Right b1 b2 b3 b4 b5 b6 w)
  rw [h2] at KR2
  have KN1 := Lib.hid (fun w => ref6_Near o1 o2 o3 w)
  rw [show vnear o1 o2 o3 = _ from h3] at KN1
  have KN2 := Lib.hid (fun w => ref6_Near d1 d2 d3 w)
  rw [show vnear d1 d2 d3 = _ from h4] at KN2
  obtain ⟨tn, htn⟩ : ∃ t, t = n.tmod 1048577 := ⟨_, rfl⟩
  obtain ⟨tm, htm⟩ : ∃ t, t = m.tmod 1048576 := ⟨_, rfl⟩
  have n0 : 0 ≤ tn ∧ tn ≤ 1048576 := by rw [htn, Int.tmod_eq_emod_of_nonneg (by omega)]; omega
  have m0 : 0 ≤ tm ∧ tm ≤ 1048575 := by rw [htm, Int.tmod_eq_emod_of_nonneg (by omega)]; omega
  obtain ⟨td, htd⟩ : ∃ t, t = 1 + tm := ⟨_, rfl⟩
  have d0 : 1 ≤ td ∧ td ≤ 1048576 := by omega
  have wn : wrap64 n = n := IntWalk.wrap64_in _ (by omega)
  have wm : wrap64 m = m := IntWalk.wrap64_in _ (by omega)
  have jn : n.tmod 1048577 = tn := htn.symm
  have jm : m.tmod 1048576 = tm := htm.symm
  have jd : 1 + tm = td := htd.symm
  have jw : wrap64 td = td := IntWalk.wrap64_in _ (by omega)
  have r1 := (bRight_iff.1 h1)
  have q1 := nrT_iff.1 r1.1
  have q2 := nrT_iff.1 r1.2.1
  have q3 := nrT_iff.1 h3
  have q4 := nrT_iff.1 h4
  dsimp only at q1 q2 q3 q4
  have ml : ∀ {x t : Int}, (-1048576 ≤ x ∧ x ≤ 1048576) → (-1048576 ≤ t ∧ t ≤ 1048576) → -1099511627776 ≤ x * t ∧ x * t ≤ 1099511627776 := fun hx ht => near_mul hx ht
  obtain ⟨k1, hk1⟩ : ∃ t, a1 * td = t := ⟨_, rfl⟩
  have ik1 := ml (x := a1) (t := td) (by omega) (by omega)
  rw [hk1] at ik1
  obtain ⟨k2, hk2⟩ : ∃ t, a2 * td = t := ⟨_, rfl⟩
  have ik2 := ml (x := a2) (t := td) (by omega) (by omega)
  rw [hk2] at ik2
  obtain ⟨k3, hk3⟩ : ∃ t, a3 * td = t := ⟨_, rfl⟩
  have ik3 := ml (x := a3) (t := td) (by omega) (by omega)
  rw [hk3] at ik3
  obtain ⟨k4, hk4⟩ : ∃ t, a4 * td = t := ⟨_, rfl⟩
  have ik4 := ml (x := a4) (t := td) (by omega) (by omega)
  rw [hk4] at ik4
  obtain ⟨k5, hk5⟩ : ∃ t, a5 * td = t := ⟨_, rfl⟩
  have ik5 := ml (x := a5) (t := td) (by omega) (by omega)
  rw [hk5] at ik5
  obtain ⟨k6, hk6⟩ : ∃ t, a6 * td = t := ⟨_, rfl⟩
  have ik6 := ml (x := a6) (t := td) (by omega) (by omega)
  rw [hk6] at ik6
  obtain ⟨t1, ht1⟩ : ∃ t, o1 * td = t := ⟨_, rfl⟩
  have it1 := ml (x := o1) (t := td) (by omega) (by omega)
  rw [ht1] at it1
  obtain ⟨t2, ht2⟩ : ∃ t, o2 * td = t := ⟨_, rfl⟩
  have it2 := ml (x := o2) (t := td) (by omega) (by omega)
  rw [ht2] at it2
  obtain ⟨t3, ht3⟩ : ∃ t, o3 * td = t := ⟨_, rfl⟩
  have it3 := ml (x := o3) (t := td) (by omega) (by omega)
  rw [ht3] at it3
  obtain ⟨s1, hs1⟩ : ∃ t, d1 * tn = t := ⟨_, rfl⟩
  have is1 := ml (x := d1) (t := tn) (by omega) (by omega)
  rw [hs1] at is1
  obtain ⟨s2, hs2⟩ : ∃ t, d2 * tn = t := ⟨_, rfl⟩
  have is2 := ml (x := d2) (t := tn) (by omega) (by omega)
  rw [hs2] at is2
  obtain ⟨s3, hs3⟩ : ∃ t, d3 * tn = t := ⟨_, rfl⟩
  have is3 := ml (x := d3) (t := tn) (by omega) (by omega)
  rw [hs3] at is3
  have KT1 := Lib.hid (fun w => law10_times a1 a2 a3 td k1 k2 k3 w hk1 hk2 hk3 (by omega) (by omega) (by omega))
  have KT2 := Lib.hid (fun w => law10_times a4 a5 a6 td k4 k5 k6 w hk4 hk5 hk6 (by omega) (by omega) (by omega))
  have KT3 := Lib.hid (fun w => law10_times o1 o2 o3 td t1 t2 t3 w ht1 ht2 ht3 (by omega) (by omega) (by omega))
  have KT4 := Lib.hid (fun w => law10_times d1 d2 d3 tn s1 s2 s3 w hs1 hs2 hs3 (by omega) (by omega) (by omega))
  have KP := Lib.hid (fun w => ref6_Add t1 t2 t3 s1 s2 s3 w (by unfold I64; omega) (by unfold I64; omega) (by unfold I64; omega) (by unfold I64; omega) (by unfold I64; omega) (by unfold I64; omega))
  have sx : ∀ x : Int, -4398046511104 ≤ x ∧ x ≤ 4398046511104 → sat x = x := fun x hx => by unfold sat; rw [if_neg (by omega), if_neg (by omega)]
  rw [sx _ (by omega), sx _ (by omega), sx _ (by omega)] at KP
  obtain ⟨inn, hinn⟩ : ∃ b, b = decide (k1 ≤ t1 + s1 ∧ t1 + s1 ≤ k4 ∧ k2 ≤ t2 + s2 ∧ t2 + s2 ≤ k5 ∧ k3 ≤ t3 + s3 ∧ t3 + s3 ≤ k6) := ⟨_, rfl⟩
  have E := boxhit_ways h1 h2 h3 h4 n0.1 d0.1 inn (fun hi => by
    rw [hinn, decide_eq_true_iff] at hi
    unfold onAx
    dsimp only
    rw [hk1, hk2, hk3, hk4, hk5, hk6, ht1, ht2, ht3, hs1, hs2, hs3]
    omega)
  have H1 := Lib.hid (fun w => box_Hit a1 a2 a3 a4 a5 a6 o1 o2 o3 d1 d2 d3 fr tn td w (by unfold I64; omega) (by unfold I64; omega))
  have H2 := Lib.hid (fun w => box_Hit a1 a2 a3 a4 a5 a6 o1 o2 o3 d1 d2 d3 fr 0 0 w (by unfold I64; omega) (by unfold I64; omega))
  have H4 := Lib.hid (fun w => box_Hit a1 a2 a3 a4 a5 a6 o1 o2 o3 d1 d2 d3 fr 0 1 w (by unfold I64; omega) (by unfold I64; omega))
  have KH := Lib.hid (fun w => box_Has a1 a2 a3 a4 a5 a6 o1 o2 o3 w)
  have KJ := Lib.hid (fun w => box_Join a1 a2 a3 a4 a5 a6 b1 b2 b3 b4 b5 b6 w)
  generalize bJoin ((a1, a2, a3), (a4, a5, a6)) ((b1, b2, b3), (b4, b5, b6)) = JJ at *
  obtain ⟨⟨j1, j2, j3⟩, j4, j5, j6⟩ := JJ
  unfold bx6 at KJ
  dsimp only at KJ
  have H3 := Lib.hid (fun w => box_Hit j1 j2 j3 j4 j5 j6 o1 o2 o3 d1 d2 d3 fr tn td w (by unfold I64; omega) (by unfold I64; omega))
  have KO1 := Lib.hid (fun w => law10_of a1 a2 a3 a4 a5 a6 w)
  have KO2 := Lib.hid (fun w => law10_of b1 b2 b3 b4 b5 b6 w)
  generalize bHit ((a1, a2, a3), (a4, a5, a6)) (o1, o2, o3) (d1, d2, d3) tn td = e1 at *
  generalize bHit ((a1, a2, a3), (a4, a5, a6)) (o1, o2, o3) (d1, d2, d3) 0 0 = e2 at *
  generalize bHit ((a1, a2, a3), (a4, a5, a6)) (o1, o2, o3) (d1, d2, d3) 0 1 = e4 at *
  generalize bHit ((j1, j2, j3), (j4, j5, j6)) (o1, o2, o3) (d1, d2, d3) tn td = e3 at *
  generalize bHas ((a1, a2, a3), (a4, a5, a6)) (o1, o2, o3) = e5 at *
  obtain ⟨E, rfl⟩ := E
  obtain ⟨u1, hu1'⟩ : ∃ t, t = t1 + s1 := ⟨_, rfl⟩
  obtain ⟨u2, hu2'⟩ : ∃ t, t = t2 + s2 := ⟨_, rfl⟩
  obtain ⟨u3, hu3'⟩ : ∃ t, t = t3 + s3 := ⟨_, rfl⟩
  rw [← hu1', ← hu2', ← hu3'] at KP hinn
  have HE := Lib.hid E
  have HI := Lib.hid hinn
  clear E hinn htn htm htd n0 m0 d0 r1 q1 q2 q3 q4 ml sx h1 h2 h3 h4 hn hm hu1' hu2' hu3' hk1 ik1 hk2 ik2 hk3 ik3 hk4 ik4 hk5 ik5 hk6 ik6 ht1 it1 ht2 it2 ht3 it3 hs1 is1 hs2 is2 hs3 is3
  go_enter Try.func3, Try.ntmps3
  go_upto_region 1 with (fail)
  obtain ⟨W1, hW1⟩ : ∃ W, W = ((w.alloc (.cells #[.int .i64 a1, .int .i64 a2, .int .i64 a3, .int .i64 a4, .int .i64 a5, .int .i64 a6] 25)).alloc (.cells #[.int .i64 b1, .int .i64 b2, .int .i64 b3, .int .i64 b4, .int .i64 b5, .int .i64 b6] 25)).alloc (.cells #[.int .i64 o1, .int .i64 o2, .int .i64 o3, .int .i64 d1, .int .i64 d2, .int .i64 d3, .int .i64 fr] 27) := ⟨_, rfl⟩
  obtain ⟨k_a, k_b, k_y, B1⟩ := st3 hW1
  rw [← hW1]
  clear hW1
  have l_b : w.heap.size < w.heap.size + 1 := by omega
  have l_y : w.heap.size + 1 < w.heap.size + 1 + 1 := by omega
  generalize w.heap.size + 1 + 1 = g_y at *
  generalize w.heap.size + 1 = g_b at *
  obtain ⟨c_a_0, c_a_1, c_a_2, c_a_3, c_a_4, c_a_5⟩ := bwc6 (k_a)
  obtain ⟨c_b_0, c_b_1, c_b_2, c_b_3, c_b_4, c_b_5⟩ := bwc6 (k_b)
  obtain ⟨c_y_0, c_y_1, c_y_2, c_y_3, c_y_4, c_y_5, c_y_6⟩ := bwc7 (k_y)
  obtain ⟨p1, hp1⟩ : ∃ p : BW W1, p.w = W1 := ⟨BW.start W1, rfl⟩
  rw [← hp1]
  clear hp1
  go_upto_region 4 with (first
    | (go_at_call 5; (first | (with_reducible refine (bw_call KR1.out _).mono ?_) | (with_reducible refine (bw_call KR2.out _).mono ?_)); rintro e w' ⟨rfl, q, rfl⟩)
    | (go_at_call 6; (first | (with_reducible refine (bw_call KN1.out _).mono ?_) | (with_reducible refine (bw_call KN2.out _).mono ?_)); rintro e w' ⟨rfl, q, rfl⟩))
  obtain ⟨W2, hW2⟩ : ∃ W, W = q.w.alloc (.cells #[.int .i64 tn, .int .i64 td] 33) := ⟨_, rfl⟩
  have B2 : Below w.heap.size w W2 := by rw [hW2]; exact (bw_below B1 q).alloc (bw_below B1 q).size _
  have l_t : g_y < q.w.heap.size := (k_y.below q.h).lt
  have o_t : w.heap.size ≤ q.w.heap.size := (bw_below B1 q).size
  have k_a := bka hW2 (k_a.below q.h)
  have k_b := bka hW2 (k_b.below q.h)
  have k_y := bka hW2 (k_y.below q.h)
  have k_t := bkn hW2
  rw [← hW2]
  clear hW2
  clear B1
  clear c_a_0 c_a_1 c_a_2 c_a_3 c_a_4 c_a_5 c_b_0 c_b_1 c_b_2 c_b_3 c_b_4 c_b_5 c_y_0 c_y_1 c_y_2 c_y_3 c_y_4 c_y_5 c_y_6
  generalize q.w.heap.size = g_t at *
  obtain ⟨c_a_0, c_a_1, c_a_2, c_a_3, c_a_4, c_a_5⟩ := bwc6 (k_a)
  obtain ⟨c_b_0, c_b_1, c_b_2, c_b_3, c_b_4, c_b_5⟩ := bwc6 (k_b)
  obtain ⟨c_y_0, c_y_1, c_y_2, c_y_3, c_y_4, c_y_5, c_y_6⟩ := bwc7 (k_y)
  obtain ⟨c_t_0, c_t_1⟩ := bwc2 (k_t)
  obtain ⟨p2, hp2⟩ : ∃ p : BW W2, p.w = W2 := ⟨BW.start W2, rfl⟩
  rw [← hp2]
  clear hp2
  refine wp_region_float (t := 25) (zs := #[.int .i64 0, .int .i64 0, .int .i64 0, .int .i64 0, .int .i64 0, .int .i64 0]) 12 11 12 170 (by kernel_rfl) (by kernel_rfl) (by kernel_rfl) (by kernel_rfl) (by kernel_rfl) rfl ?_ ?_
  · intro ev wx
    simp [execOp, go_sem]
  apply Exists.intro
  refine ⟨?_, ?_⟩
  · intro wb' hwb'
    obtain ⟨d_a_0, d_a_1, d_a_2, d_a_3, d_a_4, d_a_5⟩ := bwc6 (k_a.below hwb')
    obtain ⟨d_b_0, d_b_1, d_b_2, d_b_3, d_b_4, d_b_5⟩ := bwc6 (k_b.below hwb')
    obtain ⟨d_y_0, d_y_1, d_y_2, d_y_3, d_y_4, d_y_5, d_y_6⟩ := bwc7 (k_y.below hwb')
    obtain ⟨d_t_0, d_t_1⟩ := bwc2 (k_t.below hwb')
    simp only [maskAt, List.take_succ_cons, List.take_zero]
    repeat (go_big_quiet_step (first
      | (go_at_call 8; (first | (with_reducible exact bw_call KT1.out _) | (with_reducible exact bw_call KT2.out _)))))
    refine wpQuiet_nil ?_
    exact rfl
  intro W3 g_k hW hg k_k
  have B3 : Below w.heap.size w W3 := B2.trans (hW.mono B2.size)
  have o_k : w.heap.size ≤ g_k := Nat.le_trans B2.size hg
  have l_k : g_t < g_k := Nat.lt_of_lt_of_le k_t.lt hg
  have k_a := k_a.below hW
  have k_b := k_b.below hW
  have k_y := k_y.below hW
  have k_t := k_t.below hW
  clear hW hg B2
  clear c_a_0 c_a_1 c_a_2 c_a_3 c_a_4 c_a_5 c_b_0 c_b_1 c_b_2 c_b_3 c_b_4 c_b_5 c_y_0 c_y_1 c_y_2 c_y_3 c_y_4 c_y_5 c_y_6 c_t_0 c_t_1
  simp only [List.drop_succ_cons, List.drop_zero, Act.put, List.setIfInBounds_toArray, List.set_cons_zero, List.set_cons_succ]
  obtain ⟨c_a_0, c_a_1, c_a_2, c_a_3, c_a_4, c_a_5⟩ := bwc6 (k_a)
  obtain ⟨c_b_0, c_b_1, c_b_2, c_b_3, c_b_4, c_b_5⟩ := bwc6 (k_b)
  obtain ⟨c_y_0, c_y_1, c_y_2, c_y_3, c_y_4, c_y_5, c_y_6⟩ := bwc7 (k_y)
  obtain ⟨c_t_0, c_t_1⟩ := bwc2 (k_t)
  obtain ⟨c_k_0, c_k_1, c_k_2, c_k_3, c_k_4, c_k_5⟩ := bwc6 (k_k)
  obtain ⟨f_k_0, f_k_1, f_k_2, f_k_3, f_k_4, f_k_5⟩ := bwf6 (k_k)
  obtain ⟨p3, hp3⟩ : ∃ p : BW W3, p.w = W3 := ⟨BW.start W3, rfl⟩
  rw [← hp3]
  clear hp3
  go_upto_region 5 with (fail)
  obtain ⟨W4, hW4⟩ : ∃ W, W = (((((p3.w.setCell ⟨g_k, 0, none⟩ (.int .i64 k1)).setCell ⟨g_k, 1, none⟩ (.int .i64 k2)).setCell ⟨g_k, 2, none⟩ (.int .i64 k3)).setCell ⟨g_k, 3, none⟩ (.int .i64 k4)).setCell ⟨g_k, 4, none⟩ (.int .i64 k5)).setCell ⟨g_k, 5, none⟩ (.int .i64 k6) := ⟨_, rfl⟩
  have B4 : Below w.heap.size w W4 := by rw [hW4]; exact blp6 (bw_below B3 p3) (by omega)
  have k_a := bkoe6 hW4 (k_a.below p3.h) (by omega)
  have k_b := bkoe6 hW4 (k_b.below p3.h) (by omega)
  have k_y := bkoe6 hW4 (k_y.below p3.h) (by omega)
  have k_t := bkoe6 hW4 (k_t.below p3.h) (by omega)
  have k_k := bkpe6 hW4 (k_k.below p3.h)
  rw [← hW4]
  clear hW4
  clear B3
  clear c_a_0 c_a_1 c_a_2 c_a_3 c_a_4 c_a_5 c_b_0 c_b_1 c_b_2 c_b_3 c_b_4 c_b_5 c_y_0 c_y_1 c_y_2 c_y_3 c_y_4 c_y_5 c_y_6 c_t_0 c_t_1 c_k_0 c_k_1 c_k_2 c_k_3 c_k_4 c_k_5 f_k_0 f_k_1 f_k_2 f_k_3 f_k_4 f_k_5
  obtain ⟨c_a_0, c_a_1, c_a_2, c_a_3, c_a_4, c_a_5⟩ := bwc6 (k_a)
  obtain ⟨c_b_0, c_b_1, c_b_2, c_b_3, c_b_4, c_b_5⟩ := bwc6 (k_b)
  obtain ⟨c_y_0, c_y_1, c_y_2, c_y_3, c_y_4, c_y_5, c_y_6⟩ := bwc7 (k_y)
  obtain ⟨c_t_0, c_t_1⟩ := bwc2 (k_t)
  obtain ⟨c_k_0, c_k_1, c_k_2, c_k_3, c_k_4, c_k_5⟩ := bwc6 (k_k)
  obtain ⟨p4, hp4⟩ : ∃ p : BW W4, p.w = W4 := ⟨BW.start W4, rfl⟩
  rw [← hp4]
  clear hp4
  refine wp_region_float (t := 23) (zs := #[.int .i64 0, .int .i64 0, .int .i64 0]) 12 11 13 170 (by kernel_rfl) (by kernel_rfl) (by kernel_rfl) (by kernel_rfl) (by kernel_rfl) rfl ?_ ?_
  · intro ev wx
    simp [execOp, go_sem]
  apply Exists.intro
  refine ⟨?_, ?_⟩
  · intro wb' hwb'
    obtain ⟨d_a_0, d_a_1, d_a_2, d_a_3, d_a_4, d_a_5⟩ := bwc6 (k_a.below hwb')
    obtain ⟨d_b_0, d_b_1, d_b_2, d_b_3, d_b_4, d_b_5⟩ := bwc6 (k_b.below hwb')
    obtain ⟨d_y_0, d_y_1, d_y_2, d_y_3, d_y_4, d_y_5, d_y_6⟩ := bwc7 (k_y.below hwb')
    obtain ⟨d_t_0, d_t_1⟩ := bwc2 (k_t.below hwb')
    obtain ⟨d_k_0, d_k_1, d_k_2, d_k_3, d_k_4, d_k_5⟩ := bwc6 (k_k.below hwb')
    simp only [maskAt, List.take_succ_cons, List.take_zero]
    repeat (go_big_quiet_step (first
      | (go_at_call 8; (first | (with_reducible exact bw_call KT3.out _) | (with_reducible exact bw_call KT4.out _)))
      | (go_at_call 9; (first | (with_reducible exact bw_call KP.out _)))))
    refine wpQuiet_nil ?_
    exact rfl
  intro W5 g_p hW hg k_p
  have B5 : Below w.heap.size w W5 := B4.trans (hW.mono B4.size)
  have o_p : w.heap.size ≤ g_p := Nat.le_trans B4.size hg
  have l_p : g_k < g_p := Nat.lt_of_lt_of_le k_k.lt hg
  have k_a := k_a.below hW
  have k_b := k_b.below hW
  have k_y := k_y.below hW
  have k_t := k_t.below hW
  have k_k := k_k.below hW
  clear hW hg B4
  clear c_a_0 c_a_1 c_a_2 c_a_3 c_a_4 c_a_5 c_b_0 c_b_1 c_b_2 c_b_3 c_b_4 c_b_5 c_y_0 c_y_1 c_y_2 c_y_3 c_y_4 c_y_5 c_y_6 c_t_0 c_t_1 c_k_0 c_k_1 c_k_2 c_k_3 c_k_4 c_k_5
  simp only [List.drop_succ_cons, List.drop_zero, Act.put, List.setIfInBounds_toArray, List.set_cons_zero, List.set_cons_succ]
  obtain ⟨c_a_0, c_a_1, c_a_2, c_a_3, c_a_4, c_a_5⟩ := bwc6 (k_a)
  obtain ⟨c_b_0, c_b_1, c_b_2, c_b_3, c_b_4, c_b_5⟩ := bwc6 (k_b)
  obtain ⟨c_y_0, c_y_1, c_y_2, c_y_3, c_y_4, c_y_5, c_y_6⟩ := bwc7 (k_y)
  obtain ⟨c_t_0, c_t_1⟩ := bwc2 (k_t)
  obtain ⟨c_k_0, c_k_1, c_k_2, c_k_3, c_k_4, c_k_5⟩ := bwc6 (k_k)
  obtain ⟨c_p_0, c_p_1, c_p_2⟩ := bwc3 (k_p)
  obtain ⟨f_p_0, f_p_1, f_p_2⟩ := bwf3 (k_p)
  obtain ⟨p5, hp5⟩ : ∃ p : BW W5, p.w = W5 := ⟨BW.start W5, rfl⟩
  rw [← hp5]
  clear hp5
  go_upto_region 6 with (fail)
  obtain ⟨W6, hW6⟩ : ∃ W, W = ((p5.w.setCell ⟨g_p, 0, none⟩ (.int .i64 u1)).setCell ⟨g_p, 1, none⟩ (.int .i64 u2)).setCell ⟨g_p, 2, none⟩ (.int .i64 u3) := ⟨_, rfl⟩
  have B6 : Below w.heap.size w W6 := by rw [hW6]; exact blp3 (bw_below B5 p5) (by omega)
  have k_a := bkoe3 hW6 (k_a.below p5.h) (by omega)
  have k_b := bkoe3 hW6 (k_b.below p5.h) (by omega)
  have k_y := bkoe3 hW6 (k_y.below p5.h) (by omega)
  have k_t := bkoe3 hW6 (k_t.below p5.h) (by omega)
  have k_k := bkoe3 hW6 (k_k.below p5.h) (by omega)
  have k_p := bkpe3 hW6 (k_p.below p5.h)
  rw [← hW6]
  clear hW6
  clear B5
  clear c_a_0 c_a_1 c_a_2 c_a_3 c_a_4 c_a_5 c_b_0 c_b_1 c_b_2 c_b_3 c_b_4 c_b_5 c_y_0 c_y_1 c_y_2 c_y_3 c_y_4 c_y_5 c_y_6 c_t_0 c_t_1 c_k_0 c_k_1 c_k_2 c_k_3 c_k_4 c_k_5 c_p_0 c_p_1 c_p_2 f_p_0 f_p_1 f_p_2
  obtain ⟨c_a_0, c_a_1, c_a_2, c_a_3, c_a_4, c_a_5⟩ := bwc6 (k_a)
  obtain ⟨c_b_0, c_b_1, c_b_2, c_b_3, c_b_4, c_b_5⟩ := bwc6 (k_b)
  obtain ⟨c_y_0, c_y_1, c_y_2, c_y_3, c_y_4, c_y_5, c_y_6⟩ := bwc7 (k_y)
  obtain ⟨c_t_0, c_t_1⟩ := bwc2 (k_t)
  obtain ⟨c_k_0, c_k_1, c_k_2, c_k_3, c_k_4, c_k_5⟩ := bwc6 (k_k)
  obtain ⟨c_p_0, c_p_1, c_p_2⟩ := bwc3 (k_p)
  obtain ⟨p6, hp6⟩ : ∃ p : BW W6, p.w = W6 := ⟨BW.start W6, rfl⟩
  rw [← hp6]
  clear hp6
  go_cut [14] (fun s14 wx => s14 = .bool inn ∧ wx = p6.w)
  case first =>
    have hi := HI.out
    clear HE HI
    by_cases g1 : k1 ≤ u1
    rotate_left
    · have t0 : inn = false := by rw [hi]; exact decide_eq_false (by omega)
      have tt1 : decide (k1 ≤ u1) = false := decide_eq_false g1
      clear hi g1
      subst t0
      go_wp2
      go_meet
      exact ⟨rfl, rfl⟩
    by_cases g2 : u1 ≤ k4
    rotate_left
    · have t0 : inn = false := by rw [hi]; exact decide_eq_false (by omega)
      have tt1 : decide (k1 ≤ u1) = true := decide_eq_true g1
      have tt2 : decide (u1 ≤ k4) = false := decide_eq_false g2
      clear hi g1 g2
      subst t0
      go_wp2
      go_meet
      exact ⟨rfl, rfl⟩
    by_cases g3 : k2 ≤ u2
    rotate_left
    · have t0 : inn = false := by rw [hi]; exact decide_eq_false (by omega)
      have tt1 : decide (k1 ≤ u1) = true := decide_eq_true g1
      have tt2 : decide (u1 ≤ k4) = true := decide_eq_true g2
      have tt3 : decide (k2 ≤ u2) = false := decide_eq_false g3
      clear hi g1 g2 g3
      subst t0
      go_wp2
      go_meet
      exact ⟨rfl, rfl⟩
    by_cases g4 : u2 ≤ k5
    rotate_left
    · have t0 : inn = false := by rw [hi]; exact decide_eq_false (by omega)
      have tt1 : decide (k1 ≤ u1) = true := decide_eq_true g1
      have tt2 : decide (u1 ≤ k4) = true := decide_eq_true g2
      have tt3 : decide (k2 ≤ u2) = true := decide_eq_true g3
      have tt4 : decide (u2 ≤ k5) = false := decide_eq_false g4
      clear hi g1 g2 g3 g4
      subst t0
      go_wp2
      go_meet
      exact ⟨rfl, rfl⟩
    by_cases g5 : k3 ≤ u3
    rotate_left
    · have t0 : inn = false := by rw [hi]; exact decide_eq_false (by omega)
      have tt1 : decide (k1 ≤ u1) = true := decide_eq_true g1
      have tt2 : decide (u1 ≤ k4) = true := decide_eq_true g2
      have tt3 : decide (k2 ≤ u2) = true := decide_eq_true g3
      have tt4 : decide (u2 ≤ k5) = true := decide_eq_true g4
      have tt5 : decide (k3 ≤ u3) = false := decide_eq_false g5
      clear hi g1 g2 g3 g4 g5
      subst t0
      go_wp2
      go_meet
      exact ⟨rfl, rfl⟩
    by_cases g6 : u3 ≤ k6
    rotate_left
    · have t0 : inn = false := by rw [hi]; exact decide_eq_false (by omega)
      have tt1 : decide (k1 ≤ u1) = true := decide_eq_true g1
      have tt2 : decide (u1 ≤ k4) = true := decide_eq_true g2
      have tt3 : decide (k2 ≤ u2) = true := decide_eq_true g3
      have tt4 : decide (u2 ≤ k5) = true := decide_eq_true g4
      have tt5 : decide (k3 ≤ u3) = true := decide_eq_true g5
      have tt6 : decide (u3 ≤ k6) = false := decide_eq_false g6
      clear hi g1 g2 g3 g4 g5 g6
      subst t0
      go_wp2
      go_meet
      exact ⟨rfl, rfl⟩
    have t0 : inn = true := by rw [hi]; exact decide_eq_true (by omega)
    have tt1 : decide (k1 ≤ u1) = true := decide_eq_true g1
    have tt2 : decide (u1 ≤ k4) = true := decide_eq_true g2
    have tt3 : decide (k2 ≤ u2) = true := decide_eq_true g3
    have tt4 : decide (u2 ≤ k5) = true := decide_eq_true g4
    have tt5 : decide (k3 ≤ u3) = true := decide_eq_true g5
    have tt6 : decide (u3 ≤ k6) = true := decide_eq_true g6
    clear hi g1 g2 g3 g4 g5 g6
    subst t0
    go_wp2
    go_meet
    exact ⟨rfl, rfl⟩
  case rest =>
    obtain ⟨rfl, rfl⟩ := hcut
    rcases HE.out with ⟨rfl, rfl, rfl, rfl⟩ | ⟨rfl, rfl, rfl, rfl⟩ | ⟨rfl, rfl⟩
    all_goals
      clear HE HI
      go_upto_region 7 with (fail)
      refine wp_region_bw (by kernel_rfl) (by kernel_rfl) ?_
      repeat (go_big_quiet_step (first
        | (go_at_call 10; (first | (with_reducible exact bw_call H1.out _) | (with_reducible exact bw_call H2.out _)))
        | (go_at_call 11; (first | (with_reducible exact bw_call KO1.out _)))))
      refine wpQuiet_nil ?_
      intro _ hw'
      obtain ⟨q, rfl⟩ := hw'
      go_upto_region 9 with (fail)
      refine wp_region_float (t := 37) (zs := #[.int .i64 0, .int .i64 0, .int .i64 0, .int .i64 0, .int .i64 0, .int .i64 0]) 6 5 15 170 (by kernel_rfl) (by kernel_rfl) (by kernel_rfl) (by kernel_rfl) (by kernel_rfl) rfl ?_ ?_
      · intro ev wx
        simp [execOp, go_sem]
      apply Exists.intro
      refine ⟨?_, ?_⟩
      · intro wb' hwb'
        obtain ⟨d_a_0, d_a_1, d_a_2, d_a_3, d_a_4, d_a_5⟩ := bwc6 (k_a.below hwb')
        obtain ⟨d_b_0, d_b_1, d_b_2, d_b_3, d_b_4, d_b_5⟩ := bwc6 (k_b.below hwb')
        obtain ⟨d_y_0, d_y_1, d_y_2, d_y_3, d_y_4, d_y_5, d_y_6⟩ := bwc7 (k_y.below hwb')
        obtain ⟨d_t_0, d_t_1⟩ := bwc2 (k_t.below hwb')
        obtain ⟨d_k_0, d_k_1, d_k_2, d_k_3, d_k_4, d_k_5⟩ := bwc6 (k_k.below hwb')
        obtain ⟨d_p_0, d_p_1, d_p_2⟩ := bwc3 (k_p.below hwb')
        simp only [maskAt, List.take_succ_cons, List.take_zero]
        repeat (go_big_quiet_step (first
          | (go_at_call 11; (first | (with_reducible exact bw_call KO1.out _) | (with_reducible exact bw_call KO2.out _)))
          | (go_at_call 12; (first | (with_reducible exact bw_call KJ.out _)))))
        refine wpQuiet_nil ?_
        exact rfl
      intro W7 g_j hW hg k_j
      have B7 : Below w.heap.size w W7 := B6.trans (hW.mono B6.size)
      have o_j : w.heap.size ≤ g_j := Nat.le_trans B6.size hg
      have l_j : g_p < g_j := Nat.lt_of_lt_of_le k_p.lt hg
      have k_a := k_a.below hW
      have k_b := k_b.below hW
      have k_y := k_y.below hW
      have k_t := k_t.below hW
      have k_k := k_k.below hW
      have k_p := k_p.below hW
      clear hW hg B6
      clear c_a_0 c_a_1 c_a_2 c_a_3 c_a_4 c_a_5 c_b_0 c_b_1 c_b_2 c_b_3 c_b_4 c_b_5 c_y_0 c_y_1 c_y_2 c_y_3 c_y_4 c_y_5 c_y_6 c_t_0 c_t_1 c_k_0 c_k_1 c_k_2 c_k_3 c_k_4 c_k_5 c_p_0 c_p_1 c_p_2
      simp only [List.drop_succ_cons, List.drop_zero, Act.put, List.setIfInBounds_toArray, List.set_cons_zero, List.set_cons_succ]
      obtain ⟨c_a_0, c_a_1, c_a_2, c_a_3, c_a_4, c_a_5⟩ := bwc6 (k_a)
      obtain ⟨c_b_0, c_b_1, c_b_2, c_b_3, c_b_4, c_b_5⟩ := bwc6 (k_b)
      obtain ⟨c_y_0, c_y_1, c_y_2, c_y_3, c_y_4, c_y_5, c_y_6⟩ := bwc7 (k_y)
      obtain ⟨c_t_0, c_t_1⟩ := bwc2 (k_t)
      obtain ⟨c_k_0, c_k_1, c_k_2, c_k_3, c_k_4, c_k_5⟩ := bwc6 (k_k)
      obtain ⟨c_p_0, c_p_1, c_p_2⟩ := bwc3 (k_p)
      obtain ⟨c_j_0, c_j_1, c_j_2, c_j_3, c_j_4, c_j_5⟩ := bwc6 (k_j)
      obtain ⟨f_j_0, f_j_1, f_j_2, f_j_3, f_j_4, f_j_5⟩ := bwf6 (k_j)
      obtain ⟨p7, hp7⟩ : ∃ p : BW W7, p.w = W7 := ⟨BW.start W7, rfl⟩
      rw [← hp7]
      clear hp7
      go_upto_region 10 with (fail)
      obtain ⟨W8, hW8⟩ : ∃ W, W = (((((p7.w.setCell ⟨g_j, 0, none⟩ (.int .i64 j1)).setCell ⟨g_j, 1, none⟩ (.int .i64 j2)).setCell ⟨g_j, 2, none⟩ (.int .i64 j3)).setCell ⟨g_j, 3, none⟩ (.int .i64 j4)).setCell ⟨g_j, 4, none⟩ (.int .i64 j5)).setCell ⟨g_j, 5, none⟩ (.int .i64 j6) := ⟨_, rfl⟩
      have B8 : Below w.heap.size w W8 := by rw [hW8]; exact blp6 (bw_below B7 p7) (by omega)
      have k_a := bkoe6 hW8 (k_a.below p7.h) (by omega)
      have k_b := bkoe6 hW8 (k_b.below p7.h) (by omega)
      have k_y := bkoe6 hW8 (k_y.below p7.h) (by omega)
      have k_t := bkoe6 hW8 (k_t.below p7.h) (by omega)
      have k_k := bkoe6 hW8 (k_k.below p7.h) (by omega)
      have k_p := bkoe6 hW8 (k_p.below p7.h) (by omega)
      have k_j := bkpe6 hW8 (k_j.below p7.h)
      rw [← hW8]
      clear hW8
      clear B7
      clear c_a_0 c_a_1 c_a_2 c_a_3 c_a_4 c_a_5 c_b_0 c_b_1 c_b_2 c_b_3 c_b_4 c_b_5 c_y_0 c_y_1 c_y_2 c_y_3 c_y_4 c_y_5 c_y_6 c_t_0 c_t_1 c_k_0 c_k_1 c_k_2 c_k_3 c_k_4 c_k_5 c_p_0 c_p_1 c_p_2 c_j_0 c_j_1 c_j_2 c_j_3 c_j_4 c_j_5 f_j_0 f_j_1 f_j_2 f_j_3 f_j_4 f_j_5
      obtain ⟨c_a_0, c_a_1, c_a_2, c_a_3, c_a_4, c_a_5⟩ := bwc6 (k_a)
      obtain ⟨c_b_0, c_b_1, c_b_2, c_b_3, c_b_4, c_b_5⟩ := bwc6 (k_b)
      obtain ⟨c_y_0, c_y_1, c_y_2, c_y_3, c_y_4, c_y_5, c_y_6⟩ := bwc7 (k_y)
      obtain ⟨c_t_0, c_t_1⟩ := bwc2 (k_t)
      obtain ⟨c_k_0, c_k_1, c_k_2, c_k_3, c_k_4, c_k_5⟩ := bwc6 (k_k)
      obtain ⟨c_p_0, c_p_1, c_p_2⟩ := bwc3 (k_p)
      obtain ⟨c_j_0, c_j_1, c_j_2, c_j_3, c_j_4, c_j_5⟩ := bwc6 (k_j)
      obtain ⟨p8, hp8⟩ : ∃ p : BW W8, p.w = W8 := ⟨BW.start W8, rfl⟩
      rw [← hp8]
      clear hp8
      refine wp_region_bw (by kernel_rfl) (by kernel_rfl) ?_
      repeat (go_big_quiet_step (first
        | (go_at_call 10; (first | (with_reducible exact bw_call H1.out _) | (with_reducible exact bw_call H2.out _) | (with_reducible exact bw_call H3.out _) | (with_reducible exact bw_call H4.out _)))
        | (go_at_call 11; (first | (with_reducible exact bw_call KO1.out _)))
        | (go_at_call 13; (first | (with_reducible exact bw_call KH.out _)))
        | (go_at_call 7; (first | (with_reducible exact bw_call HA.out _)))))
      refine wpQuiet_nil ?_
      intro _ hw'
      obtain ⟨q, rfl⟩ := hw'
      go_wp2
      go_ret
      exact ⟨rfl, bw_below B8 _⟩

theorem law_BoxHit (a1 a2 a3 a4 a5 a6 b1 b2 b3 b4 b5 b6 o1 o2 o3 d1 d2 d3 fr n m : Int) (w : World) (hn : 0 ≤ n ∧ n ≤ 4294967295) (hm : 0 ≤ m ∧ m ≤ 4294967295) :
    Calls Try.prog 3 #[.agg #[.int .i64 a1, .int .i64 a2, .int .i64 a3, .int .i64 a4, .int .i64 a5, .int .i64 a6], .agg #[.int .i64 b1, .int .i64 b2, .int .i64 b3, .int .i64 b4, .int .i64 b5, .int .i64 b6], .agg #[.int .i64 o1, .int .i64 o2, .int .i64 o3, .int .i64 d1, .int .i64 d2, .int .i64 d3, .int .i64 fr], .int .u32 n, .int .u32 m] w fun en w' => en = .returned (.bool true) ∧ Below w.heap.size w w' := by
  cases h1 : bRight ((a1, a2, a3), (a4, a5, a6)) with
  | false => exact law_BoxHit_no1 a1 a2 a3 a4 a5 a6 b1 b2 b3 b4 b5 b6 o1 o2 o3 d1 d2 d3 fr n m w h1
  | true =>
    cases h2 : bRight ((b1, b2, b3), (b4, b5, b6)) with
    | false => exact law_BoxHit_no2 a1 a2 a3 a4 a5 a6 b1 b2 b3 b4 b5 b6 o1 o2 o3 d1 d2 d3 fr n m w h1 h2
    | true =>
      cases h3 : nrT (o1, o2, o3) with
      | false => exact law_BoxHit_no3 a1 a2 a3 a4 a5 a6 b1 b2 b3 b4 b5 b6 o1 o2 o3 d1 d2 d3 fr n m w h1 h2 h3
      | true =>
        cases h4 : nrT (d1, d2, d3) with
        | false => exact law_BoxHit_no4 a1 a2 a3 a4 a5 a6 b1 b2 b3 b4 b5 b6 o1 o2 o3 d1 d2 d3 fr n m w h1 h2 h3 h4
        | true => exact law_BoxHit_yes a1 a2 a3 a4 a5 a6 b1 b2 b3 b4 b5 b6 o1 o2 o3 d1 d2 d3 fr n m w h1 h2 h3 h4 hn hm

end Go.Proofs.Ytgdclpbnjoampaa
