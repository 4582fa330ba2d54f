/- The walk of the statement BoxJoin. -/
import Derived.Test.YtgdclpbnjoampaaBoxHit
import Derived.Test.YtgdclpbnjoampaaFloatb
namespace Go.Proofs.Ytgdclpbnjoampaa
open Go.RowKit Go.Proofs.Sky
set_option linter.unusedVariables false

set_option maxRecDepth 100000 in
set_option maxHeartbeats 8000000 in
theorem law_BoxJoin_no1 (a1 a2 a3 a4 a5 a6 b1 b2 b3 b4 b5 b6 x y z : Int) (w : World) (h1 : bRight ((a1, a2, a3), (a4, a5, a6)) = false) :
    Calls Try.prog 4 #[.agg #[.int .i64 a1, .int .i64 a2, .int .i64 a3, .int .i64 a4, .int .i64 a5, .int .i64 a6], .agg #[.int .i64 b1, .int .i64 b2, .int .i64 b3, .int .i64 b4, .int .i64 b5, .int .i64 b6], .agg #[.int .i64 x, .int .i64 y, .int .i64 z]] w fun en w' => en = .returned (.bool true) ∧ Below w.heap.size w w' := by
  have HA := Lib.hid (fun w => awake10 w)
  have KR1 := Lib.hid (fun w => ref10_Right a1 a2 a3 a4 a5 a6 w)
  rw [h1] at KR1
  clear h1
  go_enter Try.func4, Try.ntmps4
  go_upto_region 1 with (fail)
  obtain ⟨W1, hW1⟩ : ∃ W, W = ((w.alloc (.cells #[.int .i64 a1, .int .i64 a2, .int .i64 a3, .int .i64 a4, .int .i64 a5, .int .i64 a6] 25)).alloc (.cells #[.int .i64 b1, .int .i64 b2, .int .i64 b3, .int .i64 b4, .int .i64 b5, .int .i64 b6] 25)).alloc (.cells #[.int .i64 x, .int .i64 y, .int .i64 z] 23) := ⟨_, rfl⟩
  obtain ⟨k_a, k_b, k_v, B1⟩ := st3 hW1
  rw [← hW1]
  clear hW1
  have l_b : w.heap.size < w.heap.size + 1 := by omega
  have l_v : w.heap.size + 1 < w.heap.size + 1 + 1 := by omega
  generalize w.heap.size + 1 + 1 = g_v at *
  generalize w.heap.size + 1 = g_b at *
  obtain ⟨c_a_0, c_a_1, c_a_2, c_a_3, c_a_4, c_a_5⟩ := bwc6 (k_a)
  obtain ⟨c_b_0, c_b_1, c_b_2, c_b_3, c_b_4, c_b_5⟩ := bwc6 (k_b)
  obtain ⟨c_v_0, c_v_1, c_v_2⟩ := bwc3 (k_v)
  obtain ⟨p1, hp1⟩ : ∃ p : BW W1, p.w = W1 := ⟨BW.start W1, rfl⟩
  rw [← hp1]
  clear hp1
  go_wp2_with (first
    | (go_at_call 5; (first | (with_reducible refine (bw_call KR1.out _).mono ?_)); rintro e w' ⟨rfl, q, rfl⟩)
    | (go_at_call 7; (first | (with_reducible refine (bw_call HA.out _).mono ?_)); rintro e w' ⟨rfl, q, rfl⟩))
  go_ret
  exact ⟨rfl, bw_below B1 _⟩

set_option maxRecDepth 100000 in
set_option maxHeartbeats 8000000 in
theorem law_BoxJoin_no2 (a1 a2 a3 a4 a5 a6 b1 b2 b3 b4 b5 b6 x y z : Int) (w : World) (h1 : bRight ((a1, a2, a3), (a4, a5, a6)) = true) (h2 : bRight ((b1, b2, b3), (b4, b5, b6)) = false) :
    Calls Try.prog 4 #[.agg #[.int .i64 a1, .int .i64 a2, .int .i64 a3, .int .i64 a4, .int .i64 a5, .int .i64 a6], .agg #[.int .i64 b1, .int .i64 b2, .int .i64 b3, .int .i64 b4, .int .i64 b5, .int .i64 b6], .agg #[.int .i64 x, .int .i64 y, .int .i64 z]] w fun en w' => en = .returned (.bool true) ∧ Below w.heap.size w w' := by
  have HA := Lib.hid (fun w => awake10 w)
  have KR1 := Lib.hid (fun w => ref10_Right a1 a2 a3 a4 a5 a6 w)
  rw [h1] at KR1
  have KR2 := Lib.hid (fun w => ref10_Right b1 b2 b3 b4 b5 b6 w)
  rw [h2] at KR2
  clear h1 h2
  go_enter Try.func4, Try.ntmps4
  go_upto_region 1 with (fail)
  obtain ⟨W1, hW1⟩ : ∃ W, W = ((w.alloc (.cells #[.int .i64 a1, .int .i64 a2, .int .i64 a3, .int .i64 a4, .int .i64 a5, .int .i64 a6] 25)).alloc (.cells #[.int .i64 b1, .int .i64 b2, .int .i64 b3, .int .i64 b4, .int .i64 b5, .int .i64 b6] 25)).alloc (.cells #[.int .i64 x, .int .i64 y, .int .i64 z] 23) := ⟨_, rfl⟩
  obtain ⟨k_a, k_b, k_v, B1⟩ := st3 hW1
  rw [← hW1]
  clear hW1
  have l_b : w.heap.size < w.heap.size + 1 := by omega
  have l_v : w.heap.size + 1 < w.heap.size + 1 + 1 := by omega
  generalize w.heap.size + 1 + 1 = g_v at *
  generalize w.heap.size + 1 = g_b at *
  obtain ⟨c_a_0, c_a_1, c_a_2, c_a_3, c_a_4, c_a_5⟩ := bwc6 (k_a)
  obtain ⟨c_b_0, c_b_1, c_b_2, c_b_3, c_b_4, c_b_5⟩ := bwc6 (k_b)
  obtain ⟨c_v_0, c_v_1, c_v_2⟩ := bwc3 (k_v)
  obtain ⟨p1, hp1⟩ : ∃ p : BW W1, p.w = W1 := ⟨BW.start W1, rfl⟩
  rw [← hp1]
  clear hp1
  go_wp2_with (first
    | (go_at_call 5; (first | (with_reducible refine (bw_call KR1.out _).mono ?_) | (with_reducible refine (bw_call KR2.out _).mono ?_)); rintro e w' ⟨rfl, q, rfl⟩)
    | (go_at_call 7; (first | (with_reducible refine (bw_call HA.out _).mono ?_)); rintro e w' ⟨rfl, q, rfl⟩))
  go_ret
  exact ⟨rfl, bw_below B1 _⟩

set_option maxRecDepth 100000 in
set_option maxHeartbeats 8000000 in
theorem law_BoxJoin_yes (a1 a2 a3 a4 a5 a6 b1 b2 b3 b4 b5 b6 x y z : Int) (w : World) (h1 : bRight ((a1, a2, a3), (a4, a5, a6)) = true) (h2 : bRight ((b1, b2, b3), (b4, b5, b6)) = true) :
    Calls Try.prog 4 #[.agg #[.int .i64 a1, .int .i64 a2, .int .i64 a3, .int .i64 a4, .int .i64 a5, .int .i64 a6], .agg #[.int .i64 b1, .int .i64 b2, .int .i64 b3, .int .i64 b4, .int .i64 b5, .int .i64 b6], .agg #[.int .i64 x, .int .i64 y, .int .i64 z]] w fun en w' => en = .returned (.bool true) ∧ Below w.heap.size w w' := by
  have HA := Lib.hid (fun w => awake10 w)
  have KR1 := Lib.hid (fun w => ref10_Right a1 a2 a3 a4 a5 a6 w)
  rw [h1] at KR1
  have KR2 := Lib.hid (fun w => ref10_Right b1 b2 b3 b4 b5 b6 w)
  rw [h2] at KR2
  have KO1 := Lib.hid (fun w => law10_of a1 a2 a3 a4 a5 a6 w)
  have KO2 := Lib.hid (fun w => law10_of b1 b2 b3 b4 b5 b6 w)
  have J1 := Lib.hid (fun w => box_Join a1 a2 a3 a4 a5 a6 b1 b2 b3 b4 b5 b6 w)
  have J2 := Lib.hid (fun w => box_Join b1 b2 b3 b4 b5 b6 a1 a2 a3 a4 a5 a6 w)
  rw [bJoin_comm] at J2
  have J3 := Lib.hid (fun w => box_Join a1 a2 a3 a4 a5 a6 a1 a2 a3 a4 a5 a6 w)
  rw [bJoin_self h1] at J3
  have hr := bJoin_right h1 h2
  have har := bArea_join h1 h2
  have hag := bJoin_again h1 h2
  have hhj := bHas_join (v := (x, y, z)) h1 h2
  have hco := bHas_corner h1 h2
  have hcr := crd_join h1 h2
  have A1 := Lib.hid (fun w => box_Area a1 a2 a3 a4 a5 a6 w)
  have A2 := Lib.hid (fun w => box_Area b1 b2 b3 b4 b5 b6 w)
  have S1 := Lib.hid (fun w => box_Has a1 a2 a3 a4 a5 a6 x y z w)
  have S2 := Lib.hid (fun w => box_Has b1 b2 b3 b4 b5 b6 x y z w)
  generalize bJoin ((a1, a2, a3), (a4, a5, a6)) ((b1, b2, b3), (b4, b5, b6)) = JJ at *
  obtain ⟨⟨j1, j2, j3⟩, j4, j5, j6⟩ := JJ
  unfold bx6 at J1 J2 J3
  dsimp only at J1 J2 J3 hco hcr
  have J4 := Lib.hid (fun w => box_Join j1 j2 j3 j4 j5 j6 a1 a2 a3 a4 a5 a6 w)
  rw [hag] at J4
  unfold bx6 at J4
  dsimp only at J4
  have R1 := Lib.hid (fun w => box_Right j1 j2 j3 j4 j5 j6 w)
  rw [hr] at R1
  have A3 := Lib.hid (fun w => box_Area j1 j2 j3 j4 j5 j6 w)
  have S3 := Lib.hid (fun w => box_Has j1 j2 j3 j4 j5 j6 x y z w)
  have S4 := Lib.hid (fun w => box_Has j1 j2 j3 j4 j5 j6 a1 a2 a3 w)
  rw [hco.1] at S4
  have S5 := Lib.hid (fun w => box_Has j1 j2 j3 j4 j5 j6 b4 b5 b6 w)
  rw [hco.2] at S5
  generalize bArea ((a1, a2, a3), (a4, a5, a6)) = ar1 at *
  generalize bArea ((b1, b2, b3), (b4, b5, b6)) = ar2 at *
  generalize bArea ((j1, j2, j3), (j4, j5, j6)) = ar3 at *
  have tt1 : decide (ar3 < ar1) = false := decide_eq_false (by omega)
  have tt2 : decide (ar3 < ar2) = false := decide_eq_false (by omega)
  generalize bHas ((a1, a2, a3), (a4, a5, a6)) (x, y, z) = e1 at *
  generalize bHas ((b1, b2, b3), (b4, b5, b6)) (x, y, z) = e2 at *
  generalize bHas ((j1, j2, j3), (j4, j5, j6)) (x, y, z) = e3 at *
  have E : (e1 = true ∧ e3 = true) ∨ (e1 = false ∧ e2 = true ∧ e3 = true) ∨ (e1 = false ∧ e2 = false) := by cases e1 <;> cases e2 <;> simp at hhj ⊢ <;> exact hhj
  have HE := Lib.hid E
  have HC := Lib.hid hcr
  clear E hhj har hag hco hcr hr h1 h2
  go_enter Try.func4, Try.ntmps4
  go_upto_region 1 with (fail)
  obtain ⟨W1, hW1⟩ : ∃ W, W = ((w.alloc (.cells #[.int .i64 a1, .int .i64 a2, .int .i64 a3, .int .i64 a4, .int .i64 a5, .int .i64 a6] 25)).alloc (.cells #[.int .i64 b1, .int .i64 b2, .int .i64 b3, .int .i64 b4, .int .i64 b5, .int .i64 b6] 25)).alloc (.cells #[.int .i64 x, .int .i64 y, .int .i64 z] 23) := ⟨_, rfl⟩
  obtain ⟨k_a, k_b, k_v, B1⟩ := st3 hW1
  rw [← hW1]
  clear hW1
  have l_b : w.heap.size < w.heap.size + 1 := by omega
  have l_v : w.heap.size + 1 < w.heap.size + 1 + 1 := by omega
  generalize w.heap.size + 1 + 1 = g_v at *
  generalize w.heap.size + 1 = g_b at *
  obtain ⟨c_a_0, c_a_1, c_a_2, c_a_3, c_a_4, c_a_5⟩ := bwc6 (k_a)
  obtain ⟨c_b_0, c_b_1, c_b_2, c_b_3, c_b_4, c_b_5⟩ := bwc6 (k_b)
  obtain ⟨c_v_0, c_v_1, c_v_2⟩ := bwc3 (k_v)
  obtain ⟨p1, hp1⟩ : ∃ p : BW W1, p.w = W1 := ⟨BW.start W1, rfl⟩
  rw [← hp1]
  clear hp1
  go_upto_region 3 with (first
    | (go_at_call 5; (first | (with_reducible refine (bw_call KR1.out _).mono ?_) | (with_reducible refine (bw_call KR2.out _).mono ?_)); rintro e w' ⟨rfl, q, rfl⟩))
  refine wp_region_float2 (t1 := 37) (z1 := #[.int .i64 0, .int .i64 0, .int .i64 0, .int .i64 0, .int .i64 0, .int .i64 0]) (t2 := 37) (z2 := #[.int .i64 0, .int .i64 0, .int .i64 0, .int .i64 0, .int .i64 0, .int .i64 0]) 6 4 5 7 8 136 (by kernel_rfl) (by kernel_rfl) (by kernel_rfl) (by kernel_rfl) (by kernel_rfl) (by decide) (by kernel_rfl) rfl rfl ?_ ?_ ?_
  · intro ev wx
    simp [execOp, go_sem]
  · intro ev wx
    simp [execOp, go_sem]
  apply Exists.intro
  refine ⟨?_, ?_⟩
  · intro wb' hwb'
    obtain ⟨d_a_0, d_a_1, d_a_2, d_a_3, d_a_4, d_a_5⟩ := bwc6 (k_a.below hwb')
    obtain ⟨d_b_0, d_b_1, d_b_2, d_b_3, d_b_4, d_b_5⟩ := bwc6 (k_b.below hwb')
    obtain ⟨d_v_0, d_v_1, d_v_2⟩ := bwc3 (k_v.below hwb')
    simp only [mask2, maskAt, List.take_succ_cons, List.take_zero]
    repeat (go_big_quiet_step (first
      | (go_at_call 11; (first | (with_reducible exact bw_call KO1.out _) | (with_reducible exact bw_call KO2.out _)))))
    refine wpQuiet_nil ?_
    exact rfl
  intro W2 g_x g_y hW hga hgb n_y k_x k_y
  have B2 : Below w.heap.size w W2 := B1.trans (hW.mono B1.size)
  have l_x : g_v < g_x := Nat.lt_of_lt_of_le k_v.lt hga
  have l_y : g_v < g_y := Nat.lt_of_lt_of_le k_v.lt hgb
  have k_a := k_a.below hW
  have k_b := k_b.below hW
  have k_v := k_v.below hW
  clear hW hga hgb B1
  clear c_a_0 c_a_1 c_a_2 c_a_3 c_a_4 c_a_5 c_b_0 c_b_1 c_b_2 c_b_3 c_b_4 c_b_5 c_v_0 c_v_1 c_v_2
  simp only [List.drop_succ_cons, List.drop_zero, Act.put, List.setIfInBounds_toArray, List.set_cons_zero, List.set_cons_succ]
  obtain ⟨c_a_0, c_a_1, c_a_2, c_a_3, c_a_4, c_a_5⟩ := bwc6 (k_a)
  obtain ⟨c_b_0, c_b_1, c_b_2, c_b_3, c_b_4, c_b_5⟩ := bwc6 (k_b)
  obtain ⟨c_v_0, c_v_1, c_v_2⟩ := bwc3 (k_v)
  obtain ⟨c_x_0, c_x_1, c_x_2, c_x_3, c_x_4, c_x_5⟩ := bwc6 (k_x)
  obtain ⟨f_x_0, f_x_1, f_x_2, f_x_3, f_x_4, f_x_5⟩ := bwf6 (k_x)
  obtain ⟨c_y_0, c_y_1, c_y_2, c_y_3, c_y_4, c_y_5⟩ := bwc6 (k_y)
  obtain ⟨f_y_0, f_y_1, f_y_2, f_y_3, f_y_4, f_y_5⟩ := bwf6 (k_y)
  obtain ⟨p2, hp2⟩ : ∃ p : BW W2, p.w = W2 := ⟨BW.start W2, rfl⟩
  rw [← hp2]
  clear hp2
  go_upto_region 4 with (fail)
  obtain ⟨W3, hW3⟩ : ∃ W, W = (((((p2.w.setCell ⟨g_x, 0, none⟩ (.int .i64 a1)).setCell ⟨g_x, 1, none⟩ (.int .i64 a2)).setCell ⟨g_x, 2, none⟩ (.int .i64 a3)).setCell ⟨g_x, 3, none⟩ (.int .i64 a4)).setCell ⟨g_x, 4, none⟩ (.int .i64 a5)).setCell ⟨g_x, 5, none⟩ (.int .i64 a6) := ⟨_, rfl⟩
  have B3 : Below w.heap.size w W3 := by rw [hW3]; exact blp6 (bw_below B2 p2) (by omega)
  have k_a := bkoe6 hW3 (k_a.below p2.h) (by omega)
  have k_b := bkoe6 hW3 (k_b.below p2.h) (by omega)
  have k_v := bkoe6 hW3 (k_v.below p2.h) (by omega)
  have k_x := bkpe6 hW3 (k_x.below p2.h)
  have k_y := bkoe6 hW3 (k_y.below p2.h) (by omega)
  rw [← hW3]
  clear hW3
  clear B2
  clear c_a_0 c_a_1 c_a_2 c_a_3 c_a_4 c_a_5 c_b_0 c_b_1 c_b_2 c_b_3 c_b_4 c_b_5 c_v_0 c_v_1 c_v_2 c_x_0 c_x_1 c_x_2 c_x_3 c_x_4 c_x_5 f_x_0 f_x_1 f_x_2 f_x_3 f_x_4 f_x_5 c_y_0 c_y_1 c_y_2 c_y_3 c_y_4 c_y_5 f_y_0 f_y_1 f_y_2 f_y_3 f_y_4 f_y_5
  obtain ⟨c_a_0, c_a_1, c_a_2, c_a_3, c_a_4, c_a_5⟩ := bwc6 (k_a)
  obtain ⟨c_b_0, c_b_1, c_b_2, c_b_3, c_b_4, c_b_5⟩ := bwc6 (k_b)
  obtain ⟨c_v_0, c_v_1, c_v_2⟩ := bwc3 (k_v)
  obtain ⟨c_x_0, c_x_1, c_x_2, c_x_3, c_x_4, c_x_5⟩ := bwc6 (k_x)
  obtain ⟨c_y_0, c_y_1, c_y_2, c_y_3, c_y_4, c_y_5⟩ := bwc6 (k_y)
  obtain ⟨f_y_0, f_y_1, f_y_2, f_y_3, f_y_4, f_y_5⟩ := bwf6 (k_y)
  obtain ⟨p3, hp3⟩ : ∃ p : BW W3, p.w = W3 := ⟨BW.start W3, rfl⟩
  rw [← hp3]
  clear hp3
  obtain ⟨W4, hW4⟩ : ∃ W, W = (((((p3.w.setCell ⟨g_y, 0, none⟩ (.int .i64 b1)).setCell ⟨g_y, 1, none⟩ (.int .i64 b2)).setCell ⟨g_y, 2, none⟩ (.int .i64 b3)).setCell ⟨g_y, 3, none⟩ (.int .i64 b4)).setCell ⟨g_y, 4, none⟩ (.int .i64 b5)).setCell ⟨g_y, 5, none⟩ (.int .i64 b6) := ⟨_, rfl⟩
  have B4 : Below w.heap.size w W4 := by rw [hW4]; exact blp6 (bw_below B3 p3) (by omega)
  have k_a := bkoe6 hW4 (k_a.below p3.h) (by omega)
  have k_b := bkoe6 hW4 (k_b.below p3.h) (by omega)
  have k_v := bkoe6 hW4 (k_v.below p3.h) (by omega)
  have k_x := bkoe6 hW4 (k_x.below p3.h) (by omega)
  have k_y := bkpe6 hW4 (k_y.below p3.h)
  rw [← hW4]
  clear hW4
  clear B3
  clear c_a_0 c_a_1 c_a_2 c_a_3 c_a_4 c_a_5 c_b_0 c_b_1 c_b_2 c_b_3 c_b_4 c_b_5 c_v_0 c_v_1 c_v_2 c_x_0 c_x_1 c_x_2 c_x_3 c_x_4 c_x_5 c_y_0 c_y_1 c_y_2 c_y_3 c_y_4 c_y_5 f_y_0 f_y_1 f_y_2 f_y_3 f_y_4 f_y_5
  obtain ⟨c_a_0, c_a_1, c_a_2, c_a_3, c_a_4, c_a_5⟩ := bwc6 (k_a)
  obtain ⟨c_b_0, c_b_1, c_b_2, c_b_3, c_b_4, c_b_5⟩ := bwc6 (k_b)
  obtain ⟨c_v_0, c_v_1, c_v_2⟩ := bwc3 (k_v)
  obtain ⟨c_x_0, c_x_1, c_x_2, c_x_3, c_x_4, c_x_5⟩ := bwc6 (k_x)
  obtain ⟨c_y_0, c_y_1, c_y_2, c_y_3, c_y_4, c_y_5⟩ := bwc6 (k_y)
  obtain ⟨p4, hp4⟩ : ∃ p : BW W4, p.w = W4 := ⟨BW.start W4, rfl⟩
  rw [← hp4]
  clear hp4
  go_upto_region 5 with (first
    | (go_at_call 12; (first | (with_reducible refine (bw_call J1.out _).mono ?_)); rintro e w' ⟨rfl, q, rfl⟩))
  obtain ⟨W5, hW5⟩ : ∃ W, W = q.w.alloc (.cells #[.int .i64 j1, .int .i64 j2, .int .i64 j3, .int .i64 j4, .int .i64 j5, .int .i64 j6] 37) := ⟨_, rfl⟩
  have B5 : Below w.heap.size w W5 := by rw [hW5]; exact (bw_below B4 q).alloc (bw_below B4 q).size _
  have l_j : g_y < q.w.heap.size := (k_y.below q.h).lt
  have o_j : w.heap.size ≤ q.w.heap.size := (bw_below B4 q).size
  have l_j_x : g_x < q.w.heap.size := (k_x.below q.h).lt
  have k_a := bka hW5 (k_a.below q.h)
  have k_b := bka hW5 (k_b.below q.h)
  have k_v := bka hW5 (k_v.below q.h)
  have k_x := bka hW5 (k_x.below q.h)
  have k_y := bka hW5 (k_y.below q.h)
  have k_j := bkn hW5
  rw [← hW5]
  clear hW5
  clear B4
  clear c_a_0 c_a_1 c_a_2 c_a_3 c_a_4 c_a_5 c_b_0 c_b_1 c_b_2 c_b_3 c_b_4 c_b_5 c_v_0 c_v_1 c_v_2 c_x_0 c_x_1 c_x_2 c_x_3 c_x_4 c_x_5 c_y_0 c_y_1 c_y_2 c_y_3 c_y_4 c_y_5
  generalize q.w.heap.size = g_j at *
  obtain ⟨c_a_0, c_a_1, c_a_2, c_a_3, c_a_4, c_a_5⟩ := bwc6 (k_a)
  obtain ⟨c_b_0, c_b_1, c_b_2, c_b_3, c_b_4, c_b_5⟩ := bwc6 (k_b)
  obtain ⟨c_v_0, c_v_1, c_v_2⟩ := bwc3 (k_v)
  obtain ⟨c_x_0, c_x_1, c_x_2, c_x_3, c_x_4, c_x_5⟩ := bwc6 (k_x)
  obtain ⟨c_y_0, c_y_1, c_y_2, c_y_3, c_y_4, c_y_5⟩ := bwc6 (k_y)
  obtain ⟨c_j_0, c_j_1, c_j_2, c_j_3, c_j_4, c_j_5⟩ := bwc6 (k_j)
  obtain ⟨p5, hp5⟩ : ∃ p : BW W5, p.w = W5 := ⟨BW.start W5, rfl⟩
  rw [← hp5]
  clear hp5
  refine wp_region_bw (by kernel_rfl) (by kernel_rfl) ?_
  repeat (go_big_quiet_step (first
    | (go_at_call 12; (first | (with_reducible exact bw_call J2.out _) | (with_reducible exact bw_call J3.out _) | (with_reducible exact bw_call J4.out _)))
    | (go_at_call 14; (first | (with_reducible exact bw_call R1.out _)))
    | (go_at_call 15; (first | (with_reducible exact bw_call A1.out _) | (with_reducible exact bw_call A2.out _) | (with_reducible exact bw_call A3.out _)))))
  refine wpQuiet_nil ?_
  intro _ hw'
  obtain ⟨q, rfl⟩ := hw'
  rcases HE.out with ⟨rfl, rfl⟩ | ⟨rfl, rfl, rfl⟩ | ⟨rfl, rfl⟩
  all_goals
    clear HE J2 J3 J4 R1 A1 A2 A3 KR1 KR2 KO1 KO2 J1
    go_wp2_with (first
      | (go_at_call 13; (first | (with_reducible refine (bw_call S1.out _).mono ?_) | (with_reducible refine (bw_call S2.out _).mono ?_) | (with_reducible refine (bw_call S3.out _).mono ?_)); rintro e w' ⟨rfl, q, rfl⟩))
    go_loopw [10] (fun i wr => ∃ (k : Nat) (q : BW W5), k ≤ 3 ∧ i = .int .i64 k ∧ wr = q.w) (fun i _ => 3 - (intOf i).toNat)
    case atStart => exact ⟨0, q, by omega, rfl, rfl⟩
    case round =>
      obtain ⟨k, p9, hk, rfl, rfl⟩ := hrel
      have C1 := Lib.hid (fun w => ref10_Coord a1 a2 a3 k w)
      have C2 := Lib.hid (fun w => ref10_Coord b1 b2 b3 k w)
      have C3 := Lib.hid (fun w => ref10_Coord a4 a5 a6 k w)
      have C4 := Lib.hid (fun w => ref10_Coord b4 b5 b6 k w)
      have C5 := Lib.hid (fun w => ref10_Coord j1 j2 j3 k w)
      have C6 := Lib.hid (fun w => ref10_Coord j4 j5 j6 k w)
      obtain ⟨hc1, hc2⟩ := HC.out (k : Int)
      generalize crd (a1, a2, a3) (k : Int) = g1 at *
      generalize crd (b1, b2, b3) (k : Int) = g2 at *
      generalize crd (a4, a5, a6) (k : Int) = g3 at *
      generalize crd (b4, b5, b6) (k : Int) = g4 at *
      generalize crd (j1, j2, j3) (k : Int) = g5 at *
      generalize crd (j4, j5, j6) (k : Int) = g6 at *
      have hd1 : g5 = g1 ∨ (decide (g5 = g1) = false ∧ g5 = g2) := by
        by_cases h : g5 = g1
        · exact .inl h
        · exact .inr ⟨decide_eq_false h, hc1.resolve_left h⟩
      have hd2 : g6 = g3 ∨ (decide (g6 = g3) = false ∧ g6 = g4) := by
        by_cases h : g6 = g3
        · exact .inl h
        · exact .inr ⟨decide_eq_false h, hc2.resolve_left h⟩
      clear hc1 hc2
      by_cases hlt : k < 3
      · go_upto_region 12 with (fail)
        refine wp_region_bw (by kernel_rfl) (by kernel_rfl) ?_
        repeat (go_big_quiet_step (first
          | (go_at_call 16; (first | (with_reducible exact bw_call C5.out _) | (with_reducible exact bw_call C6.out _)))))
        refine wpQuiet_nil ?_
        intro _ hw'
        obtain ⟨q, rfl⟩ := hw'
        rcases hd1 with rfl | ⟨ne1, rfl⟩ <;> rcases hd2 with rfl | ⟨ne2, rfl⟩
        all_goals
          go_wp2_with (first
            | (go_at_call 16; (first | (with_reducible refine (bw_call C1.out _).mono ?_) | (with_reducible refine (bw_call C2.out _).mono ?_) | (with_reducible refine (bw_call C3.out _).mono ?_) | (with_reducible refine (bw_call C4.out _).mono ?_) | (with_reducible refine (bw_call C5.out _).mono ?_) | (with_reducible refine (bw_call C6.out _).mono ?_)); rintro e w' ⟨rfl, q, rfl⟩))
          all_goals
            go_roundw
            case rel => exact ⟨k + 1, _, by omega, by go_num, rfl⟩
            case measure => simp [intOf]; omega
      · obtain rfl : k = 3 := by omega
        clear hd1 hd2 C1 C2 C3 C4 C5 C6
        go_wp2_with (first
          | (go_at_call 13; (first | (with_reducible refine (bw_call S4.out _).mono ?_) | (with_reducible refine (bw_call S5.out _).mono ?_)); rintro e w' ⟨rfl, q, rfl⟩)
          | (go_at_call 7; (first | (with_reducible refine (bw_call HA.out _).mono ?_)); rintro e w' ⟨rfl, q, rfl⟩))
        go_ret
        exact ⟨rfl, bw_below B5 _⟩

theorem law_BoxJoin (a1 a2 a3 a4 a5 a6 b1 b2 b3 b4 b5 b6 x y z : Int) (w : World) :
    Calls Try.prog 4 #[.agg #[.int .i64 a1, .int .i64 a2, .int .i64 a3, .int .i64 a4, .int .i64 a5, .int .i64 a6], .agg #[.int .i64 b1, .int .i64 b2, .int .i64 b3, .int .i64 b4, .int .i64 b5, .int .i64 b6], .agg #[.int .i64 x, .int .i64 y, .int .i64 z]] w fun en w' => en = .returned (.bool true) ∧ Below w.heap.size w w' := by
  cases h1 : bRight ((a1, a2, a3), (a4, a5, a6)) with
  | false => exact law_BoxJoin_no1 a1 a2 a3 a4 a5 a6 b1 b2 b3 b4 b5 b6 x y z w h1
  | true =>
    cases h2 : bRight ((b1, b2, b3), (b4, b5, b6)) with
    | false => exact law_BoxJoin_no2 a1 a2 a3 a4 a5 a6 b1 b2 b3 b4 b5 b6 x y z w h1 h2
    | true => exact law_BoxJoin_yes a1 a2 a3 a4 a5 a6 b1 b2 b3 b4 b5 b6 x y z w h1 h2

end Go.Proofs.Ytgdclpbnjoampaa
