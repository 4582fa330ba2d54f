/- Contracts of package box: the exported functions but Hit. -/
import Derived.Test.YtdmfmdekcojjbaaGreatBoxl10
namespace Go.Proofs.YtdmfmdekcojjbaaGreat
open Go.RowKit Go.Proofs.Sky
set_option linter.unusedVariables false

theorem vsub_in {x a : Int} (h : -4194304 ≤ x ∧ x ≤ 4194304) (g : -4194304 ≤ a ∧ a ≤ 4194304) : vsub x a = x - a := by
  unfold vsub sat
  (repeat' split) <;> omega
theorem sat_in {x : Int} (h : -8388608 ≤ x ∧ x ≤ 8388608) : sat x = x := by
  unfold sat
  rw [if_neg (by omega), if_neg (by omega)]
theorem mul_in {x y : Int} (hx : 0 ≤ x ∧ x ≤ 2097152) (hy : 0 ≤ y ∧ y ≤ 2097152) : 0 ≤ x * y ∧ x * y ≤ 4398046511104 := by
  have a := Int.mul_nonneg hx.1 hy.1
  have b := Int.mul_le_mul hx.2 hy.2 hy.1 (by omega)
  omega

set_option maxRecDepth 100000 in
set_option maxHeartbeats 4000000 in
theorem box_Right_lo (a1 a2 a3 a4 a5 a6 : Int) (w : World) (h1 : vnear a1 a2 a3 = false) :
    Calls Tryz.prog 10 #[.agg #[.int .i64 a1, .int .i64 a2, .int .i64 a3, .int .i64 a4, .int .i64 a5, .int .i64 a6]] w fun en w' => en = .returned (.bool false) ∧ Below w.heap.size w w' := by
  have KN1 := Lib.hid (fun w => vec_Near a1 a2 a3 w)
  rw [h1] at KN1
  clear h1
  go_enter Tryz.func10, Tryz.ntmps10
  go_upto_region 1 with (fail)
  obtain ⟨W1, hW1⟩ : ∃ W, W = w.alloc (.cells #[.int .i64 a1, .int .i64 a2, .int .i64 a3, .int .i64 a4, .int .i64 a5, .int .i64 a6] 36) := ⟨_, rfl⟩
  obtain ⟨k_b, B1⟩ := st1 hW1
  rw [← hW1]
  clear hW1
  obtain ⟨c_b_0, c_b_1, c_b_2, c_b_3, c_b_4, c_b_5⟩ := bwc6 (k_b)
  obtain ⟨p1, hp1⟩ : ∃ p : BW W1, p.w = W1 := ⟨BW.start W1, rfl⟩
  rw [← hp1]
  clear hp1
  refine wp_region_bw (by kernel_rfl) (by kernel_rfl) ?_
  repeat (go_big_quiet_step (first
    | (go_at_call 28; (first | (with_reducible exact bw_call KN1.out _)))))
  refine wpQuiet_nil ?_
  intro _ hw'
  obtain ⟨q, rfl⟩ := hw'
  go_wp2
  go_ret
  exact ⟨rfl, bw_below B1 _⟩

set_option maxRecDepth 100000 in
set_option maxHeartbeats 4000000 in
theorem box_Right_hi (a1 a2 a3 a4 a5 a6 : Int) (w : World) (h1 : vnear a1 a2 a3 = true) (h2 : vnear a4 a5 a6 = false) :
    Calls Tryz.prog 10 #[.agg #[.int .i64 a1, .int .i64 a2, .int .i64 a3, .int .i64 a4, .int .i64 a5, .int .i64 a6]] w fun en w' => en = .returned (.bool false) ∧ Below w.heap.size w w' := by
  have KN1 := Lib.hid (fun w => vec_Near a1 a2 a3 w)
  rw [h1] at KN1
  have KN2 := Lib.hid (fun w => vec_Near a4 a5 a6 w)
  rw [h2] at KN2
  clear h1 h2
  go_enter Tryz.func10, Tryz.ntmps10
  go_upto_region 1 with (fail)
  obtain ⟨W1, hW1⟩ : ∃ W, W = w.alloc (.cells #[.int .i64 a1, .int .i64 a2, .int .i64 a3, .int .i64 a4, .int .i64 a5, .int .i64 a6] 36) := ⟨_, rfl⟩
  obtain ⟨k_b, B1⟩ := st1 hW1
  rw [← hW1]
  clear hW1
  obtain ⟨c_b_0, c_b_1, c_b_2, c_b_3, c_b_4, c_b_5⟩ := bwc6 (k_b)
  obtain ⟨p1, hp1⟩ : ∃ p : BW W1, p.w = W1 := ⟨BW.start W1, rfl⟩
  rw [← hp1]
  clear hp1
  refine wp_region_bw (by kernel_rfl) (by kernel_rfl) ?_
  repeat (go_big_quiet_step (first
    | (go_at_call 28; (first | (with_reducible exact bw_call KN1.out _) | (with_reducible exact bw_call KN2.out _)))))
  refine wpQuiet_nil ?_
  intro _ hw'
  obtain ⟨q, rfl⟩ := hw'
  go_wp2
  go_ret
  exact ⟨rfl, bw_below B1 _⟩

set_option maxRecDepth 100000 in
set_option maxHeartbeats 4000000 in
theorem box_Right_x (a1 a2 a3 a4 a5 a6 : Int) (w : World) (h1 : vnear a1 a2 a3 = true) (h2 : vnear a4 a5 a6 = true) (e1 : ¬ min a1 a4 = a1) :
    Calls Tryz.prog 10 #[.agg #[.int .i64 a1, .int .i64 a2, .int .i64 a3, .int .i64 a4, .int .i64 a5, .int .i64 a6]] w fun en w' => en = .returned (.bool false) ∧ Below w.heap.size w w' := by
  have KN1 := Lib.hid (fun w => vec_Near a1 a2 a3 w)
  rw [h1] at KN1
  have KN2 := Lib.hid (fun w => vec_Near a4 a5 a6 w)
  rw [h2] at KN2
  have KL := Lib.hid (fun w => box_lowest a1 a2 a3 a4 a5 a6 w)
  generalize min a1 a4 = m1 at *
  generalize min a2 a5 = m2 at *
  generalize min a3 a6 = m3 at *
  clear h1 h2
  go_enter Tryz.func10, Tryz.ntmps10
  go_upto_region 1 with (fail)
  obtain ⟨W1, hW1⟩ : ∃ W, W = w.alloc (.cells #[.int .i64 a1, .int .i64 a2, .int .i64 a3, .int .i64 a4, .int .i64 a5, .int .i64 a6] 36) := ⟨_, rfl⟩
  obtain ⟨k_b, B1⟩ := st1 hW1
  rw [← hW1]
  clear hW1
  obtain ⟨c_b_0, c_b_1, c_b_2, c_b_3, c_b_4, c_b_5⟩ := bwc6 (k_b)
  obtain ⟨p1, hp1⟩ : ∃ p : BW W1, p.w = W1 := ⟨BW.start W1, rfl⟩
  rw [← hp1]
  clear hp1
  refine wp_region_bw (by kernel_rfl) (by kernel_rfl) ?_
  repeat (go_big_quiet_step (first
    | (go_at_call 28; (first | (with_reducible exact bw_call KN1.out _) | (with_reducible exact bw_call KN2.out _)))
    | (go_at_call 29; (first | (with_reducible exact bw_call KL.out _)))))
  refine wpQuiet_nil ?_
  intro _ hw'
  obtain ⟨q, rfl⟩ := hw'
  go_wp2
  go_ret
  exact ⟨rfl, bw_below B1 _⟩

set_option maxRecDepth 100000 in
set_option maxHeartbeats 4000000 in
theorem box_Right_y (a1 a2 a3 a4 a5 a6 : Int) (w : World) (h1 : vnear a1 a2 a3 = true) (h2 : vnear a4 a5 a6 = true) (e1 : min a1 a4 = a1) (e2 : ¬ min a2 a5 = a2) :
    Calls Tryz.prog 10 #[.agg #[.int .i64 a1, .int .i64 a2, .int .i64 a3, .int .i64 a4, .int .i64 a5, .int .i64 a6]] w fun en w' => en = .returned (.bool false) ∧ Below w.heap.size w w' := by
  have KN1 := Lib.hid (fun w => vec_Near a1 a2 a3 w)
  rw [h1] at KN1
  have KN2 := Lib.hid (fun w => vec_Near a4 a5 a6 w)
  rw [h2] at KN2
  have KL := Lib.hid (fun w => box_lowest a1 a2 a3 a4 a5 a6 w)
  rw [e1] at KL
  generalize min a2 a5 = m2 at *
  generalize min a3 a6 = m3 at *
  clear e1
  clear h1 h2
  go_enter Tryz.func10, Tryz.ntmps10
  go_upto_region 1 with (fail)
  obtain ⟨W1, hW1⟩ : ∃ W, W = w.alloc (.cells #[.int .i64 a1, .int .i64 a2, .int .i64 a3, .int .i64 a4, .int .i64 a5, .int .i64 a6] 36) := ⟨_, rfl⟩
  obtain ⟨k_b, B1⟩ := st1 hW1
  rw [← hW1]
  clear hW1
  obtain ⟨c_b_0, c_b_1, c_b_2, c_b_3, c_b_4, c_b_5⟩ := bwc6 (k_b)
  obtain ⟨p1, hp1⟩ : ∃ p : BW W1, p.w = W1 := ⟨BW.start W1, rfl⟩
  rw [← hp1]
  clear hp1
  refine wp_region_bw (by kernel_rfl) (by kernel_rfl) ?_
  repeat (go_big_quiet_step (first
    | (go_at_call 28; (first | (with_reducible exact bw_call KN1.out _) | (with_reducible exact bw_call KN2.out _)))
    | (go_at_call 29; (first | (with_reducible exact bw_call KL.out _)))))
  refine wpQuiet_nil ?_
  intro _ hw'
  obtain ⟨q, rfl⟩ := hw'
  go_wp2
  go_ret
  exact ⟨rfl, bw_below B1 _⟩

set_option maxRecDepth 100000 in
set_option maxHeartbeats 4000000 in
theorem box_Right_z (a1 a2 a3 a4 a5 a6 : Int) (w : World) (h1 : vnear a1 a2 a3 = true) (h2 : vnear a4 a5 a6 = true) (e1 : min a1 a4 = a1) (e2 : min a2 a5 = a2) (e3 : ¬ min a3 a6 = a3) :
    Calls Tryz.prog 10 #[.agg #[.int .i64 a1, .int .i64 a2, .int .i64 a3, .int .i64 a4, .int .i64 a5, .int .i64 a6]] w fun en w' => en = .returned (.bool false) ∧ Below w.heap.size w w' := by
  have KN1 := Lib.hid (fun w => vec_Near a1 a2 a3 w)
  rw [h1] at KN1
  have KN2 := Lib.hid (fun w => vec_Near a4 a5 a6 w)
  rw [h2] at KN2
  have KL := Lib.hid (fun w => box_lowest a1 a2 a3 a4 a5 a6 w)
  rw [e1] at KL
  rw [e2] at KL
  generalize min a3 a6 = m3 at *
  clear e1 e2
  clear h1 h2
  go_enter Tryz.func10, Tryz.ntmps10
  go_upto_region 1 with (fail)
  obtain ⟨W1, hW1⟩ : ∃ W, W = w.alloc (.cells #[.int .i64 a1, .int .i64 a2, .int .i64 a3, .int .i64 a4, .int .i64 a5, .int .i64 a6] 36) := ⟨_, rfl⟩
  obtain ⟨k_b, B1⟩ := st1 hW1
  rw [← hW1]
  clear hW1
  obtain ⟨c_b_0, c_b_1, c_b_2, c_b_3, c_b_4, c_b_5⟩ := bwc6 (k_b)
  obtain ⟨p1, hp1⟩ : ∃ p : BW W1, p.w = W1 := ⟨BW.start W1, rfl⟩
  rw [← hp1]
  clear hp1
  refine wp_region_bw (by kernel_rfl) (by kernel_rfl) ?_
  repeat (go_big_quiet_step (first
    | (go_at_call 28; (first | (with_reducible exact bw_call KN1.out _) | (with_reducible exact bw_call KN2.out _)))
    | (go_at_call 29; (first | (with_reducible exact bw_call KL.out _)))))
  refine wpQuiet_nil ?_
  intro _ hw'
  obtain ⟨q, rfl⟩ := hw'
  go_wp2
  go_ret
  exact ⟨rfl, bw_below B1 _⟩

set_option maxRecDepth 100000 in
set_option maxHeartbeats 4000000 in
theorem box_Right_all (a1 a2 a3 a4 a5 a6 : Int) (w : World) (h1 : vnear a1 a2 a3 = true) (h2 : vnear a4 a5 a6 = true) (e1 : min a1 a4 = a1) (e2 : min a2 a5 = a2) (e3 : min a3 a6 = a3) :
    Calls Tryz.prog 10 #[.agg #[.int .i64 a1, .int .i64 a2, .int .i64 a3, .int .i64 a4, .int .i64 a5, .int .i64 a6]] w fun en w' => en = .returned (.bool true) ∧ Below w.heap.size w w' := by
  have KN1 := Lib.hid (fun w => vec_Near a1 a2 a3 w)
  rw [h1] at KN1
  have KN2 := Lib.hid (fun w => vec_Near a4 a5 a6 w)
  rw [h2] at KN2
  have KL := Lib.hid (fun w => box_lowest a1 a2 a3 a4 a5 a6 w)
  rw [e1] at KL
  rw [e2] at KL
  rw [e3] at KL
  clear e1 e2 e3
  clear h1 h2
  go_enter Tryz.func10, Tryz.ntmps10
  go_upto_region 1 with (fail)
  obtain ⟨W1, hW1⟩ : ∃ W, W = w.alloc (.cells #[.int .i64 a1, .int .i64 a2, .int .i64 a3, .int .i64 a4, .int .i64 a5, .int .i64 a6] 36) := ⟨_, rfl⟩
  obtain ⟨k_b, B1⟩ := st1 hW1
  rw [← hW1]
  clear hW1
  obtain ⟨c_b_0, c_b_1, c_b_2, c_b_3, c_b_4, c_b_5⟩ := bwc6 (k_b)
  obtain ⟨p1, hp1⟩ : ∃ p : BW W1, p.w = W1 := ⟨BW.start W1, rfl⟩
  rw [← hp1]
  clear hp1
  refine wp_region_bw (by kernel_rfl) (by kernel_rfl) ?_
  repeat (go_big_quiet_step (first
    | (go_at_call 28; (first | (with_reducible exact bw_call KN1.out _) | (with_reducible exact bw_call KN2.out _)))
    | (go_at_call 29; (first | (with_reducible exact bw_call KL.out _)))))
  refine wpQuiet_nil ?_
  intro _ hw'
  obtain ⟨q, rfl⟩ := hw'
  go_wp2
  go_ret
  exact ⟨rfl, bw_below B1 _⟩

theorem box_Right (a1 a2 a3 a4 a5 a6 : Int) (w : World) :
    Calls Tryz.prog 10 #[.agg #[.int .i64 a1, .int .i64 a2, .int .i64 a3, .int .i64 a4, .int .i64 a5, .int .i64 a6]] w fun en w' => en = .returned (.bool (bRight ((a1, a2, a3), (a4, a5, a6)))) ∧ Below w.heap.size w w' := by
  unfold bRight nrT
  dsimp only
  cases h1 : vnear a1 a2 a3 with
  | false => exact box_Right_lo a1 a2 a3 a4 a5 a6 w h1
  | true =>
    cases h2 : vnear a4 a5 a6 with
    | false => exact box_Right_hi a1 a2 a3 a4 a5 a6 w h1 h2
    | true =>
      rw [Bool.true_and, Bool.true_and]
      by_cases e1 : min a1 a4 = a1
      · by_cases e2 : min a2 a5 = a2
        · by_cases e3 : min a3 a6 = a3
          · rw [decide_eq_true (by omega)]; exact box_Right_all a1 a2 a3 a4 a5 a6 w h1 h2 e1 e2 e3
          · rw [decide_eq_false (by omega)]; exact box_Right_z a1 a2 a3 a4 a5 a6 w h1 h2 e1 e2 e3
        · rw [decide_eq_false (by omega)]; exact box_Right_y a1 a2 a3 a4 a5 a6 w h1 h2 e1 e2
      · rw [decide_eq_false (by omega)]; exact box_Right_x a1 a2 a3 a4 a5 a6 w h1 h2 e1

set_option maxRecDepth 100000 in
set_option maxHeartbeats 4000000 in
theorem box_Has_no (a1 a2 a3 a4 a5 a6 x y z : Int) (w : World) (h : bRight ((a1, a2, a3), (a4, a5, a6)) = false) :
    Calls Tryz.prog 14 #[.agg #[.int .i64 a1, .int .i64 a2, .int .i64 a3, .int .i64 a4, .int .i64 a5, .int .i64 a6], .agg #[.int .i64 x, .int .i64 y, .int .i64 z]] w fun en w' => en = .returned (.bool false) ∧ Below w.heap.size w w' := by
  have KA := Lib.hid (fun w => box_Right a1 a2 a3 a4 a5 a6 w)
  rw [h] at KA
  clear h
  go_enter Tryz.func14, Tryz.ntmps14
  go_upto_region 1 with (fail)
  obtain ⟨W1, hW1⟩ : ∃ W, W = (w.alloc (.cells #[.int .i64 a1, .int .i64 a2, .int .i64 a3, .int .i64 a4, .int .i64 a5, .int .i64 a6] 36)).alloc (.cells #[.int .i64 x, .int .i64 y, .int .i64 z] 23) := ⟨_, rfl⟩
  obtain ⟨k_b, k_v, B1⟩ := st2 hW1
  rw [← hW1]
  clear hW1
  have l_v : w.heap.size < w.heap.size + 1 := by omega
  generalize w.heap.size + 1 = g_v at *
  obtain ⟨c_b_0, c_b_1, c_b_2, c_b_3, c_b_4, c_b_5⟩ := bwc6 (k_b)
  obtain ⟨c_v_0, c_v_1, c_v_2⟩ := bwc3 (k_v)
  obtain ⟨p1, hp1⟩ : ∃ p : BW W1, p.w = W1 := ⟨BW.start W1, rfl⟩
  rw [← hp1]
  clear hp1
  refine wp_region_bw (by kernel_rfl) (by kernel_rfl) ?_
  repeat (go_big_quiet_step (first
    | (go_at_call 10; (first | (with_reducible exact bw_call KA.out _)))))
  refine wpQuiet_nil ?_
  intro _ hw'
  obtain ⟨q, rfl⟩ := hw'
  go_wp2
  go_ret
  exact ⟨rfl, bw_below B1 _⟩

set_option maxRecDepth 100000 in
set_option maxHeartbeats 4000000 in
theorem box_Has_l1 (a1 a2 a3 a4 a5 a6 x y z : Int) (w : World) (h : bRight ((a1, a2, a3), (a4, a5, a6)) = true) (e1 : ¬ min a1 x = a1) :
    Calls Tryz.prog 14 #[.agg #[.int .i64 a1, .int .i64 a2, .int .i64 a3, .int .i64 a4, .int .i64 a5, .int .i64 a6], .agg #[.int .i64 x, .int .i64 y, .int .i64 z]] w fun en w' => en = .returned (.bool false) ∧ Below w.heap.size w w' := by
  have KA := Lib.hid (fun w => box_Right a1 a2 a3 a4 a5 a6 w)
  rw [h] at KA
  clear h
  have KL := Lib.hid (fun w => box_lowest a1 a2 a3 x y z w)
  generalize min a1 x = m1 at *
  generalize min a2 y = m2 at *
  generalize min a3 z = m3 at *
  go_enter Tryz.func14, Tryz.ntmps14
  go_upto_region 1 with (fail)
  obtain ⟨W1, hW1⟩ : ∃ W, W = (w.alloc (.cells #[.int .i64 a1, .int .i64 a2, .int .i64 a3, .int .i64 a4, .int .i64 a5, .int .i64 a6] 36)).alloc (.cells #[.int .i64 x, .int .i64 y, .int .i64 z] 23) := ⟨_, rfl⟩
  obtain ⟨k_b, k_v, B1⟩ := st2 hW1
  rw [← hW1]
  clear hW1
  have l_v : w.heap.size < w.heap.size + 1 := by omega
  generalize w.heap.size + 1 = g_v at *
  obtain ⟨c_b_0, c_b_1, c_b_2, c_b_3, c_b_4, c_b_5⟩ := bwc6 (k_b)
  obtain ⟨c_v_0, c_v_1, c_v_2⟩ := bwc3 (k_v)
  obtain ⟨p1, hp1⟩ : ∃ p : BW W1, p.w = W1 := ⟨BW.start W1, rfl⟩
  rw [← hp1]
  clear hp1
  refine wp_region_bw (by kernel_rfl) (by kernel_rfl) ?_
  repeat (go_big_quiet_step (first
    | (go_at_call 10; (first | (with_reducible exact bw_call KA.out _)))
    | (go_at_call 29; (first | (with_reducible exact bw_call KL.out _)))))
  refine wpQuiet_nil ?_
  intro _ hw'
  obtain ⟨q, rfl⟩ := hw'
  go_wp2
  go_ret
  exact ⟨rfl, bw_below B1 _⟩

set_option maxRecDepth 100000 in
set_option maxHeartbeats 4000000 in
theorem box_Has_l2 (a1 a2 a3 a4 a5 a6 x y z : Int) (w : World) (h : bRight ((a1, a2, a3), (a4, a5, a6)) = true) (e1 : min a1 x = a1) (e2 : ¬ min a2 y = a2) :
    Calls Tryz.prog 14 #[.agg #[.int .i64 a1, .int .i64 a2, .int .i64 a3, .int .i64 a4, .int .i64 a5, .int .i64 a6], .agg #[.int .i64 x, .int .i64 y, .int .i64 z]] w fun en w' => en = .returned (.bool false) ∧ Below w.heap.size w w' := by
  have KA := Lib.hid (fun w => box_Right a1 a2 a3 a4 a5 a6 w)
  rw [h] at KA
  clear h
  have KL := Lib.hid (fun w => box_lowest a1 a2 a3 x y z w)
  rw [e1] at KL
  clear e1
  generalize min a2 y = m2 at *
  generalize min a3 z = m3 at *
  go_enter Tryz.func14, Tryz.ntmps14
  go_upto_region 1 with (fail)
  obtain ⟨W1, hW1⟩ : ∃ W, W = (w.alloc (.cells #[.int .i64 a1, .int .i64 a2, .int .i64 a3, .int .i64 a4, .int .i64 a5, .int .i64 a6] 36)).alloc (.cells #[.int .i64 x, .int .i64 y, .int .i64 z] 23) := ⟨_, rfl⟩
  obtain ⟨k_b, k_v, B1⟩ := st2 hW1
  rw [← hW1]
  clear hW1
  have l_v : w.heap.size < w.heap.size + 1 := by omega
  generalize w.heap.size + 1 = g_v at *
  obtain ⟨c_b_0, c_b_1, c_b_2, c_b_3, c_b_4, c_b_5⟩ := bwc6 (k_b)
  obtain ⟨c_v_0, c_v_1, c_v_2⟩ := bwc3 (k_v)
  obtain ⟨p1, hp1⟩ : ∃ p : BW W1, p.w = W1 := ⟨BW.start W1, rfl⟩
  rw [← hp1]
  clear hp1
  refine wp_region_bw (by kernel_rfl) (by kernel_rfl) ?_
  repeat (go_big_quiet_step (first
    | (go_at_call 10; (first | (with_reducible exact bw_call KA.out _)))
    | (go_at_call 29; (first | (with_reducible exact bw_call KL.out _)))))
  refine wpQuiet_nil ?_
  intro _ hw'
  obtain ⟨q, rfl⟩ := hw'
  go_wp2
  go_ret
  exact ⟨rfl, bw_below B1 _⟩

set_option maxRecDepth 100000 in
set_option maxHeartbeats 4000000 in
theorem box_Has_l3 (a1 a2 a3 a4 a5 a6 x y z : Int) (w : World) (h : bRight ((a1, a2, a3), (a4, a5, a6)) = true) (e1 : min a1 x = a1) (e2 : min a2 y = a2) (e3 : ¬ min a3 z = a3) :
    Calls Tryz.prog 14 #[.agg #[.int .i64 a1, .int .i64 a2, .int .i64 a3, .int .i64 a4, .int .i64 a5, .int .i64 a6], .agg #[.int .i64 x, .int .i64 y, .int .i64 z]] w fun en w' => en = .returned (.bool false) ∧ Below w.heap.size w w' := by
  have KA := Lib.hid (fun w => box_Right a1 a2 a3 a4 a5 a6 w)
  rw [h] at KA
  clear h
  have KL := Lib.hid (fun w => box_lowest a1 a2 a3 x y z w)
  rw [e1] at KL
  clear e1
  rw [e2] at KL
  clear e2
  generalize min a3 z = m3 at *
  go_enter Tryz.func14, Tryz.ntmps14
  go_upto_region 1 with (fail)
  obtain ⟨W1, hW1⟩ : ∃ W, W = (w.alloc (.cells #[.int .i64 a1, .int .i64 a2, .int .i64 a3, .int .i64 a4, .int .i64 a5, .int .i64 a6] 36)).alloc (.cells #[.int .i64 x, .int .i64 y, .int .i64 z] 23) := ⟨_, rfl⟩
  obtain ⟨k_b, k_v, B1⟩ := st2 hW1
  rw [← hW1]
  clear hW1
  have l_v : w.heap.size < w.heap.size + 1 := by omega
  generalize w.heap.size + 1 = g_v at *
  obtain ⟨c_b_0, c_b_1, c_b_2, c_b_3, c_b_4, c_b_5⟩ := bwc6 (k_b)
  obtain ⟨c_v_0, c_v_1, c_v_2⟩ := bwc3 (k_v)
  obtain ⟨p1, hp1⟩ : ∃ p : BW W1, p.w = W1 := ⟨BW.start W1, rfl⟩
  rw [← hp1]
  clear hp1
  refine wp_region_bw (by kernel_rfl) (by kernel_rfl) ?_
  repeat (go_big_quiet_step (first
    | (go_at_call 10; (first | (with_reducible exact bw_call KA.out _)))
    | (go_at_call 29; (first | (with_reducible exact bw_call KL.out _)))))
  refine wpQuiet_nil ?_
  intro _ hw'
  obtain ⟨q, rfl⟩ := hw'
  go_wp2
  go_ret
  exact ⟨rfl, bw_below B1 _⟩

set_option maxRecDepth 100000 in
set_option maxHeartbeats 4000000 in
theorem box_Has_h1 (a1 a2 a3 a4 a5 a6 x y z : Int) (w : World) (h : bRight ((a1, a2, a3), (a4, a5, a6)) = true) (e1 : min a1 x = a1) (e2 : min a2 y = a2) (e3 : min a3 z = a3) (e4 : ¬ max a4 x = a4) :
    Calls Tryz.prog 14 #[.agg #[.int .i64 a1, .int .i64 a2, .int .i64 a3, .int .i64 a4, .int .i64 a5, .int .i64 a6], .agg #[.int .i64 x, .int .i64 y, .int .i64 z]] w fun en w' => en = .returned (.bool false) ∧ Below w.heap.size w w' := by
  have KA := Lib.hid (fun w => box_Right a1 a2 a3 a4 a5 a6 w)
  rw [h] at KA
  clear h
  have KL := Lib.hid (fun w => box_lowest a1 a2 a3 x y z w)
  rw [e1] at KL
  clear e1
  rw [e2] at KL
  clear e2
  rw [e3] at KL
  clear e3
  have KH := Lib.hid (fun w => box_highest a4 a5 a6 x y z w)
  generalize max a4 x = m4 at *
  generalize max a5 y = m5 at *
  generalize max a6 z = m6 at *
  go_enter Tryz.func14, Tryz.ntmps14
  go_upto_region 1 with (fail)
  obtain ⟨W1, hW1⟩ : ∃ W, W = (w.alloc (.cells #[.int .i64 a1, .int .i64 a2, .int .i64 a3, .int .i64 a4, .int .i64 a5, .int .i64 a6] 36)).alloc (.cells #[.int .i64 x, .int .i64 y, .int .i64 z] 23) := ⟨_, rfl⟩
  obtain ⟨k_b, k_v, B1⟩ := st2 hW1
  rw [← hW1]
  clear hW1
  have l_v : w.heap.size < w.heap.size + 1 := by omega
  generalize w.heap.size + 1 = g_v at *
  obtain ⟨c_b_0, c_b_1, c_b_2, c_b_3, c_b_4, c_b_5⟩ := bwc6 (k_b)
  obtain ⟨c_v_0, c_v_1, c_v_2⟩ := bwc3 (k_v)
  obtain ⟨p1, hp1⟩ : ∃ p : BW W1, p.w = W1 := ⟨BW.start W1, rfl⟩
  rw [← hp1]
  clear hp1
  refine wp_region_bw (by kernel_rfl) (by kernel_rfl) ?_
  repeat (go_big_quiet_step (first
    | (go_at_call 10; (first | (with_reducible exact bw_call KA.out _)))
    | (go_at_call 29; (first | (with_reducible exact bw_call KL.out _)))
    | (go_at_call 37; (first | (with_reducible exact bw_call KH.out _)))))
  refine wpQuiet_nil ?_
  intro _ hw'
  obtain ⟨q, rfl⟩ := hw'
  go_wp2
  go_ret
  exact ⟨rfl, bw_below B1 _⟩

set_option maxRecDepth 100000 in
set_option maxHeartbeats 4000000 in
theorem box_Has_h2 (a1 a2 a3 a4 a5 a6 x y z : Int) (w : World) (h : bRight ((a1, a2, a3), (a4, a5, a6)) = true) (e1 : min a1 x = a1) (e2 : min a2 y = a2) (e3 : min a3 z = a3) (e4 : max a4 x = a4) (e5 : ¬ max a5 y = a5) :
    Calls Tryz.prog 14 #[.agg #[.int .i64 a1, .int .i64 a2, .int .i64 a3, .int .i64 a4, .int .i64 a5, .int .i64 a6], .agg #[.int .i64 x, .int .i64 y, .int .i64 z]] w fun en w' => en = .returned (.bool false) ∧ Below w.heap.size w w' := by
  have KA := Lib.hid (fun w => box_Right a1 a2 a3 a4 a5 a6 w)
  rw [h] at KA
  clear h
  have KL := Lib.hid (fun w => box_lowest a1 a2 a3 x y z w)
  rw [e1] at KL
  clear e1
  rw [e2] at KL
  clear e2
  rw [e3] at KL
  clear e3
  have KH := Lib.hid (fun w => box_highest a4 a5 a6 x y z w)
  rw [e4] at KH
  clear e4
  generalize max a5 y = m5 at *
  generalize max a6 z = m6 at *
  go_enter Tryz.func14, Tryz.ntmps14
  go_upto_region 1 with (fail)
  obtain ⟨W1, hW1⟩ : ∃ W, W = (w.alloc (.cells #[.int .i64 a1, .int .i64 a2, .int .i64 a3, .int .i64 a4, .int .i64 a5, .int .i64 a6] 36)).alloc (.cells #[.int .i64 x, .int .i64 y, .int .i64 z] 23) := ⟨_, rfl⟩
  obtain ⟨k_b, k_v, B1⟩ := st2 hW1
  rw [← hW1]
  clear hW1
  have l_v : w.heap.size < w.heap.size + 1 := by omega
  generalize w.heap.size + 1 = g_v at *
  obtain ⟨c_b_0, c_b_1, c_b_2, c_b_3, c_b_4, c_b_5⟩ := bwc6 (k_b)
  obtain ⟨c_v_0, c_v_1, c_v_2⟩ := bwc3 (k_v)
  obtain ⟨p1, hp1⟩ : ∃ p : BW W1, p.w = W1 := ⟨BW.start W1, rfl⟩
  rw [← hp1]
  clear hp1
  refine wp_region_bw (by kernel_rfl) (by kernel_rfl) ?_
  repeat (go_big_quiet_step (first
    | (go_at_call 10; (first | (with_reducible exact bw_call KA.out _)))
    | (go_at_call 29; (first | (with_reducible exact bw_call KL.out _)))
    | (go_at_call 37; (first | (with_reducible exact bw_call KH.out _)))))
  refine wpQuiet_nil ?_
  intro _ hw'
  obtain ⟨q, rfl⟩ := hw'
  go_wp2
  go_ret
  exact ⟨rfl, bw_below B1 _⟩

set_option maxRecDepth 100000 in
set_option maxHeartbeats 4000000 in
theorem box_Has_h3 (a1 a2 a3 a4 a5 a6 x y z : Int) (w : World) (h : bRight ((a1, a2, a3), (a4, a5, a6)) = true) (e1 : min a1 x = a1) (e2 : min a2 y = a2) (e3 : min a3 z = a3) (e4 : max a4 x = a4) (e5 : max a5 y = a5) (e6 : ¬ max a6 z = a6) :
    Calls Tryz.prog 14 #[.agg #[.int .i64 a1, .int .i64 a2, .int .i64 a3, .int .i64 a4, .int .i64 a5, .int .i64 a6], .agg #[.int .i64 x, .int .i64 y, .int .i64 z]] w fun en w' => en = .returned (.bool false) ∧ Below w.heap.size w w' := by
  have KA := Lib.hid (fun w => box_Right a1 a2 a3 a4 a5 a6 w)
  rw [h] at KA
  clear h
  have KL := Lib.hid (fun w => box_lowest a1 a2 a3 x y z w)
  rw [e1] at KL
  clear e1
  rw [e2] at KL
  clear e2
  rw [e3] at KL
  clear e3
  have KH := Lib.hid (fun w => box_highest a4 a5 a6 x y z w)
  rw [e4] at KH
  clear e4
  rw [e5] at KH
  clear e5
  generalize max a6 z = m6 at *
  go_enter Tryz.func14, Tryz.ntmps14
  go_upto_region 1 with (fail)
  obtain ⟨W1, hW1⟩ : ∃ W, W = (w.alloc (.cells #[.int .i64 a1, .int .i64 a2, .int .i64 a3, .int .i64 a4, .int .i64 a5, .int .i64 a6] 36)).alloc (.cells #[.int .i64 x, .int .i64 y, .int .i64 z] 23) := ⟨_, rfl⟩
  obtain ⟨k_b, k_v, B1⟩ := st2 hW1
  rw [← hW1]
  clear hW1
  have l_v : w.heap.size < w.heap.size + 1 := by omega
  generalize w.heap.size + 1 = g_v at *
  obtain ⟨c_b_0, c_b_1, c_b_2, c_b_3, c_b_4, c_b_5⟩ := bwc6 (k_b)
  obtain ⟨c_v_0, c_v_1, c_v_2⟩ := bwc3 (k_v)
  obtain ⟨p1, hp1⟩ : ∃ p : BW W1, p.w = W1 := ⟨BW.start W1, rfl⟩
  rw [← hp1]
  clear hp1
  refine wp_region_bw (by kernel_rfl) (by kernel_rfl) ?_
  repeat (go_big_quiet_step (first
    | (go_at_call 10; (first | (with_reducible exact bw_call KA.out _)))
    | (go_at_call 29; (first | (with_reducible exact bw_call KL.out _)))
    | (go_at_call 37; (first | (with_reducible exact bw_call KH.out _)))))
  refine wpQuiet_nil ?_
  intro _ hw'
  obtain ⟨q, rfl⟩ := hw'
  go_wp2
  go_ret
  exact ⟨rfl, bw_below B1 _⟩

set_option maxRecDepth 100000 in
set_option maxHeartbeats 4000000 in
theorem box_Has_all (a1 a2 a3 a4 a5 a6 x y z : Int) (w : World) (h : bRight ((a1, a2, a3), (a4, a5, a6)) = true) (e1 : min a1 x = a1) (e2 : min a2 y = a2) (e3 : min a3 z = a3) (e4 : max a4 x = a4) (e5 : max a5 y = a5) (e6 : max a6 z = a6) :
    Calls Tryz.prog 14 #[.agg #[.int .i64 a1, .int .i64 a2, .int .i64 a3, .int .i64 a4, .int .i64 a5, .int .i64 a6], .agg #[.int .i64 x, .int .i64 y, .int .i64 z]] w fun en w' => en = .returned (.bool true) ∧ Below w.heap.size w w' := by
  have KA := Lib.hid (fun w => box_Right a1 a2 a3 a4 a5 a6 w)
  rw [h] at KA
  clear h
  have KL := Lib.hid (fun w => box_lowest a1 a2 a3 x y z w)
  rw [e1] at KL
  clear e1
  rw [e2] at KL
  clear e2
  rw [e3] at KL
  clear e3
  have KH := Lib.hid (fun w => box_highest a4 a5 a6 x y z w)
  rw [e4] at KH
  clear e4
  rw [e5] at KH
  clear e5
  rw [e6] at KH
  clear e6
  go_enter Tryz.func14, Tryz.ntmps14
  go_upto_region 1 with (fail)
  obtain ⟨W1, hW1⟩ : ∃ W, W = (w.alloc (.cells #[.int .i64 a1, .int .i64 a2, .int .i64 a3, .int .i64 a4, .int .i64 a5, .int .i64 a6] 36)).alloc (.cells #[.int .i64 x, .int .i64 y, .int .i64 z] 23) := ⟨_, rfl⟩
  obtain ⟨k_b, k_v, B1⟩ := st2 hW1
  rw [← hW1]
  clear hW1
  have l_v : w.heap.size < w.heap.size + 1 := by omega
  generalize w.heap.size + 1 = g_v at *
  obtain ⟨c_b_0, c_b_1, c_b_2, c_b_3, c_b_4, c_b_5⟩ := bwc6 (k_b)
  obtain ⟨c_v_0, c_v_1, c_v_2⟩ := bwc3 (k_v)
  obtain ⟨p1, hp1⟩ : ∃ p : BW W1, p.w = W1 := ⟨BW.start W1, rfl⟩
  rw [← hp1]
  clear hp1
  refine wp_region_bw (by kernel_rfl) (by kernel_rfl) ?_
  repeat (go_big_quiet_step (first
    | (go_at_call 10; (first | (with_reducible exact bw_call KA.out _)))
    | (go_at_call 29; (first | (with_reducible exact bw_call KL.out _)))
    | (go_at_call 37; (first | (with_reducible exact bw_call KH.out _)))))
  refine wpQuiet_nil ?_
  intro _ hw'
  obtain ⟨q, rfl⟩ := hw'
  go_wp2
  go_ret
  exact ⟨rfl, bw_below B1 _⟩

theorem box_Has (a1 a2 a3 a4 a5 a6 x y z : Int) (w : World) :
    Calls Tryz.prog 14 #[.agg #[.int .i64 a1, .int .i64 a2, .int .i64 a3, .int .i64 a4, .int .i64 a5, .int .i64 a6], .agg #[.int .i64 x, .int .i64 y, .int .i64 z]] w fun en w' => en = .returned (.bool (bHas ((a1, a2, a3), (a4, a5, a6)) (x, y, z))) ∧ Below w.heap.size w w' := by
  unfold bHas
  dsimp only
  cases h : bRight ((a1, a2, a3), (a4, a5, a6)) with
  | false => exact box_Has_no a1 a2 a3 a4 a5 a6 x y z w h
  | true =>
    rw [Bool.true_and]
    by_cases e1 : min a1 x = a1
    · by_cases e2 : min a2 y = a2
      · by_cases e3 : min a3 z = a3
        · by_cases e4 : max a4 x = a4
          · by_cases e5 : max a5 y = a5
            · by_cases e6 : max a6 z = a6
              · rw [decide_eq_true (by omega)]; exact box_Has_all a1 a2 a3 a4 a5 a6 x y z w h e1 e2 e3 e4 e5 e6
              · rw [decide_eq_false (by omega)]; exact box_Has_h3 a1 a2 a3 a4 a5 a6 x y z w h e1 e2 e3 e4 e5 e6
            · rw [decide_eq_false (by omega)]; exact box_Has_h2 a1 a2 a3 a4 a5 a6 x y z w h e1 e2 e3 e4 e5
          · rw [decide_eq_false (by omega)]; exact box_Has_h1 a1 a2 a3 a4 a5 a6 x y z w h e1 e2 e3 e4
        · rw [decide_eq_false (by omega)]; exact box_Has_l3 a1 a2 a3 a4 a5 a6 x y z w h e1 e2 e3
      · rw [decide_eq_false (by omega)]; exact box_Has_l2 a1 a2 a3 a4 a5 a6 x y z w h e1 e2
    · rw [decide_eq_false (by omega)]; exact box_Has_l1 a1 a2 a3 a4 a5 a6 x y z w h e1

end Go.Proofs.YtdmfmdekcojjbaaGreat
