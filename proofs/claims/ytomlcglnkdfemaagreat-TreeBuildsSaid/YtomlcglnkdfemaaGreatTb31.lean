/- Contracts of package box: the exported functions but Hit. -/
import Derived.Test.YtomlcglnkdfemaaGreatTb30


namespace Go.Proofs.YtomlcglnkdfemaaGreat
section

open Go.RowKit Go.Proofs.Sky

set_option linter.unusedVariables false

theorem vsub_in {x a : Int} (h : -4194304 ≤ x ∧ x ≤ 4194304) (g : -4194304 ≤ a ∧ a ≤ 4194304) : vsub x a = x - a := by
  unfold vsub sat
  (repeat' split) <;> omega

theorem sat_in {x : Int} (h : -8388608 ≤ x ∧ x ≤ 8388608) : sat x = x := by
  unfold sat
  rw [if_neg (by omega), if_neg (by omega)]

theorem mul_in {x y : Int} (hx : 0 ≤ x ∧ x ≤ 2097152) (hy : 0 ≤ y ∧ y ≤ 2097152) : 0 ≤ x * y ∧ x * y ≤ 4398046511104 := by
  have a := Int.mul_nonneg hx.1 hy.1
  have b := Int.mul_le_mul hx.2 hy.2 hy.1 (by omega)
  omega

set_option maxRecDepth 100000 in
set_option maxHeartbeats 4000000 in
theorem box_Right_lo (a1 a2 a3 a4 a5 a6 : Int) (w : World) (h1 : vnear a1 a2 a3 = false) :
    Calls Tryz.prog 48 #[.agg #[.int .i64 a1, .int .i64 a2, .int .i64 a3, .int .i64 a4, .int .i64 a5, .int .i64 a6]] w fun en w' => en = .returned (.bool false) ∧ Below w.heap.size w w' := by
  have KN1 := Lib.hid (fun w => vec_Near a1 a2 a3 w)
  rw [h1] at KN1
  clear h1
  go_enter Tryz.func48, Tryz.ntmps48
  go_upto_region 1 with (fail)
  obtain ⟨W1, hW1⟩ : ∃ W, W = w.alloc (.cells #[.int .i64 a1, .int .i64 a2, .int .i64 a3, .int .i64 a4, .int .i64 a5, .int .i64 a6] 41) := ⟨_, rfl⟩
  obtain ⟨k_b, B1⟩ := st1 hW1
  rw [← hW1]
  clear hW1
  obtain ⟨c_b_0, c_b_1, c_b_2, c_b_3, c_b_4, c_b_5⟩ := bwc6 (k_b)
  obtain ⟨p1, hp1⟩ : ∃ p : BW W1, p.w = W1 := ⟨BW.start W1, rfl⟩
  rw [← hp1]
  clear hp1
  refine wp_region_bw (by kernel_rfl) (by kernel_rfl) ?_
  repeat (go_big_quiet_step (first
    | (go_at_call 60; (first | (with_reducible exact bw_call KN1.out _)))))
  refine wpQuiet_nil ?_
  intro _ hw'
  obtain ⟨q, rfl⟩ := hw'
  go_wp2
  go_ret
  exact ⟨rfl, bw_below B1 _⟩

set_option maxRecDepth 100000 in
set_option maxHeartbeats 4000000 in
theorem box_Right_hi (a1 a2 a3 a4 a5 a6 : Int) (w : World) (h1 : vnear a1 a2 a3 = true) (h2 : vnear a4 a5 a6 = false) :
    Calls Tryz.prog 48 #[.agg #[.int .i64 a1, .int .i64 a2, .int .i64 a3, .int .i64 a4, .int .i64 a5, .int .i64 a6]] w fun en w' => en = .returned (.bool false) ∧ Below w.heap.size w w' := by
  have KN1 := Lib.hid (fun w => vec_Near a1 a2 a3 w)
  rw [h1] at KN1
  have KN2 := Lib.hid (fun w => vec_Near a4 a5 a6 w)
  rw [h2] at KN2
  clear h1 h2
  go_enter Tryz.func48, Tryz.ntmps48
  go_upto_region 1 with (fail)
  obtain ⟨W1, hW1⟩ : ∃ W, W = w.alloc (.cells #[.int .i64 a1, .int .i64 a2, .int .i64 a3, .int .i64 a4, .int .i64 a5, .int .i64 a6] 41) := ⟨_, rfl⟩
  obtain ⟨k_b, B1⟩ := st1 hW1
  rw [← hW1]
  clear hW1
  obtain ⟨c_b_0, c_b_1, c_b_2, c_b_3, c_b_4, c_b_5⟩ := bwc6 (k_b)
  obtain ⟨p1, hp1⟩ : ∃ p : BW W1, p.w = W1 := ⟨BW.start W1, rfl⟩
  rw [← hp1]
  clear hp1
  refine wp_region_bw (by kernel_rfl) (by kernel_rfl) ?_
  repeat (go_big_quiet_step (first
    | (go_at_call 60; (first | (with_reducible exact bw_call KN1.out _) | (with_reducible exact bw_call KN2.out _)))))
  refine wpQuiet_nil ?_
  intro _ hw'
  obtain ⟨q, rfl⟩ := hw'
  go_wp2
  go_ret
  exact ⟨rfl, bw_below B1 _⟩

set_option maxRecDepth 100000 in
set_option maxHeartbeats 4000000 in
theorem box_Right_x (a1 a2 a3 a4 a5 a6 : Int) (w : World) (h1 : vnear a1 a2 a3 = true) (h2 : vnear a4 a5 a6 = true) (e1 : ¬ min a1 a4 = a1) :
    Calls Tryz.prog 48 #[.agg #[.int .i64 a1, .int .i64 a2, .int .i64 a3, .int .i64 a4, .int .i64 a5, .int .i64 a6]] w fun en w' => en = .returned (.bool false) ∧ Below w.heap.size w w' := by
  have KN1 := Lib.hid (fun w => vec_Near a1 a2 a3 w)
  rw [h1] at KN1
  have KN2 := Lib.hid (fun w => vec_Near a4 a5 a6 w)
  rw [h2] at KN2
  have KL := Lib.hid (fun w => box_lowest a1 a2 a3 a4 a5 a6 w)
  generalize min a1 a4 = m1 at *
  generalize min a2 a5 = m2 at *
  generalize min a3 a6 = m3 at *
  clear h1 h2
  go_enter Tryz.func48, Tryz.ntmps48
  go_upto_region 1 with (fail)
  obtain ⟨W1, hW1⟩ : ∃ W, W = w.alloc (.cells #[.int .i64 a1, .int .i64 a2, .int .i64 a3, .int .i64 a4, .int .i64 a5, .int .i64 a6] 41) := ⟨_, rfl⟩
  obtain ⟨k_b, B1⟩ := st1 hW1
  rw [← hW1]
  clear hW1
  obtain ⟨c_b_0, c_b_1, c_b_2, c_b_3, c_b_4, c_b_5⟩ := bwc6 (k_b)
  obtain ⟨p1, hp1⟩ : ∃ p : BW W1, p.w = W1 := ⟨BW.start W1, rfl⟩
  rw [← hp1]
  clear hp1
  refine wp_region_bw (by kernel_rfl) (by kernel_rfl) ?_
  repeat (go_big_quiet_step (first
    | (go_at_call 60; (first | (with_reducible exact bw_call KN1.out _) | (with_reducible exact bw_call KN2.out _)))
    | (go_at_call 49; (first | (with_reducible exact bw_call KL.out _)))))
  refine wpQuiet_nil ?_
  intro _ hw'
  obtain ⟨q, rfl⟩ := hw'
  go_wp2
  go_ret
  exact ⟨rfl, bw_below B1 _⟩

set_option maxRecDepth 100000 in
set_option maxHeartbeats 4000000 in
theorem box_Right_y (a1 a2 a3 a4 a5 a6 : Int) (w : World) (h1 : vnear a1 a2 a3 = true) (h2 : vnear a4 a5 a6 = true) (e1 : min a1 a4 = a1) (e2 : ¬ min a2 a5 = a2) :
    Calls Tryz.prog 48 #[.agg #[.int .i64 a1, .int .i64 a2, .int .i64 a3, .int .i64 a4, .int .i64 a5, .int .i64 a6]] w fun en w' => en = .returned (.bool false) ∧ Below w.heap.size w w' := by
  have KN1 := Lib.hid (fun w => vec_Near a1 a2 a3 w)
  rw [h1] at KN1
  have KN2 := Lib.hid (fun w => vec_Near a4 a5 a6 w)
  rw [h2] at KN2
  have KL := Lib.hid (fun w => box_lowest a1 a2 a3 a4 a5 a6 w)
  rw [e1] at KL
  generalize min a2 a5 = m2 at *
  generalize min a3 a6 = m3 at *
  clear e1
  clear h1 h2
  go_enter Tryz.func48, Tryz.ntmps48
  go_upto_region 1 with (fail)
  obtain ⟨W1, hW1⟩ : ∃ W, W = w.alloc (.cells #[.int .i64 a1, .int .i64 a2, .int .i64 a3, .int .i64 a4, .int .i64 a5, .int .i64 a6] 41) := ⟨_, rfl⟩
  obtain ⟨k_b, B1⟩ := st1 hW1
  rw [← hW1]
  clear hW1
  obtain ⟨c_b_0, c_b_1, c_b_2, c_b_3, c_b_4, c_b_5⟩ := bwc6 (k_b)
  obtain ⟨p1, hp1⟩ : ∃ p : BW W1, p.w = W1 := ⟨BW.start W1, rfl⟩
  rw [← hp1]
  clear hp1
  refine wp_region_bw (by kernel_rfl) (by kernel_rfl) ?_
  repeat (go_big_quiet_step (first
    | (go_at_call 60; (first | (with_reducible exact bw_call KN1.out _) | (with_reducible exact bw_call KN2.out _)))
    | (go_at_call 49; (first | (with_reducible exact bw_call KL.out _)))))
  refine wpQuiet_nil ?_
  intro _ hw'
  obtain ⟨q, rfl⟩ := hw'
  go_wp2
  go_ret
  exact ⟨rfl, bw_below B1 _⟩

set_option maxRecDepth 100000 in
set_option maxHeartbeats 4000000 in
theorem box_Right_z (a1 a2 a3 a4 a5 a6 : Int) (w : World) (h1 : vnear a1 a2 a3 = true) (h2 : vnear a4 a5 a6 = true) (e1 : min a1 a4 = a1) (e2 : min a2 a5 = a2) (e3 : ¬ min a3 a6 = a3) :
    Calls Tryz.prog 48 #[.agg #[.int .i64 a1, .int .i64 a2, .int .i64 a3, .int .i64 a4, .int .i64 a5, .int .i64 a6]] w fun en w' => en = .returned (.bool false) ∧ Below w.heap.size w w' := by
  have KN1 := Lib.hid (fun w => vec_Near a1 a2 a3 w)
  rw [h1] at KN1
  have KN2 := Lib.hid (fun w => vec_Near a4 a5 a6 w)
  rw [h2] at KN2
  have KL := Lib.hid (fun w => box_lowest a1 a2 a3 a4 a5 a6 w)
  rw [e1] at KL
  rw [e2] at KL
  generalize min a3 a6 = m3 at *
  clear e1 e2
  clear h1 h2
  go_enter Tryz.func48, Tryz.ntmps48
  go_upto_region 1 with (fail)
  obtain ⟨W1, hW1⟩ : ∃ W, W = w.alloc (.cells #[.int .i64 a1, .int .i64 a2, .int .i64 a3, .int .i64 a4, .int .i64 a5, .int .i64 a6] 41) := ⟨_, rfl⟩
  obtain ⟨k_b, B1⟩ := st1 hW1
  rw [← hW1]
  clear hW1
  obtain ⟨c_b_0, c_b_1, c_b_2, c_b_3, c_b_4, c_b_5⟩ := bwc6 (k_b)
  obtain ⟨p1, hp1⟩ : ∃ p : BW W1, p.w = W1 := ⟨BW.start W1, rfl⟩
  rw [← hp1]
  clear hp1
  refine wp_region_bw (by kernel_rfl) (by kernel_rfl) ?_
  repeat (go_big_quiet_step (first
    | (go_at_call 60; (first | (with_reducible exact bw_call KN1.out _) | (with_reducible exact bw_call KN2.out _)))
    | (go_at_call 49; (first | (with_reducible exact bw_call KL.out _)))))
  refine wpQuiet_nil ?_
  intro _ hw'
  obtain ⟨q, rfl⟩ := hw'
  go_wp2
  go_ret
  exact ⟨rfl, bw_below B1 _⟩

set_option maxRecDepth 100000 in
set_option maxHeartbeats 4000000 in
theorem box_Right_all (a1 a2 a3 a4 a5 a6 : Int) (w : World) (h1 : vnear a1 a2 a3 = true) (h2 : vnear a4 a5 a6 = true) (e1 : min a1 a4 = a1) (e2 : min a2 a5 = a2) (e3 : min a3 a6 = a3) :
    Calls Tryz.prog 48 #[.agg #[.int .i64 a1, .int .i64 a2, .int .i64 a3, .int .i64 a4, .int .i64 a5, .int .i64 a6]] w fun en w' => en = .returned (.bool true) ∧ Below w.heap.size w w' := by
  have KN1 := Lib.hid (fun w => vec_Near a1 a2 a3 w)
  rw [h1] at KN1
  have KN2 := Lib.hid (fun w => vec_Near a4 a5 a6 w)
  rw [h2] at KN2
  have KL := Lib.hid (fun w => box_lowest a1 a2 a3 a4 a5 a6 w)
  rw [e1] at KL
  rw [e2] at KL
  rw [e3] at KL
  clear e1 e2 e3
  clear h1 h2
  go_enter Tryz.func48, Tryz.ntmps48
  go_upto_region 1 with (fail)
  obtain ⟨W1, hW1⟩ : ∃ W, W = w.alloc (.cells #[.int .i64 a1, .int .i64 a2, .int .i64 a3, .int .i64 a4, .int .i64 a5, .int .i64 a6] 41) := ⟨_, rfl⟩
  obtain ⟨k_b, B1⟩ := st1 hW1
  rw [← hW1]
  clear hW1
  obtain ⟨c_b_0, c_b_1, c_b_2, c_b_3, c_b_4, c_b_5⟩ := bwc6 (k_b)
  obtain ⟨p1, hp1⟩ : ∃ p : BW W1, p.w = W1 := ⟨BW.start W1, rfl⟩
  rw [← hp1]
  clear hp1
  refine wp_region_bw (by kernel_rfl) (by kernel_rfl) ?_
  repeat (go_big_quiet_step (first
    | (go_at_call 60; (first | (with_reducible exact bw_call KN1.out _) | (with_reducible exact bw_call KN2.out _)))
    | (go_at_call 49; (first | (with_reducible exact bw_call KL.out _)))))
  refine wpQuiet_nil ?_
  intro _ hw'
  obtain ⟨q, rfl⟩ := hw'
  go_wp2
  go_ret
  exact ⟨rfl, bw_below B1 _⟩

theorem box_Right (a1 a2 a3 a4 a5 a6 : Int) (w : World) :
    Calls Tryz.prog 48 #[.agg #[.int .i64 a1, .int .i64 a2, .int .i64 a3, .int .i64 a4, .int .i64 a5, .int .i64 a6]] w fun en w' => en = .returned (.bool (bRight ((a1, a2, a3), (a4, a5, a6)))) ∧ Below w.heap.size w w' := by
  unfold bRight nrT
  dsimp only
  cases h1 : vnear a1 a2 a3 with
  | false => exact box_Right_lo a1 a2 a3 a4 a5 a6 w h1
  | true =>
    cases h2 : vnear a4 a5 a6 with
    | false => exact box_Right_hi a1 a2 a3 a4 a5 a6 w h1 h2
    | true =>
      rw [Bool.true_and, Bool.true_and]
      by_cases e1 : min a1 a4 = a1
      · by_cases e2 : min a2 a5 = a2
        · by_cases e3 : min a3 a6 = a3
          · rw [decide_eq_true (by omega)]; exact box_Right_all a1 a2 a3 a4 a5 a6 w h1 h2 e1 e2 e3
          · rw [decide_eq_false (by omega)]; exact box_Right_z a1 a2 a3 a4 a5 a6 w h1 h2 e1 e2 e3
        · rw [decide_eq_false (by omega)]; exact box_Right_y a1 a2 a3 a4 a5 a6 w h1 h2 e1 e2
      · rw [decide_eq_false (by omega)]; exact box_Right_x a1 a2 a3 a4 a5 a6 w h1 h2 e1

set_option maxRecDepth 100000 in
set_option maxHeartbeats 4000000 in
theorem box_Join_noa (a1 a2 a3 a4 a5 a6 b1 b2 b3 b4 b5 b6 : Int) (w : World) (h1 : bRight ((a1, a2, a3), (a4, a5, a6)) = false) :
    Calls Tryz.prog 29 #[.agg #[.int .i64 a1, .int .i64 a2, .int .i64 a3, .int .i64 a4, .int .i64 a5, .int .i64 a6], .agg #[.int .i64 b1, .int .i64 b2, .int .i64 b3, .int .i64 b4, .int .i64 b5, .int .i64 b6]] w fun en w' => en = .returned (.agg #[.int .i64 0, .int .i64 0, .int .i64 0, .int .i64 0, .int .i64 0, .int .i64 0]) ∧ Below w.heap.size w w' := by
  have KA := Lib.hid (fun w => box_Right a1 a2 a3 a4 a5 a6 w)
  rw [h1] at KA
  clear h1
  go_enter Tryz.func29, Tryz.ntmps29
  go_upto_region 1 with (fail)
  obtain ⟨W1, hW1⟩ : ∃ W, W = ((w.alloc (.cells #[.int .i64 a1, .int .i64 a2, .int .i64 a3, .int .i64 a4, .int .i64 a5, .int .i64 a6] 41)).alloc (.cells #[.int .i64 b1, .int .i64 b2, .int .i64 b3, .int .i64 b4, .int .i64 b5, .int .i64 b6] 41)).alloc (.cells #[.int .i64 0, .int .i64 0, .int .i64 0, .int .i64 0, .int .i64 0, .int .i64 0] 41) := ⟨_, rfl⟩
  obtain ⟨k_a, k_b, k_r, B1⟩ := st3 hW1
  rw [← hW1]
  clear hW1
  have l_b : w.heap.size < w.heap.size + 1 := by omega
  have l_r : w.heap.size + 1 < w.heap.size + 1 + 1 := by omega
  generalize w.heap.size + 1 + 1 = g_r at *
  generalize w.heap.size + 1 = g_b at *
  obtain ⟨c_a_0, c_a_1, c_a_2, c_a_3, c_a_4, c_a_5⟩ := bwc6 (k_a)
  obtain ⟨c_b_0, c_b_1, c_b_2, c_b_3, c_b_4, c_b_5⟩ := bwc6 (k_b)
  obtain ⟨c_r_0, c_r_1, c_r_2, c_r_3, c_r_4, c_r_5⟩ := bwc6 (k_r)
  obtain ⟨f_r_0, f_r_1, f_r_2, f_r_3, f_r_4, f_r_5⟩ := bwf6 (k_r)
  obtain ⟨p1, hp1⟩ : ∃ p : BW W1, p.w = W1 := ⟨BW.start W1, rfl⟩
  rw [← hp1]
  clear hp1
  go_wp2_with (first
    | (go_at_call 48; (first | (with_reducible refine (bw_call KA.out _).mono ?_)); rintro e w' ⟨rfl, q, rfl⟩))
  have kr := bkp6 (k_r.below q.h) (.int .i64 0) (.int .i64 0) (.int .i64 0) (.int .i64 0) (.int .i64 0) (.int .i64 0)
  obtain ⟨rc0, rc1, rc2, rc3, rc4, rc5⟩ := rwc6 kr
  exact bodyPost_ret (v := .agg #[.int .i64 0, .int .i64 0, .int .i64 0, .int .i64 0, .int .i64 0, .int .i64 0]) (by simp [results, Tryz.results29, go_sem, rc0, rc1, rc2, rc3, rc4, rc5]) rfl ⟨rfl, blp6 (bw_below B1 q) (by omega)⟩

set_option maxRecDepth 100000 in
set_option maxHeartbeats 4000000 in
theorem box_Join_nob (a1 a2 a3 a4 a5 a6 b1 b2 b3 b4 b5 b6 : Int) (w : World) (h1 : bRight ((a1, a2, a3), (a4, a5, a6)) = true) (h2 : bRight ((b1, b2, b3), (b4, b5, b6)) = false) :
    Calls Tryz.prog 29 #[.agg #[.int .i64 a1, .int .i64 a2, .int .i64 a3, .int .i64 a4, .int .i64 a5, .int .i64 a6], .agg #[.int .i64 b1, .int .i64 b2, .int .i64 b3, .int .i64 b4, .int .i64 b5, .int .i64 b6]] w fun en w' => en = .returned (.agg #[.int .i64 0, .int .i64 0, .int .i64 0, .int .i64 0, .int .i64 0, .int .i64 0]) ∧ Below w.heap.size w w' := by
  have KA := Lib.hid (fun w => box_Right a1 a2 a3 a4 a5 a6 w)
  rw [h1] at KA
  have KB := Lib.hid (fun w => box_Right b1 b2 b3 b4 b5 b6 w)
  rw [h2] at KB
  clear h1 h2
  go_enter Tryz.func29, Tryz.ntmps29
  go_upto_region 1 with (fail)
  obtain ⟨W1, hW1⟩ : ∃ W, W = ((w.alloc (.cells #[.int .i64 a1, .int .i64 a2, .int .i64 a3, .int .i64 a4, .int .i64 a5, .int .i64 a6] 41)).alloc (.cells #[.int .i64 b1, .int .i64 b2, .int .i64 b3, .int .i64 b4, .int .i64 b5, .int .i64 b6] 41)).alloc (.cells #[.int .i64 0, .int .i64 0, .int .i64 0, .int .i64 0, .int .i64 0, .int .i64 0] 41) := ⟨_, rfl⟩
  obtain ⟨k_a, k_b, k_r, B1⟩ := st3 hW1
  rw [← hW1]
  clear hW1
  have l_b : w.heap.size < w.heap.size + 1 := by omega
  have l_r : w.heap.size + 1 < w.heap.size + 1 + 1 := by omega
  generalize w.heap.size + 1 + 1 = g_r at *
  generalize w.heap.size + 1 = g_b at *
  obtain ⟨c_a_0, c_a_1, c_a_2, c_a_3, c_a_4, c_a_5⟩ := bwc6 (k_a)
  obtain ⟨c_b_0, c_b_1, c_b_2, c_b_3, c_b_4, c_b_5⟩ := bwc6 (k_b)
  obtain ⟨c_r_0, c_r_1, c_r_2, c_r_3, c_r_4, c_r_5⟩ := bwc6 (k_r)
  obtain ⟨f_r_0, f_r_1, f_r_2, f_r_3, f_r_4, f_r_5⟩ := bwf6 (k_r)
  obtain ⟨p1, hp1⟩ : ∃ p : BW W1, p.w = W1 := ⟨BW.start W1, rfl⟩
  rw [← hp1]
  clear hp1
  go_wp2_with (first
    | (go_at_call 48; (first | (with_reducible refine (bw_call KA.out _).mono ?_) | (with_reducible refine (bw_call KB.out _).mono ?_)); rintro e w' ⟨rfl, q, rfl⟩))
  have kr := bkp6 (k_r.below q.h) (.int .i64 0) (.int .i64 0) (.int .i64 0) (.int .i64 0) (.int .i64 0) (.int .i64 0)
  obtain ⟨rc0, rc1, rc2, rc3, rc4, rc5⟩ := rwc6 kr
  exact bodyPost_ret (v := .agg #[.int .i64 0, .int .i64 0, .int .i64 0, .int .i64 0, .int .i64 0, .int .i64 0]) (by simp [results, Tryz.results29, go_sem, rc0, rc1, rc2, rc3, rc4, rc5]) rfl ⟨rfl, blp6 (bw_below B1 q) (by omega)⟩

set_option maxRecDepth 100000 in
set_option maxHeartbeats 4000000 in
theorem box_Join_yes (a1 a2 a3 a4 a5 a6 b1 b2 b3 b4 b5 b6 : Int) (w : World) (h1 : bRight ((a1, a2, a3), (a4, a5, a6)) = true) (h2 : bRight ((b1, b2, b3), (b4, b5, b6)) = true) :
    Calls Tryz.prog 29 #[.agg #[.int .i64 a1, .int .i64 a2, .int .i64 a3, .int .i64 a4, .int .i64 a5, .int .i64 a6], .agg #[.int .i64 b1, .int .i64 b2, .int .i64 b3, .int .i64 b4, .int .i64 b5, .int .i64 b6]] w fun en w' => en = .returned (.agg #[.int .i64 (min a1 b1), .int .i64 (min a2 b2), .int .i64 (min a3 b3), .int .i64 (max a4 b4), .int .i64 (max a5 b5), .int .i64 (max a6 b6)]) ∧ Below w.heap.size w w' := by
  have KA := Lib.hid (fun w => box_Right a1 a2 a3 a4 a5 a6 w)
  rw [h1] at KA
  have KB := Lib.hid (fun w => box_Right b1 b2 b3 b4 b5 b6 w)
  rw [h2] at KB
  clear h1 h2
  have KL := Lib.hid (fun w => box_lowest a1 a2 a3 b1 b2 b3 w)
  have KH := Lib.hid (fun w => box_highest a4 a5 a6 b4 b5 b6 w)
  generalize min a1 b1 = m1 at *
  generalize min a2 b2 = m2 at *
  generalize min a3 b3 = m3 at *
  generalize max a4 b4 = m4 at *
  generalize max a5 b5 = m5 at *
  generalize max a6 b6 = m6 at *
  go_enter Tryz.func29, Tryz.ntmps29
  go_upto_region 1 with (fail)
  obtain ⟨W1, hW1⟩ : ∃ W, W = ((w.alloc (.cells #[.int .i64 a1, .int .i64 a2, .int .i64 a3, .int .i64 a4, .int .i64 a5, .int .i64 a6] 41)).alloc (.cells #[.int .i64 b1, .int .i64 b2, .int .i64 b3, .int .i64 b4, .int .i64 b5, .int .i64 b6] 41)).alloc (.cells #[.int .i64 0, .int .i64 0, .int .i64 0, .int .i64 0, .int .i64 0, .int .i64 0] 41) := ⟨_, rfl⟩
  obtain ⟨k_a, k_b, k_r, B1⟩ := st3 hW1
  rw [← hW1]
  clear hW1
  have l_b : w.heap.size < w.heap.size + 1 := by omega
  have l_r : w.heap.size + 1 < w.heap.size + 1 + 1 := by omega
  generalize w.heap.size + 1 + 1 = g_r at *
  generalize w.heap.size + 1 = g_b at *
  obtain ⟨c_a_0, c_a_1, c_a_2, c_a_3, c_a_4, c_a_5⟩ := bwc6 (k_a)
  obtain ⟨c_b_0, c_b_1, c_b_2, c_b_3, c_b_4, c_b_5⟩ := bwc6 (k_b)
  obtain ⟨c_r_0, c_r_1, c_r_2, c_r_3, c_r_4, c_r_5⟩ := bwc6 (k_r)
  obtain ⟨f_r_0, f_r_1, f_r_2, f_r_3, f_r_4, f_r_5⟩ := bwf6 (k_r)
  obtain ⟨p1, hp1⟩ : ∃ p : BW W1, p.w = W1 := ⟨BW.start W1, rfl⟩
  rw [← hp1]
  clear hp1
  go_upto_region 3 with (first
    | (go_at_call 48; (first | (with_reducible refine (bw_call KA.out _).mono ?_) | (with_reducible refine (bw_call KB.out _).mono ?_)); rintro e w' ⟨rfl, q, rfl⟩))
  refine wp_region_bw_tail 10 (by kernel_rfl) (by kernel_rfl) (by kernel_rfl) ?_
  simp only [List.take_succ_cons, List.take_zero, List.drop_succ_cons, List.drop_zero]
  repeat (go_big_quiet_step (first
    | (go_at_call 49; (first | (with_reducible exact bw_call KL.out _)))
    | (go_at_call 50; (first | (with_reducible exact bw_call KH.out _)))))
  refine wpQuiet_nil ?_
  intro _ hw'
  obtain ⟨q, rfl⟩ := hw'
  go_wp2
  have kr := bkp6 (k_r.below q.h) (.int .i64 m1) (.int .i64 m2) (.int .i64 m3) (.int .i64 m4) (.int .i64 m5) (.int .i64 m6)
  obtain ⟨rc0, rc1, rc2, rc3, rc4, rc5⟩ := rwc6 kr
  exact bodyPost_ret (v := .agg #[.int .i64 m1, .int .i64 m2, .int .i64 m3, .int .i64 m4, .int .i64 m5, .int .i64 m6]) (by simp [results, Tryz.results29, go_sem, rc0, rc1, rc2, rc3, rc4, rc5]) rfl ⟨rfl, blp6 (bw_below B1 q) (by omega)⟩

theorem box_Join (a1 a2 a3 a4 a5 a6 b1 b2 b3 b4 b5 b6 : Int) (w : World) :
    Calls Tryz.prog 29 #[.agg #[.int .i64 a1, .int .i64 a2, .int .i64 a3, .int .i64 a4, .int .i64 a5, .int .i64 a6], .agg #[.int .i64 b1, .int .i64 b2, .int .i64 b3, .int .i64 b4, .int .i64 b5, .int .i64 b6]] w fun en w' => en = .returned (.agg (bx6 (bJoin ((a1, a2, a3), (a4, a5, a6)) ((b1, b2, b3), (b4, b5, b6))))) ∧ Below w.heap.size w w' := by
  unfold bJoin
  cases h1 : bRight ((a1, a2, a3), (a4, a5, a6)) with
  | false => rw [if_neg (by simp)]; exact box_Join_noa a1 a2 a3 a4 a5 a6 b1 b2 b3 b4 b5 b6 w h1
  | true =>
    cases h2 : bRight ((b1, b2, b3), (b4, b5, b6)) with
    | false => rw [if_neg (by simp)]; exact box_Join_nob a1 a2 a3 a4 a5 a6 b1 b2 b3 b4 b5 b6 w h1 h2
    | true => rw [if_pos (by simp)]; exact box_Join_yes a1 a2 a3 a4 a5 a6 b1 b2 b3 b4 b5 b6 w h1 h2

set_option maxRecDepth 100000 in
set_option maxHeartbeats 4000000 in
theorem box_Area_no (a1 a2 a3 a4 a5 a6 : Int) (w : World) (h : bRight ((a1, a2, a3), (a4, a5, a6)) = false) :
    Calls Tryz.prog 85 #[.agg #[.int .i64 a1, .int .i64 a2, .int .i64 a3, .int .i64 a4, .int .i64 a5, .int .i64 a6]] w fun en w' => en = .returned (.int .i64 0) ∧ Below w.heap.size w w' := by
  have KA := Lib.hid (fun w => box_Right a1 a2 a3 a4 a5 a6 w)
  rw [h] at KA
  clear h
  go_enter Tryz.func85, Tryz.ntmps85
  go_upto_region 1 with (fail)
  obtain ⟨W1, hW1⟩ : ∃ W, W = w.alloc (.cells #[.int .i64 a1, .int .i64 a2, .int .i64 a3, .int .i64 a4, .int .i64 a5, .int .i64 a6] 41) := ⟨_, rfl⟩
  obtain ⟨k_b, B1⟩ := st1 hW1
  rw [← hW1]
  clear hW1
  obtain ⟨c_b_0, c_b_1, c_b_2, c_b_3, c_b_4, c_b_5⟩ := bwc6 (k_b)
  obtain ⟨p1, hp1⟩ : ∃ p : BW W1, p.w = W1 := ⟨BW.start W1, rfl⟩
  rw [← hp1]
  clear hp1
  go_wp2_with (first
    | (go_at_call 48; (first | (with_reducible refine (bw_call KA.out _).mono ?_)); rintro e w' ⟨rfl, q, rfl⟩))
  go_ret
  exact ⟨rfl, bw_below B1 _⟩

set_option maxRecDepth 100000 in
set_option maxHeartbeats 4000000 in
theorem box_Area_yes (a1 a2 a3 a4 a5 a6 : Int) (w : World) (h : bRight ((a1, a2, a3), (a4, a5, a6)) = true) :
    Calls Tryz.prog 85 #[.agg #[.int .i64 a1, .int .i64 a2, .int .i64 a3, .int .i64 a4, .int .i64 a5, .int .i64 a6]] w fun en w' => en = .returned (.int .i64 ((a4 - a1) * (a5 - a2) + (a5 - a2) * (a6 - a3) + (a6 - a3) * (a4 - a1))) ∧ Below w.heap.size w w' := by
  have KA := Lib.hid (fun w => box_Right a1 a2 a3 a4 a5 a6 w)
  rw [h] at KA
  rw [bRight_iff, nrT_iff, nrT_iff] at h
  dsimp only at h
  have KS := Lib.hid (fun w => vec_Sub a4 a5 a6 a1 a2 a3 w (by unfold I64; omega) (by unfold I64; omega) (by unfold I64; omega) (by unfold I64; omega) (by unfold I64; omega) (by unfold I64; omega))
  rw [vsub_in (x := a4) (by omega) (by omega), vsub_in (x := a5) (by omega) (by omega), vsub_in (x := a6) (by omega) (by omega)] at KS
  obtain ⟨x, hx⟩ : ∃ x, x = a4 - a1 := ⟨_, rfl⟩
  obtain ⟨y, hy⟩ : ∃ y, y = a5 - a2 := ⟨_, rfl⟩
  obtain ⟨z, hz⟩ : ∃ z, z = a6 - a3 := ⟨_, rfl⟩
  rw [← hx, ← hy, ← hz] at KS ⊢
  have xy := mul_in (x := x) (y := y) (by omega) (by omega)
  have yz := mul_in (x := y) (y := z) (by omega) (by omega)
  have zx := mul_in (x := z) (y := x) (by omega) (by omega)
  obtain ⟨t1, h1⟩ : ∃ t, t = x * y := ⟨_, rfl⟩
  obtain ⟨t2, h2⟩ : ∃ t, t = y * z := ⟨_, rfl⟩
  obtain ⟨t3, h3⟩ : ∃ t, t = z * x := ⟨_, rfl⟩
  rw [← h1, ← h2, ← h3]
  rw [← h1] at xy
  rw [← h2] at yz
  rw [← h3] at zx
  obtain ⟨s1, g1⟩ : ∃ s, s = t1 + t2 := ⟨_, rfl⟩
  obtain ⟨s2, g2⟩ : ∃ s, s = s1 + t3 := ⟨_, rfl⟩
  rw [← g1, ← g2]
  have w1 : wrap64 (x * y) = t1 := by rw [← h1]; exact IntWalk.wrap64_in _ (by omega)
  have w2 : wrap64 (y * z) = t2 := by rw [← h2]; exact IntWalk.wrap64_in _ (by omega)
  have w3 : wrap64 (z * x) = t3 := by rw [← h3]; exact IntWalk.wrap64_in _ (by omega)
  have w4 : wrap64 (t1 + t2) = s1 := by rw [← g1]; exact IntWalk.wrap64_in _ (by omega)
  have w5 : wrap64 (s1 + t3) = s2 := by rw [← g2]; exact IntWalk.wrap64_in _ (by omega)
  clear h1 h2 h3 g1 g2
  clear hx hy hz xy yz zx
  clear h
  go_enter Tryz.func85, Tryz.ntmps85
  go_upto_region 1 with (fail)
  obtain ⟨W1, hW1⟩ : ∃ W, W = w.alloc (.cells #[.int .i64 a1, .int .i64 a2, .int .i64 a3, .int .i64 a4, .int .i64 a5, .int .i64 a6] 41) := ⟨_, rfl⟩
  obtain ⟨k_b, B1⟩ := st1 hW1
  rw [← hW1]
  clear hW1
  obtain ⟨c_b_0, c_b_1, c_b_2, c_b_3, c_b_4, c_b_5⟩ := bwc6 (k_b)
  obtain ⟨p1, hp1⟩ : ∃ p : BW W1, p.w = W1 := ⟨BW.start W1, rfl⟩
  rw [← hp1]
  clear hp1
  go_upto_region 3 with (first
    | (go_at_call 48; (first | (with_reducible refine (bw_call KA.out _).mono ?_)); rintro e w' ⟨rfl, q, rfl⟩))
  go_upto_region 4 with (first
    | (go_at_call 41; (first | (with_reducible refine (bw_call KS.out _).mono ?_)); rintro e w' ⟨rfl, q, rfl⟩))
  obtain ⟨W2, hW2⟩ : ∃ W, W = q.w.alloc (.cells #[.int .i64 x, .int .i64 y, .int .i64 z] 37) := ⟨_, rfl⟩
  have B2 : Below w.heap.size w W2 := by rw [hW2]; exact (bw_below B1 q).alloc (bw_below B1 q).size _
  have l_e : w.heap.size < q.w.heap.size := (k_b.below q.h).lt
  have o_e : w.heap.size ≤ q.w.heap.size := (bw_below B1 q).size
  have k_b := bka hW2 (k_b.below q.h)
  have k_e := bkn hW2
  rw [← hW2]
  clear hW2
  clear B1
  clear c_b_0 c_b_1 c_b_2 c_b_3 c_b_4 c_b_5
  generalize q.w.heap.size = g_e at *
  obtain ⟨c_b_0, c_b_1, c_b_2, c_b_3, c_b_4, c_b_5⟩ := bwc6 (k_b)
  obtain ⟨c_e_0, c_e_1, c_e_2⟩ := bwc3 (k_e)
  obtain ⟨p2, hp2⟩ : ∃ p : BW W2, p.w = W2 := ⟨BW.start W2, rfl⟩
  rw [← hp2]
  clear hp2
  go_wp2
  go_ret
  exact ⟨by show Ending.returned (.int .i64 (wrap64 (s1 + t3))) = _; rw [w5], bw_below B2 _⟩

theorem box_Area (a1 a2 a3 a4 a5 a6 : Int) (w : World) :
    Calls Tryz.prog 85 #[.agg #[.int .i64 a1, .int .i64 a2, .int .i64 a3, .int .i64 a4, .int .i64 a5, .int .i64 a6]] w fun en w' => en = .returned (.int .i64 (bArea ((a1, a2, a3), (a4, a5, a6)))) ∧ Below w.heap.size w w' := by
  unfold bArea
  cases h : bRight ((a1, a2, a3), (a4, a5, a6)) with
  | false => rw [if_neg (by simp)]; exact box_Area_no a1 a2 a3 a4 a5 a6 w h
  | true => rw [if_pos rfl]; exact box_Area_yes a1 a2 a3 a4 a5 a6 w h

set_option maxRecDepth 100000 in
set_option maxHeartbeats 4000000 in
theorem box_Mid_no (a1 a2 a3 a4 a5 a6 i : Int) (w : World) (h : bRight ((a1, a2, a3), (a4, a5, a6)) = false) :
    Calls Tryz.prog 66 #[.agg #[.int .i64 a1, .int .i64 a2, .int .i64 a3, .int .i64 a4, .int .i64 a5, .int .i64 a6], .int .i64 i] w fun en w' => en = .returned (.int .i64 0) ∧ Below w.heap.size w w' := by
  have KA := Lib.hid (fun w => box_Right a1 a2 a3 a4 a5 a6 w)
  rw [h] at KA
  clear h
  go_enter Tryz.func66, Tryz.ntmps66
  go_upto_region 1 with (fail)
  obtain ⟨W1, hW1⟩ : ∃ W, W = w.alloc (.cells #[.int .i64 a1, .int .i64 a2, .int .i64 a3, .int .i64 a4, .int .i64 a5, .int .i64 a6] 41) := ⟨_, rfl⟩
  obtain ⟨k_b, B1⟩ := st1 hW1
  rw [← hW1]
  clear hW1
  obtain ⟨c_b_0, c_b_1, c_b_2, c_b_3, c_b_4, c_b_5⟩ := bwc6 (k_b)
  obtain ⟨p1, hp1⟩ : ∃ p : BW W1, p.w = W1 := ⟨BW.start W1, rfl⟩
  rw [← hp1]
  clear hp1
  go_wp2_with (first
    | (go_at_call 48; (first | (with_reducible refine (bw_call KA.out _).mono ?_)); rintro e w' ⟨rfl, q, rfl⟩))
  go_ret
  exact ⟨rfl, bw_below B1 _⟩

set_option maxRecDepth 100000 in
set_option maxHeartbeats 4000000 in
theorem box_Mid_neg (a1 a2 a3 a4 a5 a6 i : Int) (w : World) (h : bRight ((a1, a2, a3), (a4, a5, a6)) = true) (h2 : i < 0) :
    Calls Tryz.prog 66 #[.agg #[.int .i64 a1, .int .i64 a2, .int .i64 a3, .int .i64 a4, .int .i64 a5, .int .i64 a6], .int .i64 i] w fun en w' => en = .returned (.int .i64 0) ∧ Below w.heap.size w w' := by
  have KA := Lib.hid (fun w => box_Right a1 a2 a3 a4 a5 a6 w)
  rw [h] at KA
  have t1 : decide (i < 0) = true := decide_eq_true h2
  clear h2
  clear h
  go_enter Tryz.func66, Tryz.ntmps66
  go_upto_region 1 with (fail)
  obtain ⟨W1, hW1⟩ : ∃ W, W = w.alloc (.cells #[.int .i64 a1, .int .i64 a2, .int .i64 a3, .int .i64 a4, .int .i64 a5, .int .i64 a6] 41) := ⟨_, rfl⟩
  obtain ⟨k_b, B1⟩ := st1 hW1
  rw [← hW1]
  clear hW1
  obtain ⟨c_b_0, c_b_1, c_b_2, c_b_3, c_b_4, c_b_5⟩ := bwc6 (k_b)
  obtain ⟨p1, hp1⟩ : ∃ p : BW W1, p.w = W1 := ⟨BW.start W1, rfl⟩
  rw [← hp1]
  clear hp1
  go_wp2_with (first
    | (go_at_call 48; (first | (with_reducible refine (bw_call KA.out _).mono ?_)); rintro e w' ⟨rfl, q, rfl⟩))
  go_ret
  exact ⟨rfl, bw_below B1 _⟩

set_option maxRecDepth 100000 in
set_option maxHeartbeats 4000000 in
theorem box_Mid_far (a1 a2 a3 a4 a5 a6 i : Int) (w : World) (h : bRight ((a1, a2, a3), (a4, a5, a6)) = true) (h2 : ¬ i < 0) (h3 : 2 < i) :
    Calls Tryz.prog 66 #[.agg #[.int .i64 a1, .int .i64 a2, .int .i64 a3, .int .i64 a4, .int .i64 a5, .int .i64 a6], .int .i64 i] w fun en w' => en = .returned (.int .i64 0) ∧ Below w.heap.size w w' := by
  have KA := Lib.hid (fun w => box_Right a1 a2 a3 a4 a5 a6 w)
  rw [h] at KA
  have t1 : decide (i < 0) = false := decide_eq_false h2
  have t2 : decide (2 < i) = true := decide_eq_true h3
  clear h2 h3
  clear h
  go_enter Tryz.func66, Tryz.ntmps66
  go_upto_region 1 with (fail)
  obtain ⟨W1, hW1⟩ : ∃ W, W = w.alloc (.cells #[.int .i64 a1, .int .i64 a2, .int .i64 a3, .int .i64 a4, .int .i64 a5, .int .i64 a6] 41) := ⟨_, rfl⟩
  obtain ⟨k_b, B1⟩ := st1 hW1
  rw [← hW1]
  clear hW1
  obtain ⟨c_b_0, c_b_1, c_b_2, c_b_3, c_b_4, c_b_5⟩ := bwc6 (k_b)
  obtain ⟨p1, hp1⟩ : ∃ p : BW W1, p.w = W1 := ⟨BW.start W1, rfl⟩
  rw [← hp1]
  clear hp1
  go_wp2_with (first
    | (go_at_call 48; (first | (with_reducible refine (bw_call KA.out _).mono ?_)); rintro e w' ⟨rfl, q, rfl⟩))
  go_ret
  exact ⟨rfl, bw_below B1 _⟩

set_option maxRecDepth 100000 in
set_option maxHeartbeats 4000000 in
theorem box_Mid_0 (a1 a2 a3 a4 a5 a6 : Int) (w : World) (h : bRight ((a1, a2, a3), (a4, a5, a6)) = true) :
    Calls Tryz.prog 66 #[.agg #[.int .i64 a1, .int .i64 a2, .int .i64 a3, .int .i64 a4, .int .i64 a5, .int .i64 a6], .int .i64 0] w fun en w' => en = .returned (.int .i64 (a1 + a4)) ∧ Below w.heap.size w w' := by
  have KA := Lib.hid (fun w => box_Right a1 a2 a3 a4 a5 a6 w)
  rw [h] at KA
  rw [bRight_iff, nrT_iff, nrT_iff] at h
  dsimp only at h
  have KP := Lib.hid (fun w => vec_Add a1 a2 a3 a4 a5 a6 w (by unfold I64; omega) (by unfold I64; omega) (by unfold I64; omega) (by unfold I64; omega) (by unfold I64; omega) (by unfold I64; omega))
  rw [sat_in (x := a1 + a4) (by omega), sat_in (x := a2 + a5) (by omega), sat_in (x := a3 + a6) (by omega)] at KP
  generalize a1 + a4 = x at *
  generalize a2 + a5 = y at *
  generalize a3 + a6 = z at *
  clear h
  go_enter Tryz.func66, Tryz.ntmps66
  go_upto_region 1 with (fail)
  obtain ⟨W1, hW1⟩ : ∃ W, W = w.alloc (.cells #[.int .i64 a1, .int .i64 a2, .int .i64 a3, .int .i64 a4, .int .i64 a5, .int .i64 a6] 41) := ⟨_, rfl⟩
  obtain ⟨k_b, B1⟩ := st1 hW1
  rw [← hW1]
  clear hW1
  obtain ⟨c_b_0, c_b_1, c_b_2, c_b_3, c_b_4, c_b_5⟩ := bwc6 (k_b)
  obtain ⟨p1, hp1⟩ : ∃ p : BW W1, p.w = W1 := ⟨BW.start W1, rfl⟩
  rw [← hp1]
  clear hp1
  go_upto_region 3 with (first
    | (go_at_call 48; (first | (with_reducible refine (bw_call KA.out _).mono ?_)); rintro e w' ⟨rfl, q, rfl⟩))
  go_upto_region 4 with (first
    | (go_at_call 42; (first | (with_reducible refine (bw_call KP.out _).mono ?_)); rintro e w' ⟨rfl, q, rfl⟩))
  obtain ⟨W2, hW2⟩ : ∃ W, W = q.w.alloc (.cells #[.int .i64 x, .int .i64 y, .int .i64 z] 37) := ⟨_, rfl⟩
  have B2 : Below w.heap.size w W2 := by rw [hW2]; exact (bw_below B1 q).alloc (bw_below B1 q).size _
  have l_e : w.heap.size < q.w.heap.size := (k_b.below q.h).lt
  have o_e : w.heap.size ≤ q.w.heap.size := (bw_below B1 q).size
  have k_b := bka hW2 (k_b.below q.h)
  have k_e := bkn hW2
  rw [← hW2]
  clear hW2
  clear B1
  clear c_b_0 c_b_1 c_b_2 c_b_3 c_b_4 c_b_5
  generalize q.w.heap.size = g_e at *
  obtain ⟨c_b_0, c_b_1, c_b_2, c_b_3, c_b_4, c_b_5⟩ := bwc6 (k_b)
  obtain ⟨c_e_0, c_e_1, c_e_2⟩ := bwc3 (k_e)
  obtain ⟨p2, hp2⟩ : ∃ p : BW W2, p.w = W2 := ⟨BW.start W2, rfl⟩
  rw [← hp2]
  clear hp2
  have ix : ∀ w, (Instr.index 142 (.agg #[.int .i64 x, .int .i64 y, .int .i64 z]) (.int .i64 0)).run Tryz.prog w = .ok (.int .i64 x) w := fun _ => by kernel_rfl
  go_wp2
  go_ret
  exact ⟨rfl, bw_below B2 _⟩

set_option maxRecDepth 100000 in
set_option maxHeartbeats 4000000 in
theorem box_Mid_1 (a1 a2 a3 a4 a5 a6 : Int) (w : World) (h : bRight ((a1, a2, a3), (a4, a5, a6)) = true) :
    Calls Tryz.prog 66 #[.agg #[.int .i64 a1, .int .i64 a2, .int .i64 a3, .int .i64 a4, .int .i64 a5, .int .i64 a6], .int .i64 1] w fun en w' => en = .returned (.int .i64 (a2 + a5)) ∧ Below w.heap.size w w' := by
  have KA := Lib.hid (fun w => box_Right a1 a2 a3 a4 a5 a6 w)
  rw [h] at KA
  rw [bRight_iff, nrT_iff, nrT_iff] at h
  dsimp only at h
  have KP := Lib.hid (fun w => vec_Add a1 a2 a3 a4 a5 a6 w (by unfold I64; omega) (by unfold I64; omega) (by unfold I64; omega) (by unfold I64; omega) (by unfold I64; omega) (by unfold I64; omega))
  rw [sat_in (x := a1 + a4) (by omega), sat_in (x := a2 + a5) (by omega), sat_in (x := a3 + a6) (by omega)] at KP
  generalize a1 + a4 = x at *
  generalize a2 + a5 = y at *
  generalize a3 + a6 = z at *
  clear h
  go_enter Tryz.func66, Tryz.ntmps66
  go_upto_region 1 with (fail)
  obtain ⟨W1, hW1⟩ : ∃ W, W = w.alloc (.cells #[.int .i64 a1, .int .i64 a2, .int .i64 a3, .int .i64 a4, .int .i64 a5, .int .i64 a6] 41) := ⟨_, rfl⟩
  obtain ⟨k_b, B1⟩ := st1 hW1
  rw [← hW1]
  clear hW1
  obtain ⟨c_b_0, c_b_1, c_b_2, c_b_3, c_b_4, c_b_5⟩ := bwc6 (k_b)
  obtain ⟨p1, hp1⟩ : ∃ p : BW W1, p.w = W1 := ⟨BW.start W1, rfl⟩
  rw [← hp1]
  clear hp1
  go_upto_region 3 with (first
    | (go_at_call 48; (first | (with_reducible refine (bw_call KA.out _).mono ?_)); rintro e w' ⟨rfl, q, rfl⟩))
  go_upto_region 4 with (first
    | (go_at_call 42; (first | (with_reducible refine (bw_call KP.out _).mono ?_)); rintro e w' ⟨rfl, q, rfl⟩))
  obtain ⟨W2, hW2⟩ : ∃ W, W = q.w.alloc (.cells #[.int .i64 x, .int .i64 y, .int .i64 z] 37) := ⟨_, rfl⟩
  have B2 : Below w.heap.size w W2 := by rw [hW2]; exact (bw_below B1 q).alloc (bw_below B1 q).size _
  have l_e : w.heap.size < q.w.heap.size := (k_b.below q.h).lt
  have o_e : w.heap.size ≤ q.w.heap.size := (bw_below B1 q).size
  have k_b := bka hW2 (k_b.below q.h)
  have k_e := bkn hW2
  rw [← hW2]
  clear hW2
  clear B1
  clear c_b_0 c_b_1 c_b_2 c_b_3 c_b_4 c_b_5
  generalize q.w.heap.size = g_e at *
  obtain ⟨c_b_0, c_b_1, c_b_2, c_b_3, c_b_4, c_b_5⟩ := bwc6 (k_b)
  obtain ⟨c_e_0, c_e_1, c_e_2⟩ := bwc3 (k_e)
  obtain ⟨p2, hp2⟩ : ∃ p : BW W2, p.w = W2 := ⟨BW.start W2, rfl⟩
  rw [← hp2]
  clear hp2
  have ix : ∀ w, (Instr.index 142 (.agg #[.int .i64 x, .int .i64 y, .int .i64 z]) (.int .i64 1)).run Tryz.prog w = .ok (.int .i64 y) w := fun _ => by kernel_rfl
  go_wp2
  go_ret
  exact ⟨rfl, bw_below B2 _⟩

set_option maxRecDepth 100000 in
set_option maxHeartbeats 4000000 in
theorem box_Mid_2 (a1 a2 a3 a4 a5 a6 : Int) (w : World) (h : bRight ((a1, a2, a3), (a4, a5, a6)) = true) :
    Calls Tryz.prog 66 #[.agg #[.int .i64 a1, .int .i64 a2, .int .i64 a3, .int .i64 a4, .int .i64 a5, .int .i64 a6], .int .i64 2] w fun en w' => en = .returned (.int .i64 (a3 + a6)) ∧ Below w.heap.size w w' := by
  have KA := Lib.hid (fun w => box_Right a1 a2 a3 a4 a5 a6 w)
  rw [h] at KA
  rw [bRight_iff, nrT_iff, nrT_iff] at h
  dsimp only at h
  have KP := Lib.hid (fun w => vec_Add a1 a2 a3 a4 a5 a6 w (by unfold I64; omega) (by unfold I64; omega) (by unfold I64; omega) (by unfold I64; omega) (by unfold I64; omega) (by unfold I64; omega))
  rw [sat_in (x := a1 + a4) (by omega), sat_in (x := a2 + a5) (by omega), sat_in (x := a3 + a6) (by omega)] at KP
  generalize a1 + a4 = x at *
  generalize a2 + a5 = y at *
  generalize a3 + a6 = z at *
  clear h
  go_enter Tryz.func66, Tryz.ntmps66
  go_upto_region 1 with (fail)
  obtain ⟨W1, hW1⟩ : ∃ W, W = w.alloc (.cells #[.int .i64 a1, .int .i64 a2, .int .i64 a3, .int .i64 a4, .int .i64 a5, .int .i64 a6] 41) := ⟨_, rfl⟩
  obtain ⟨k_b, B1⟩ := st1 hW1
  rw [← hW1]
  clear hW1
  obtain ⟨c_b_0, c_b_1, c_b_2, c_b_3, c_b_4, c_b_5⟩ := bwc6 (k_b)
  obtain ⟨p1, hp1⟩ : ∃ p : BW W1, p.w = W1 := ⟨BW.start W1, rfl⟩
  rw [← hp1]
  clear hp1
  go_upto_region 3 with (first
    | (go_at_call 48; (first | (with_reducible refine (bw_call KA.out _).mono ?_)); rintro e w' ⟨rfl, q, rfl⟩))
  go_upto_region 4 with (first
    | (go_at_call 42; (first | (with_reducible refine (bw_call KP.out _).mono ?_)); rintro e w' ⟨rfl, q, rfl⟩))
  obtain ⟨W2, hW2⟩ : ∃ W, W = q.w.alloc (.cells #[.int .i64 x, .int .i64 y, .int .i64 z] 37) := ⟨_, rfl⟩
  have B2 : Below w.heap.size w W2 := by rw [hW2]; exact (bw_below B1 q).alloc (bw_below B1 q).size _
  have l_e : w.heap.size < q.w.heap.size := (k_b.below q.h).lt
  have o_e : w.heap.size ≤ q.w.heap.size := (bw_below B1 q).size
  have k_b := bka hW2 (k_b.below q.h)
  have k_e := bkn hW2
  rw [← hW2]
  clear hW2
  clear B1
  clear c_b_0 c_b_1 c_b_2 c_b_3 c_b_4 c_b_5
  generalize q.w.heap.size = g_e at *
  obtain ⟨c_b_0, c_b_1, c_b_2, c_b_3, c_b_4, c_b_5⟩ := bwc6 (k_b)
  obtain ⟨c_e_0, c_e_1, c_e_2⟩ := bwc3 (k_e)
  obtain ⟨p2, hp2⟩ : ∃ p : BW W2, p.w = W2 := ⟨BW.start W2, rfl⟩
  rw [← hp2]
  clear hp2
  have ix : ∀ w, (Instr.index 142 (.agg #[.int .i64 x, .int .i64 y, .int .i64 z]) (.int .i64 2)).run Tryz.prog w = .ok (.int .i64 z) w := fun _ => by kernel_rfl
  go_wp2
  go_ret
  exact ⟨rfl, bw_below B2 _⟩

theorem box_Mid (a1 a2 a3 a4 a5 a6 i : Int) (w : World) (hi : I64 i) :
    Calls Tryz.prog 66 #[.agg #[.int .i64 a1, .int .i64 a2, .int .i64 a3, .int .i64 a4, .int .i64 a5, .int .i64 a6], .int .i64 i] w fun en w' => en = .returned (.int .i64 (bMid ((a1, a2, a3), (a4, a5, a6)) i)) ∧ Below w.heap.size w w' := by
  unfold bMid crd
  dsimp only
  cases h : bRight ((a1, a2, a3), (a4, a5, a6)) with
  | false => rw [if_neg (by simp)]; exact box_Mid_no a1 a2 a3 a4 a5 a6 i w h
  | true =>
    by_cases h2 : i < 0
    · rw [if_neg (fun k => by omega)]; exact box_Mid_neg a1 a2 a3 a4 a5 a6 i w h h2
    · by_cases h3 : 2 < i
      · rw [if_neg (fun k => by omega)]; exact box_Mid_far a1 a2 a3 a4 a5 a6 i w h h2 h3
      · rw [if_pos ⟨rfl, by omega, by omega⟩]
        rcases (by omega : i = 0 ∨ i = 1 ∨ i = 2) with rfl | rfl | rfl
        · exact box_Mid_0 a1 a2 a3 a4 a5 a6 w h
        · exact box_Mid_1 a1 a2 a3 a4 a5 a6 w h
        · exact box_Mid_2 a1 a2 a3 a4 a5 a6 w h

end
end Go.Proofs.YtomlcglnkdfemaaGreat
