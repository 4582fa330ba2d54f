/- Contracts of the document's own answers, layer 13: Right, Hit. -/
import Derived.Test.YtneacfhoinaeeaaMc33
import Derived.Test.YtneacfhoinaeeaaMc24
import Derived.Test.YtneacfhoinaeeaaMc19
import Derived.Test.YtneacfhoinaeeaaMc1
import Derived.Deep.DeepCutAuto


namespace Go.Proofs.Ytneacfhoinaeeaa
section

open Go.RowKit Go.Proofs.Sky

set_option linter.unusedVariables false

set_option maxRecDepth 100000 in
set_option maxHeartbeats 8000000 in
theorem ref13_Right_m1 (k a1 a2 a3 b1 b2 b3 c1 c2 c3 r m : Int) (w : World) (m1 : decide (m < 0) = true) :
    Calls Try.prog 34 #[.agg #[.int .i64 k, .int .i64 a1, .int .i64 a2, .int .i64 a3, .int .i64 b1, .int .i64 b2, .int .i64 b3, .int .i64 c1, .int .i64 c2, .int .i64 c3, .int .i64 r, .int .i64 m]] w fun en w' => en = .returned (.bool false) ∧ Below w.heap.size w w' := by
  go_enter Try.func34, Try.ntmps34
  go_upto_region 1 with (fail)
  obtain ⟨W1, hW1⟩ : ∃ W, W = w.alloc (.cells #[.int .i64 k, .int .i64 a1, .int .i64 a2, .int .i64 a3, .int .i64 b1, .int .i64 b2, .int .i64 b3, .int .i64 c1, .int .i64 c2, .int .i64 c3, .int .i64 r, .int .i64 m] 45) := ⟨_, rfl⟩
  obtain ⟨k_p, B1⟩ := st1 hW1
  rw [← hW1]
  clear hW1
  obtain ⟨c_p_0, c_p_1, c_p_2, c_p_3, c_p_4, c_p_5, c_p_6, c_p_7, c_p_8, c_p_9, c_p_10, c_p_11⟩ := bwc12 (k_p)
  obtain ⟨p1, hp1⟩ : ∃ p : BW W1, p.w = W1 := ⟨BW.start W1, rfl⟩
  rw [← hp1]
  clear hp1
  go_wp2
  go_ret
  exact ⟨rfl, bw_below B1 _⟩

set_option maxRecDepth 100000 in
set_option maxHeartbeats 8000000 in
theorem ref13_Right_m2 (k a1 a2 a3 b1 b2 b3 c1 c2 c3 r m : Int) (w : World) (m1 : decide (m < 0) = false) (m2 : decide (63 < m) = true) :
    Calls Try.prog 34 #[.agg #[.int .i64 k, .int .i64 a1, .int .i64 a2, .int .i64 a3, .int .i64 b1, .int .i64 b2, .int .i64 b3, .int .i64 c1, .int .i64 c2, .int .i64 c3, .int .i64 r, .int .i64 m]] w fun en w' => en = .returned (.bool false) ∧ Below w.heap.size w w' := by
  go_enter Try.func34, Try.ntmps34
  go_upto_region 1 with (fail)
  obtain ⟨W1, hW1⟩ : ∃ W, W = w.alloc (.cells #[.int .i64 k, .int .i64 a1, .int .i64 a2, .int .i64 a3, .int .i64 b1, .int .i64 b2, .int .i64 b3, .int .i64 c1, .int .i64 c2, .int .i64 c3, .int .i64 r, .int .i64 m] 45) := ⟨_, rfl⟩
  obtain ⟨k_p, B1⟩ := st1 hW1
  rw [← hW1]
  clear hW1
  obtain ⟨c_p_0, c_p_1, c_p_2, c_p_3, c_p_4, c_p_5, c_p_6, c_p_7, c_p_8, c_p_9, c_p_10, c_p_11⟩ := bwc12 (k_p)
  obtain ⟨p1, hp1⟩ : ∃ p : BW W1, p.w = W1 := ⟨BW.start W1, rfl⟩
  rw [← hp1]
  clear hp1
  go_wp2
  go_ret
  exact ⟨rfl, bw_below B1 _⟩

set_option maxRecDepth 100000 in
set_option maxHeartbeats 8000000 in
theorem ref13_Right_flat (a1 a2 a3 b1 b2 b3 c1 c2 c3 r m : Int) (w : World) (m1 : decide (m < 0) = false) (m2 : decide (63 < m) = false)
    (KF : Hid (∀ w, Calls Try.prog 43 #[.agg #[.int .i64 a1, .int .i64 a2, .int .i64 a3], .agg #[.int .i64 b1, .int .i64 b2, .int .i64 b3], .agg #[.int .i64 c1, .int .i64 c2, .int .i64 c3]] w fun en w' => en = .returned (.bool true) ∧ Below w.heap.size w w')) :
    Calls Try.prog 34 #[.agg #[.int .i64 1, .int .i64 a1, .int .i64 a2, .int .i64 a3, .int .i64 b1, .int .i64 b2, .int .i64 b3, .int .i64 c1, .int .i64 c2, .int .i64 c3, .int .i64 r, .int .i64 m]] w fun en w' => en = .returned (.bool false) ∧ Below w.heap.size w w' := by
  go_enter Try.func34, Try.ntmps34
  go_upto_region 1 with (fail)
  obtain ⟨W1, hW1⟩ : ∃ W, W = w.alloc (.cells #[.int .i64 1, .int .i64 a1, .int .i64 a2, .int .i64 a3, .int .i64 b1, .int .i64 b2, .int .i64 b3, .int .i64 c1, .int .i64 c2, .int .i64 c3, .int .i64 r, .int .i64 m] 45) := ⟨_, rfl⟩
  obtain ⟨k_p, B1⟩ := st1 hW1
  rw [← hW1]
  clear hW1
  obtain ⟨c_p_0, c_p_1, c_p_2, c_p_3, c_p_4, c_p_5, c_p_6, c_p_7, c_p_8, c_p_9, c_p_10, c_p_11⟩ := bwc12 (k_p)
  obtain ⟨p1, hp1⟩ : ∃ p : BW W1, p.w = W1 := ⟨BW.start W1, rfl⟩
  rw [← hp1]
  clear hp1
  go_wp2_with (first
    | (go_at_call 43; (first | (with_reducible refine (bw_call KF.out _).mono ?_)); rintro e w' ⟨rfl, q, rfl⟩))
  go_ret
  exact ⟨rfl, bw_below B1 _⟩

set_option maxRecDepth 100000 in
set_option maxHeartbeats 8000000 in
theorem ref13_Right_tri (a1 a2 a3 b1 b2 b3 c1 c2 c3 r m : Int) (w : World) (m1 : decide (m < 0) = false) (m2 : decide (63 < m) = false)
    (KF : Hid (∀ w, Calls Try.prog 43 #[.agg #[.int .i64 a1, .int .i64 a2, .int .i64 a3], .agg #[.int .i64 b1, .int .i64 b2, .int .i64 b3], .agg #[.int .i64 c1, .int .i64 c2, .int .i64 c3]] w fun en w' => en = .returned (.bool false) ∧ Below w.heap.size w w')) :
    Calls Try.prog 34 #[.agg #[.int .i64 1, .int .i64 a1, .int .i64 a2, .int .i64 a3, .int .i64 b1, .int .i64 b2, .int .i64 b3, .int .i64 c1, .int .i64 c2, .int .i64 c3, .int .i64 r, .int .i64 m]] w fun en w' => en = .returned (.bool (r == 0)) ∧ Below w.heap.size w w' := by
  go_enter Try.func34, Try.ntmps34
  go_upto_region 1 with (fail)
  obtain ⟨W1, hW1⟩ : ∃ W, W = w.alloc (.cells #[.int .i64 1, .int .i64 a1, .int .i64 a2, .int .i64 a3, .int .i64 b1, .int .i64 b2, .int .i64 b3, .int .i64 c1, .int .i64 c2, .int .i64 c3, .int .i64 r, .int .i64 m] 45) := ⟨_, rfl⟩
  obtain ⟨k_p, B1⟩ := st1 hW1
  rw [← hW1]
  clear hW1
  obtain ⟨c_p_0, c_p_1, c_p_2, c_p_3, c_p_4, c_p_5, c_p_6, c_p_7, c_p_8, c_p_9, c_p_10, c_p_11⟩ := bwc12 (k_p)
  obtain ⟨p1, hp1⟩ : ∃ p : BW W1, p.w = W1 := ⟨BW.start W1, rfl⟩
  rw [← hp1]
  clear hp1
  go_wp2_with (first
    | (go_at_call 43; (first | (with_reducible refine (bw_call KF.out _).mono ?_)); rintro e w' ⟨rfl, q, rfl⟩))
  go_ret
  exact ⟨rfl, bw_below B1 _⟩

set_option maxRecDepth 100000 in
set_option maxHeartbeats 8000000 in
theorem ref13_Right_none (k a1 a2 a3 b1 b2 b3 c1 c2 c3 r m : Int) (w : World) (m1 : decide (m < 0) = false) (m2 : decide (63 < m) = false) (k1 : ¬ k = 1) (k2 : ¬ k = 2) :
    Calls Try.prog 34 #[.agg #[.int .i64 k, .int .i64 a1, .int .i64 a2, .int .i64 a3, .int .i64 b1, .int .i64 b2, .int .i64 b3, .int .i64 c1, .int .i64 c2, .int .i64 c3, .int .i64 r, .int .i64 m]] w fun en w' => en = .returned (.bool false) ∧ Below w.heap.size w w' := by
  go_enter Try.func34, Try.ntmps34
  go_upto_region 1 with (fail)
  obtain ⟨W1, hW1⟩ : ∃ W, W = w.alloc (.cells #[.int .i64 k, .int .i64 a1, .int .i64 a2, .int .i64 a3, .int .i64 b1, .int .i64 b2, .int .i64 b3, .int .i64 c1, .int .i64 c2, .int .i64 c3, .int .i64 r, .int .i64 m] 45) := ⟨_, rfl⟩
  obtain ⟨k_p, B1⟩ := st1 hW1
  rw [← hW1]
  clear hW1
  obtain ⟨c_p_0, c_p_1, c_p_2, c_p_3, c_p_4, c_p_5, c_p_6, c_p_7, c_p_8, c_p_9, c_p_10, c_p_11⟩ := bwc12 (k_p)
  obtain ⟨p1, hp1⟩ : ∃ p : BW W1, p.w = W1 := ⟨BW.start W1, rfl⟩
  rw [← hp1]
  clear hp1
  go_wp2
  go_ret
  exact ⟨rfl, bw_below B1 _⟩

set_option maxRecDepth 100000 in
set_option maxHeartbeats 8000000 in
theorem ref13_Right_noball (a1 a2 a3 b1 b2 b3 c1 c2 c3 r m : Int) (w : World) (m1 : decide (m < 0) = false) (m2 : decide (63 < m) = false)
    (KB : Hid (∀ w, Calls Try.prog 51 #[.agg #[.int .i64 a1, .int .i64 a2, .int .i64 a3], .int .i64 r] w fun en w' => en = .returned (.bool false) ∧ Below w.heap.size w w')) :
    Calls Try.prog 34 #[.agg #[.int .i64 2, .int .i64 a1, .int .i64 a2, .int .i64 a3, .int .i64 b1, .int .i64 b2, .int .i64 b3, .int .i64 c1, .int .i64 c2, .int .i64 c3, .int .i64 r, .int .i64 m]] w fun en w' => en = .returned (.bool false) ∧ Below w.heap.size w w' := by
  go_enter Try.func34, Try.ntmps34
  go_upto_region 1 with (fail)
  obtain ⟨W1, hW1⟩ : ∃ W, W = w.alloc (.cells #[.int .i64 2, .int .i64 a1, .int .i64 a2, .int .i64 a3, .int .i64 b1, .int .i64 b2, .int .i64 b3, .int .i64 c1, .int .i64 c2, .int .i64 c3, .int .i64 r, .int .i64 m] 45) := ⟨_, rfl⟩
  obtain ⟨k_p, B1⟩ := st1 hW1
  rw [← hW1]
  clear hW1
  obtain ⟨c_p_0, c_p_1, c_p_2, c_p_3, c_p_4, c_p_5, c_p_6, c_p_7, c_p_8, c_p_9, c_p_10, c_p_11⟩ := bwc12 (k_p)
  obtain ⟨p1, hp1⟩ : ∃ p : BW W1, p.w = W1 := ⟨BW.start W1, rfl⟩
  rw [← hp1]
  clear hp1
  go_wp2_with (first
    | (go_at_call 51; (first | (with_reducible refine (bw_call KB.out _).mono ?_)); rintro e w' ⟨rfl, q, rfl⟩))
  go_ret
  exact ⟨rfl, bw_below B1 _⟩

set_option maxRecDepth 100000 in
set_option maxHeartbeats 8000000 in
theorem ref13_Right_b1 (a1 a2 a3 b1 b2 b3 c1 c2 c3 r m : Int) (w : World) (m1 : decide (m < 0) = false) (m2 : decide (63 < m) = false)
    (KB : Hid (∀ w, Calls Try.prog 51 #[.agg #[.int .i64 a1, .int .i64 a2, .int .i64 a3], .int .i64 r] w fun en w' => en = .returned (.bool true) ∧ Below w.heap.size w w')) (ne : ¬ b1 = 0) :
    Calls Try.prog 34 #[.agg #[.int .i64 2, .int .i64 a1, .int .i64 a2, .int .i64 a3, .int .i64 b1, .int .i64 b2, .int .i64 b3, .int .i64 c1, .int .i64 c2, .int .i64 c3, .int .i64 r, .int .i64 m]] w fun en w' => en = .returned (.bool false) ∧ Below w.heap.size w w' := by
  go_enter Try.func34, Try.ntmps34
  go_upto_region 1 with (fail)
  obtain ⟨W1, hW1⟩ : ∃ W, W = w.alloc (.cells #[.int .i64 2, .int .i64 a1, .int .i64 a2, .int .i64 a3, .int .i64 b1, .int .i64 b2, .int .i64 b3, .int .i64 c1, .int .i64 c2, .int .i64 c3, .int .i64 r, .int .i64 m] 45) := ⟨_, rfl⟩
  obtain ⟨k_p, B1⟩ := st1 hW1
  rw [← hW1]
  clear hW1
  obtain ⟨c_p_0, c_p_1, c_p_2, c_p_3, c_p_4, c_p_5, c_p_6, c_p_7, c_p_8, c_p_9, c_p_10, c_p_11⟩ := bwc12 (k_p)
  obtain ⟨p1, hp1⟩ : ∃ p : BW W1, p.w = W1 := ⟨BW.start W1, rfl⟩
  rw [← hp1]
  clear hp1
  go_wp2_with (first
    | (go_at_call 51; (first | (with_reducible refine (bw_call KB.out _).mono ?_)); rintro e w' ⟨rfl, q, rfl⟩))
  go_ret
  exact ⟨rfl, bw_below B1 _⟩

set_option maxRecDepth 100000 in
set_option maxHeartbeats 8000000 in
theorem ref13_Right_b2 (a1 a2 a3 b2 b3 c1 c2 c3 r m : Int) (w : World) (m1 : decide (m < 0) = false) (m2 : decide (63 < m) = false)
    (KB : Hid (∀ w, Calls Try.prog 51 #[.agg #[.int .i64 a1, .int .i64 a2, .int .i64 a3], .int .i64 r] w fun en w' => en = .returned (.bool true) ∧ Below w.heap.size w w')) (ne : ¬ b2 = 0) :
    Calls Try.prog 34 #[.agg #[.int .i64 2, .int .i64 a1, .int .i64 a2, .int .i64 a3, .int .i64 0, .int .i64 b2, .int .i64 b3, .int .i64 c1, .int .i64 c2, .int .i64 c3, .int .i64 r, .int .i64 m]] w fun en w' => en = .returned (.bool false) ∧ Below w.heap.size w w' := by
  go_enter Try.func34, Try.ntmps34
  go_upto_region 1 with (fail)
  obtain ⟨W1, hW1⟩ : ∃ W, W = w.alloc (.cells #[.int .i64 2, .int .i64 a1, .int .i64 a2, .int .i64 a3, .int .i64 0, .int .i64 b2, .int .i64 b3, .int .i64 c1, .int .i64 c2, .int .i64 c3, .int .i64 r, .int .i64 m] 45) := ⟨_, rfl⟩
  obtain ⟨k_p, B1⟩ := st1 hW1
  rw [← hW1]
  clear hW1
  obtain ⟨c_p_0, c_p_1, c_p_2, c_p_3, c_p_4, c_p_5, c_p_6, c_p_7, c_p_8, c_p_9, c_p_10, c_p_11⟩ := bwc12 (k_p)
  obtain ⟨p1, hp1⟩ : ∃ p : BW W1, p.w = W1 := ⟨BW.start W1, rfl⟩
  rw [← hp1]
  clear hp1
  go_wp2_with (first
    | (go_at_call 51; (first | (with_reducible refine (bw_call KB.out _).mono ?_)); rintro e w' ⟨rfl, q, rfl⟩))
  go_ret
  exact ⟨rfl, bw_below B1 _⟩

set_option maxRecDepth 100000 in
set_option maxHeartbeats 8000000 in
theorem ref13_Right_b3 (a1 a2 a3 b3 c1 c2 c3 r m : Int) (w : World) (m1 : decide (m < 0) = false) (m2 : decide (63 < m) = false)
    (KB : Hid (∀ w, Calls Try.prog 51 #[.agg #[.int .i64 a1, .int .i64 a2, .int .i64 a3], .int .i64 r] w fun en w' => en = .returned (.bool true) ∧ Below w.heap.size w w')) (ne : ¬ b3 = 0) :
    Calls Try.prog 34 #[.agg #[.int .i64 2, .int .i64 a1, .int .i64 a2, .int .i64 a3, .int .i64 0, .int .i64 0, .int .i64 b3, .int .i64 c1, .int .i64 c2, .int .i64 c3, .int .i64 r, .int .i64 m]] w fun en w' => en = .returned (.bool false) ∧ Below w.heap.size w w' := by
  go_enter Try.func34, Try.ntmps34
  go_upto_region 1 with (fail)
  obtain ⟨W1, hW1⟩ : ∃ W, W = w.alloc (.cells #[.int .i64 2, .int .i64 a1, .int .i64 a2, .int .i64 a3, .int .i64 0, .int .i64 0, .int .i64 b3, .int .i64 c1, .int .i64 c2, .int .i64 c3, .int .i64 r, .int .i64 m] 45) := ⟨_, rfl⟩
  obtain ⟨k_p, B1⟩ := st1 hW1
  rw [← hW1]
  clear hW1
  obtain ⟨c_p_0, c_p_1, c_p_2, c_p_3, c_p_4, c_p_5, c_p_6, c_p_7, c_p_8, c_p_9, c_p_10, c_p_11⟩ := bwc12 (k_p)
  obtain ⟨p1, hp1⟩ : ∃ p : BW W1, p.w = W1 := ⟨BW.start W1, rfl⟩
  rw [← hp1]
  clear hp1
  go_wp2_with (first
    | (go_at_call 51; (first | (with_reducible refine (bw_call KB.out _).mono ?_)); rintro e w' ⟨rfl, q, rfl⟩))
  go_ret
  exact ⟨rfl, bw_below B1 _⟩

set_option maxRecDepth 100000 in
set_option maxHeartbeats 8000000 in
theorem ref13_Right_c1 (a1 a2 a3 c1 c2 c3 r m : Int) (w : World) (m1 : decide (m < 0) = false) (m2 : decide (63 < m) = false)
    (KB : Hid (∀ w, Calls Try.prog 51 #[.agg #[.int .i64 a1, .int .i64 a2, .int .i64 a3], .int .i64 r] w fun en w' => en = .returned (.bool true) ∧ Below w.heap.size w w')) (ne : ¬ c1 = 0) :
    Calls Try.prog 34 #[.agg #[.int .i64 2, .int .i64 a1, .int .i64 a2, .int .i64 a3, .int .i64 0, .int .i64 0, .int .i64 0, .int .i64 c1, .int .i64 c2, .int .i64 c3, .int .i64 r, .int .i64 m]] w fun en w' => en = .returned (.bool false) ∧ Below w.heap.size w w' := by
  go_enter Try.func34, Try.ntmps34
  go_upto_region 1 with (fail)
  obtain ⟨W1, hW1⟩ : ∃ W, W = w.alloc (.cells #[.int .i64 2, .int .i64 a1, .int .i64 a2, .int .i64 a3, .int .i64 0, .int .i64 0, .int .i64 0, .int .i64 c1, .int .i64 c2, .int .i64 c3, .int .i64 r, .int .i64 m] 45) := ⟨_, rfl⟩
  obtain ⟨k_p, B1⟩ := st1 hW1
  rw [← hW1]
  clear hW1
  obtain ⟨c_p_0, c_p_1, c_p_2, c_p_3, c_p_4, c_p_5, c_p_6, c_p_7, c_p_8, c_p_9, c_p_10, c_p_11⟩ := bwc12 (k_p)
  obtain ⟨p1, hp1⟩ : ∃ p : BW W1, p.w = W1 := ⟨BW.start W1, rfl⟩
  rw [← hp1]
  clear hp1
  go_wp2_with (first
    | (go_at_call 51; (first | (with_reducible refine (bw_call KB.out _).mono ?_)); rintro e w' ⟨rfl, q, rfl⟩))
  go_ret
  exact ⟨rfl, bw_below B1 _⟩

set_option maxRecDepth 100000 in
set_option maxHeartbeats 8000000 in
theorem ref13_Right_c2 (a1 a2 a3 c2 c3 r m : Int) (w : World) (m1 : decide (m < 0) = false) (m2 : decide (63 < m) = false)
    (KB : Hid (∀ w, Calls Try.prog 51 #[.agg #[.int .i64 a1, .int .i64 a2, .int .i64 a3], .int .i64 r] w fun en w' => en = .returned (.bool true) ∧ Below w.heap.size w w')) (ne : ¬ c2 = 0) :
    Calls Try.prog 34 #[.agg #[.int .i64 2, .int .i64 a1, .int .i64 a2, .int .i64 a3, .int .i64 0, .int .i64 0, .int .i64 0, .int .i64 0, .int .i64 c2, .int .i64 c3, .int .i64 r, .int .i64 m]] w fun en w' => en = .returned (.bool false) ∧ Below w.heap.size w w' := by
  go_enter Try.func34, Try.ntmps34
  go_upto_region 1 with (fail)
  obtain ⟨W1, hW1⟩ : ∃ W, W = w.alloc (.cells #[.int .i64 2, .int .i64 a1, .int .i64 a2, .int .i64 a3, .int .i64 0, .int .i64 0, .int .i64 0, .int .i64 0, .int .i64 c2, .int .i64 c3, .int .i64 r, .int .i64 m] 45) := ⟨_, rfl⟩
  obtain ⟨k_p, B1⟩ := st1 hW1
  rw [← hW1]
  clear hW1
  obtain ⟨c_p_0, c_p_1, c_p_2, c_p_3, c_p_4, c_p_5, c_p_6, c_p_7, c_p_8, c_p_9, c_p_10, c_p_11⟩ := bwc12 (k_p)
  obtain ⟨p1, hp1⟩ : ∃ p : BW W1, p.w = W1 := ⟨BW.start W1, rfl⟩
  rw [← hp1]
  clear hp1
  go_wp2_with (first
    | (go_at_call 51; (first | (with_reducible refine (bw_call KB.out _).mono ?_)); rintro e w' ⟨rfl, q, rfl⟩))
  go_ret
  exact ⟨rfl, bw_below B1 _⟩

set_option maxRecDepth 100000 in
set_option maxHeartbeats 8000000 in
theorem ref13_Right_c3 (a1 a2 a3 c3 r m : Int) (w : World) (m1 : decide (m < 0) = false) (m2 : decide (63 < m) = false)
    (KB : Hid (∀ w, Calls Try.prog 51 #[.agg #[.int .i64 a1, .int .i64 a2, .int .i64 a3], .int .i64 r] w fun en w' => en = .returned (.bool true) ∧ Below w.heap.size w w')) (ne : ¬ c3 = 0) :
    Calls Try.prog 34 #[.agg #[.int .i64 2, .int .i64 a1, .int .i64 a2, .int .i64 a3, .int .i64 0, .int .i64 0, .int .i64 0, .int .i64 0, .int .i64 0, .int .i64 c3, .int .i64 r, .int .i64 m]] w fun en w' => en = .returned (.bool false) ∧ Below w.heap.size w w' := by
  go_enter Try.func34, Try.ntmps34
  go_upto_region 1 with (fail)
  obtain ⟨W1, hW1⟩ : ∃ W, W = w.alloc (.cells #[.int .i64 2, .int .i64 a1, .int .i64 a2, .int .i64 a3, .int .i64 0, .int .i64 0, .int .i64 0, .int .i64 0, .int .i64 0, .int .i64 c3, .int .i64 r, .int .i64 m] 45) := ⟨_, rfl⟩
  obtain ⟨k_p, B1⟩ := st1 hW1
  rw [← hW1]
  clear hW1
  obtain ⟨c_p_0, c_p_1, c_p_2, c_p_3, c_p_4, c_p_5, c_p_6, c_p_7, c_p_8, c_p_9, c_p_10, c_p_11⟩ := bwc12 (k_p)
  obtain ⟨p1, hp1⟩ : ∃ p : BW W1, p.w = W1 := ⟨BW.start W1, rfl⟩
  rw [← hp1]
  clear hp1
  go_wp2_with (first
    | (go_at_call 51; (first | (with_reducible refine (bw_call KB.out _).mono ?_)); rintro e w' ⟨rfl, q, rfl⟩))
  go_ret
  exact ⟨rfl, bw_below B1 _⟩

set_option maxRecDepth 100000 in
set_option maxHeartbeats 8000000 in
theorem ref13_Right_ball (a1 a2 a3 r m : Int) (w : World) (m1 : decide (m < 0) = false) (m2 : decide (63 < m) = false)
    (KB : Hid (∀ w, Calls Try.prog 51 #[.agg #[.int .i64 a1, .int .i64 a2, .int .i64 a3], .int .i64 r] w fun en w' => en = .returned (.bool true) ∧ Below w.heap.size w w')) :
    Calls Try.prog 34 #[.agg #[.int .i64 2, .int .i64 a1, .int .i64 a2, .int .i64 a3, .int .i64 0, .int .i64 0, .int .i64 0, .int .i64 0, .int .i64 0, .int .i64 0, .int .i64 r, .int .i64 m]] w fun en w' => en = .returned (.bool true) ∧ Below w.heap.size w w' := by
  go_enter Try.func34, Try.ntmps34
  go_upto_region 1 with (fail)
  obtain ⟨W1, hW1⟩ : ∃ W, W = w.alloc (.cells #[.int .i64 2, .int .i64 a1, .int .i64 a2, .int .i64 a3, .int .i64 0, .int .i64 0, .int .i64 0, .int .i64 0, .int .i64 0, .int .i64 0, .int .i64 r, .int .i64 m] 45) := ⟨_, rfl⟩
  obtain ⟨k_p, B1⟩ := st1 hW1
  rw [← hW1]
  clear hW1
  obtain ⟨c_p_0, c_p_1, c_p_2, c_p_3, c_p_4, c_p_5, c_p_6, c_p_7, c_p_8, c_p_9, c_p_10, c_p_11⟩ := bwc12 (k_p)
  obtain ⟨p1, hp1⟩ : ∃ p : BW W1, p.w = W1 := ⟨BW.start W1, rfl⟩
  rw [← hp1]
  clear hp1
  go_wp2_with (first
    | (go_at_call 51; (first | (with_reducible refine (bw_call KB.out _).mono ?_)); rintro e w' ⟨rfl, q, rfl⟩))
  go_ret
  exact ⟨rfl, bw_below B1 _⟩

theorem ref13_Right (k a1 a2 a3 b1 b2 b3 c1 c2 c3 r m : Int) (w : World) :
    Calls Try.prog 34 #[.agg #[.int .i64 k, .int .i64 a1, .int .i64 a2, .int .i64 a3, .int .i64 b1, .int .i64 b2, .int .i64 b3, .int .i64 c1, .int .i64 c2, .int .i64 c3, .int .i64 r, .int .i64 m]] w fun en w' => en = .returned (.bool (pRight (Pr.mk k (a1, a2, a3) (b1, b2, b3) (c1, c2, c3) r m))) ∧ Below w.heap.size w w' := by
  by_cases h1 : m < 0
  · rw [show pRight (Pr.mk k (a1, a2, a3) (b1, b2, b3) (c1, c2, c3) r m) = false by unfold pRight; rw [decide_eq_false (by dsimp only; omega)]; rfl]
    exact ref13_Right_m1 k a1 a2 a3 b1 b2 b3 c1 c2 c3 r m w (decide_eq_true h1)
  by_cases h2 : 63 < m
  · rw [show pRight (Pr.mk k (a1, a2, a3) (b1, b2, b3) (c1, c2, c3) r m) = false by unfold pRight; rw [decide_eq_false (by dsimp only; omega)]; rfl]
    exact ref13_Right_m2 k a1 a2 a3 b1 b2 b3 c1 c2 c3 r m w (decide_eq_false h1) (decide_eq_true h2)
  have hm : decide (0 ≤ m ∧ m ≤ 63) = true := decide_eq_true (by omega)
  by_cases k1 : k = 1
  · subst k1
    have KF := Lib.hid (fun w => ref11_Flat a1 a2 a3 b1 b2 b3 c1 c2 c3 w)
    unfold pRight
    dsimp only
    rw [hm, if_pos rfl, Bool.true_and]
    cases hf : tFlat (a1, a2, a3) (b1, b2, b3) (c1, c2, c3) with
    | true => rw [hf] at KF; exact ref13_Right_flat a1 a2 a3 b1 b2 b3 c1 c2 c3 r m w (decide_eq_false h1) (decide_eq_false h2) KF
    | false => rw [hf] at KF; exact ref13_Right_tri a1 a2 a3 b1 b2 b3 c1 c2 c3 r m w (decide_eq_false h1) (decide_eq_false h2) KF
  by_cases k2 : k = 2
  · subst k2
    have KB := Lib.hid (fun w => ref12_Right a1 a2 a3 r w)
    unfold pRight
    dsimp only
    rw [hm, if_neg (by omega), Bool.true_and, decide_eq_true rfl, Bool.true_and]
    cases hb : ballR (a1, a2, a3) r with
    | false => rw [hb] at KB; exact ref13_Right_noball a1 a2 a3 b1 b2 b3 c1 c2 c3 r m w (decide_eq_false h1) (decide_eq_false h2) KB
    | true =>
      rw [hb] at KB
      have nz : ∀ x y z : Int, ¬ (x = 0 ∧ y = 0 ∧ z = 0) → isZ (x, y, z) = false := fun x y z h => by unfold isZ; exact decide_eq_false h
      by_cases n1 : b1 = 0
      · subst n1
        by_cases n2 : b2 = 0
        · subst n2
          by_cases n3 : b3 = 0
          · subst n3
            by_cases q1 : c1 = 0
            · subst q1
              by_cases q2 : c2 = 0
              · subst q2
                by_cases q3 : c3 = 0
                · subst q3; exact ref13_Right_ball a1 a2 a3 r m w (decide_eq_false h1) (decide_eq_false h2) KB
                · rw [nz 0 0 c3 (by omega)]; exact ref13_Right_c3 a1 a2 a3 c3 r m w (decide_eq_false h1) (decide_eq_false h2) KB q3
              · rw [nz 0 c2 c3 (by omega)]; exact ref13_Right_c2 a1 a2 a3 c2 c3 r m w (decide_eq_false h1) (decide_eq_false h2) KB q2
            · rw [nz c1 c2 c3 (by omega)]; exact ref13_Right_c1 a1 a2 a3 c1 c2 c3 r m w (decide_eq_false h1) (decide_eq_false h2) KB q1
          · rw [nz 0 0 b3 (by omega)]; exact ref13_Right_b3 a1 a2 a3 b3 c1 c2 c3 r m w (decide_eq_false h1) (decide_eq_false h2) KB n3
        · rw [nz 0 b2 b3 (by omega)]; exact ref13_Right_b2 a1 a2 a3 b2 b3 c1 c2 c3 r m w (decide_eq_false h1) (decide_eq_false h2) KB n2
      · rw [nz b1 b2 b3 (by omega)]; exact ref13_Right_b1 a1 a2 a3 b1 b2 b3 c1 c2 c3 r m w (decide_eq_false h1) (decide_eq_false h2) KB n1
  · rw [show pRight (Pr.mk k (a1, a2, a3) (b1, b2, b3) (c1, c2, c3) r m) = false by unfold pRight; rw [if_neg k1]; rw [decide_eq_false (show ¬ (Pr.mk k (a1, a2, a3) (b1, b2, b3) (c1, c2, c3) r m).k = 2 from k2), Bool.false_and, Bool.and_false]]
    exact ref13_Right_none k a1 a2 a3 b1 b2 b3 c1 c2 c3 r m w (decide_eq_false h1) (decide_eq_false h2) k1 k2

end
end Go.Proofs.Ytneacfhoinaeeaa
