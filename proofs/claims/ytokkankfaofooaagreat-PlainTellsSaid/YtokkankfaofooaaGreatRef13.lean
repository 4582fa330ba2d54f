/- Contracts of the document's own answers, layer 13: Right, Hit. -/
import Derived.Test.YtokkankfaofooaaGreatRef12
import Derived.Test.YtokkankfaofooaaGreatRef11
import Derived.Test.YtokkankfaofooaaGreatMath13
import Derived.Test.YtokkankfaofooaaGreatBw
import Derived.Deep.DeepCutAuto
namespace Go.Proofs.YtokkankfaofooaaGreat
open Go.RowKit Go.Proofs.Sky
set_option linter.unusedVariables false

set_option maxRecDepth 100000 in
set_option maxHeartbeats 8000000 in
theorem ref13_Right_m1 (k a1 a2 a3 b1 b2 b3 c1 c2 c3 r m : Int) (w : World) (m1 : decide (m < 0) = true) :
    Calls Tryz.prog 36 #[.agg #[.int .i64 k, .int .i64 a1, .int .i64 a2, .int .i64 a3, .int .i64 b1, .int .i64 b2, .int .i64 b3, .int .i64 c1, .int .i64 c2, .int .i64 c3, .int .i64 r, .int .i64 m]] w fun en w' => en = .returned (.bool false) ∧ Below w.heap.size w w' := by
  go_enter Tryz.func36, Tryz.ntmps36
  go_upto_region 1 with (fail)
  obtain ⟨W1, hW1⟩ : ∃ W, W = w.alloc (.cells #[.int .i64 k, .int .i64 a1, .int .i64 a2, .int .i64 a3, .int .i64 b1, .int .i64 b2, .int .i64 b3, .int .i64 c1, .int .i64 c2, .int .i64 c3, .int .i64 r, .int .i64 m] 43) := ⟨_, rfl⟩
  obtain ⟨k_p, B1⟩ := st1 hW1
  rw [← hW1]
  clear hW1
  obtain ⟨c_p_0, c_p_1, c_p_2, c_p_3, c_p_4, c_p_5, c_p_6, c_p_7, c_p_8, c_p_9, c_p_10, c_p_11⟩ := bwc12 (k_p)
  obtain ⟨p1, hp1⟩ : ∃ p : BW W1, p.w = W1 := ⟨BW.start W1, rfl⟩
  rw [← hp1]
  clear hp1
  go_wp2
  go_ret
  exact ⟨rfl, bw_below B1 _⟩

set_option maxRecDepth 100000 in
set_option maxHeartbeats 8000000 in
theorem ref13_Right_m2 (k a1 a2 a3 b1 b2 b3 c1 c2 c3 r m : Int) (w : World) (m1 : decide (m < 0) = false) (m2 : decide (63 < m) = true) :
    Calls Tryz.prog 36 #[.agg #[.int .i64 k, .int .i64 a1, .int .i64 a2, .int .i64 a3, .int .i64 b1, .int .i64 b2, .int .i64 b3, .int .i64 c1, .int .i64 c2, .int .i64 c3, .int .i64 r, .int .i64 m]] w fun en w' => en = .returned (.bool false) ∧ Below w.heap.size w w' := by
  go_enter Tryz.func36, Tryz.ntmps36
  go_upto_region 1 with (fail)
  obtain ⟨W1, hW1⟩ : ∃ W, W = w.alloc (.cells #[.int .i64 k, .int .i64 a1, .int .i64 a2, .int .i64 a3, .int .i64 b1, .int .i64 b2, .int .i64 b3, .int .i64 c1, .int .i64 c2, .int .i64 c3, .int .i64 r, .int .i64 m] 43) := ⟨_, rfl⟩
  obtain ⟨k_p, B1⟩ := st1 hW1
  rw [← hW1]
  clear hW1
  obtain ⟨c_p_0, c_p_1, c_p_2, c_p_3, c_p_4, c_p_5, c_p_6, c_p_7, c_p_8, c_p_9, c_p_10, c_p_11⟩ := bwc12 (k_p)
  obtain ⟨p1, hp1⟩ : ∃ p : BW W1, p.w = W1 := ⟨BW.start W1, rfl⟩
  rw [← hp1]
  clear hp1
  go_wp2
  go_ret
  exact ⟨rfl, bw_below B1 _⟩

set_option maxRecDepth 100000 in
set_option maxHeartbeats 8000000 in
theorem ref13_Right_flat (a1 a2 a3 b1 b2 b3 c1 c2 c3 r m : Int) (w : World) (m1 : decide (m < 0) = false) (m2 : decide (63 < m) = false)
    (KF : Hid (∀ w, Calls Tryz.prog 48 #[.agg #[.int .i64 a1, .int .i64 a2, .int .i64 a3], .agg #[.int .i64 b1, .int .i64 b2, .int .i64 b3], .agg #[.int .i64 c1, .int .i64 c2, .int .i64 c3]] w fun en w' => en = .returned (.bool true) ∧ Below w.heap.size w w')) :
    Calls Tryz.prog 36 #[.agg #[.int .i64 1, .int .i64 a1, .int .i64 a2, .int .i64 a3, .int .i64 b1, .int .i64 b2, .int .i64 b3, .int .i64 c1, .int .i64 c2, .int .i64 c3, .int .i64 r, .int .i64 m]] w fun en w' => en = .returned (.bool false) ∧ Below w.heap.size w w' := by
  go_enter Tryz.func36, Tryz.ntmps36
  go_upto_region 1 with (fail)
  obtain ⟨W1, hW1⟩ : ∃ W, W = w.alloc (.cells #[.int .i64 1, .int .i64 a1, .int .i64 a2, .int .i64 a3, .int .i64 b1, .int .i64 b2, .int .i64 b3, .int .i64 c1, .int .i64 c2, .int .i64 c3, .int .i64 r, .int .i64 m] 43) := ⟨_, rfl⟩
  obtain ⟨k_p, B1⟩ := st1 hW1
  rw [← hW1]
  clear hW1
  obtain ⟨c_p_0, c_p_1, c_p_2, c_p_3, c_p_4, c_p_5, c_p_6, c_p_7, c_p_8, c_p_9, c_p_10, c_p_11⟩ := bwc12 (k_p)
  obtain ⟨p1, hp1⟩ : ∃ p : BW W1, p.w = W1 := ⟨BW.start W1, rfl⟩
  rw [← hp1]
  clear hp1
  go_wp2_with (first
    | (go_at_call 48; (first | (with_reducible refine (bw_call KF.out _).mono ?_)); rintro e w' ⟨rfl, q, rfl⟩))
  go_ret
  exact ⟨rfl, bw_below B1 _⟩

set_option maxRecDepth 100000 in
set_option maxHeartbeats 8000000 in
theorem ref13_Right_tri (a1 a2 a3 b1 b2 b3 c1 c2 c3 r m : Int) (w : World) (m1 : decide (m < 0) = false) (m2 : decide (63 < m) = false)
    (KF : Hid (∀ w, Calls Tryz.prog 48 #[.agg #[.int .i64 a1, .int .i64 a2, .int .i64 a3], .agg #[.int .i64 b1, .int .i64 b2, .int .i64 b3], .agg #[.int .i64 c1, .int .i64 c2, .int .i64 c3]] w fun en w' => en = .returned (.bool false) ∧ Below w.heap.size w w')) :
    Calls Tryz.prog 36 #[.agg #[.int .i64 1, .int .i64 a1, .int .i64 a2, .int .i64 a3, .int .i64 b1, .int .i64 b2, .int .i64 b3, .int .i64 c1, .int .i64 c2, .int .i64 c3, .int .i64 r, .int .i64 m]] w fun en w' => en = .returned (.bool (r == 0)) ∧ Below w.heap.size w w' := by
  go_enter Tryz.func36, Tryz.ntmps36
  go_upto_region 1 with (fail)
  obtain ⟨W1, hW1⟩ : ∃ W, W = w.alloc (.cells #[.int .i64 1, .int .i64 a1, .int .i64 a2, .int .i64 a3, .int .i64 b1, .int .i64 b2, .int .i64 b3, .int .i64 c1, .int .i64 c2, .int .i64 c3, .int .i64 r, .int .i64 m] 43) := ⟨_, rfl⟩
  obtain ⟨k_p, B1⟩ := st1 hW1
  rw [← hW1]
  clear hW1
  obtain ⟨c_p_0, c_p_1, c_p_2, c_p_3, c_p_4, c_p_5, c_p_6, c_p_7, c_p_8, c_p_9, c_p_10, c_p_11⟩ := bwc12 (k_p)
  obtain ⟨p1, hp1⟩ : ∃ p : BW W1, p.w = W1 := ⟨BW.start W1, rfl⟩
  rw [← hp1]
  clear hp1
  go_wp2_with (first
    | (go_at_call 48; (first | (with_reducible refine (bw_call KF.out _).mono ?_)); rintro e w' ⟨rfl, q, rfl⟩))
  go_ret
  exact ⟨rfl, bw_below B1 _⟩

set_option maxRecDepth 100000 in
set_option maxHeartbeats 8000000 in
theorem ref13_Right_none (k a1 a2 a3 b1 b2 b3 c1 c2 c3 r m : Int) (w : World) (m1 : decide (m < 0) = false) (m2 : decide (63 < m) = false) (k1 : ¬ k = 1) (k2 : ¬ k = 2) :
    Calls Tryz.prog 36 #[.agg #[.int .i64 k, .int .i64 a1, .int .i64 a2, .int .i64 a3, .int .i64 b1, .int .i64 b2, .int .i64 b3, .int .i64 c1, .int .i64 c2, .int .i64 c3, .int .i64 r, .int .i64 m]] w fun en w' => en = .returned (.bool false) ∧ Below w.heap.size w w' := by
  go_enter Tryz.func36, Tryz.ntmps36
  go_upto_region 1 with (fail)
  obtain ⟨W1, hW1⟩ : ∃ W, W = w.alloc (.cells #[.int .i64 k, .int .i64 a1, .int .i64 a2, .int .i64 a3, .int .i64 b1, .int .i64 b2, .int .i64 b3, .int .i64 c1, .int .i64 c2, .int .i64 c3, .int .i64 r, .int .i64 m] 43) := ⟨_, rfl⟩
  obtain ⟨k_p, B1⟩ := st1 hW1
  rw [← hW1]
  clear hW1
  obtain ⟨c_p_0, c_p_1, c_p_2, c_p_3, c_p_4, c_p_5, c_p_6, c_p_7, c_p_8, c_p_9, c_p_10, c_p_11⟩ := bwc12 (k_p)
  obtain ⟨p1, hp1⟩ : ∃ p : BW W1, p.w = W1 := ⟨BW.start W1, rfl⟩
  rw [← hp1]
  clear hp1
  go_wp2
  go_ret
  exact ⟨rfl, bw_below B1 _⟩

set_option maxRecDepth 100000 in
set_option maxHeartbeats 8000000 in
theorem ref13_Right_noball (a1 a2 a3 b1 b2 b3 c1 c2 c3 r m : Int) (w : World) (m1 : decide (m < 0) = false) (m2 : decide (63 < m) = false)
    (KB : Hid (∀ w, Calls Tryz.prog 49 #[.agg #[.int .i64 a1, .int .i64 a2, .int .i64 a3], .int .i64 r] w fun en w' => en = .returned (.bool false) ∧ Below w.heap.size w w')) :
    Calls Tryz.prog 36 #[.agg #[.int .i64 2, .int .i64 a1, .int .i64 a2, .int .i64 a3, .int .i64 b1, .int .i64 b2, .int .i64 b3, .int .i64 c1, .int .i64 c2, .int .i64 c3, .int .i64 r, .int .i64 m]] w fun en w' => en = .returned (.bool false) ∧ Below w.heap.size w w' := by
  go_enter Tryz.func36, Tryz.ntmps36
  go_upto_region 1 with (fail)
  obtain ⟨W1, hW1⟩ : ∃ W, W = w.alloc (.cells #[.int .i64 2, .int .i64 a1, .int .i64 a2, .int .i64 a3, .int .i64 b1, .int .i64 b2, .int .i64 b3, .int .i64 c1, .int .i64 c2, .int .i64 c3, .int .i64 r, .int .i64 m] 43) := ⟨_, rfl⟩
  obtain ⟨k_p, B1⟩ := st1 hW1
  rw [← hW1]
  clear hW1
  obtain ⟨c_p_0, c_p_1, c_p_2, c_p_3, c_p_4, c_p_5, c_p_6, c_p_7, c_p_8, c_p_9, c_p_10, c_p_11⟩ := bwc12 (k_p)
  obtain ⟨p1, hp1⟩ : ∃ p : BW W1, p.w = W1 := ⟨BW.start W1, rfl⟩
  rw [← hp1]
  clear hp1
  go_wp2_with (first
    | (go_at_call 49; (first | (with_reducible refine (bw_call KB.out _).mono ?_)); rintro e w' ⟨rfl, q, rfl⟩))
  go_ret
  exact ⟨rfl, bw_below B1 _⟩

set_option maxRecDepth 100000 in
set_option maxHeartbeats 8000000 in
theorem ref13_Right_b1 (a1 a2 a3 b1 b2 b3 c1 c2 c3 r m : Int) (w : World) (m1 : decide (m < 0) = false) (m2 : decide (63 < m) = false)
    (KB : Hid (∀ w, Calls Tryz.prog 49 #[.agg #[.int .i64 a1, .int .i64 a2, .int .i64 a3], .int .i64 r] w fun en w' => en = .returned (.bool true) ∧ Below w.heap.size w w')) (ne : ¬ b1 = 0) :
    Calls Tryz.prog 36 #[.agg #[.int .i64 2, .int .i64 a1, .int .i64 a2, .int .i64 a3, .int .i64 b1, .int .i64 b2, .int .i64 b3, .int .i64 c1, .int .i64 c2, .int .i64 c3, .int .i64 r, .int .i64 m]] w fun en w' => en = .returned (.bool false) ∧ Below w.heap.size w w' := by
  go_enter Tryz.func36, Tryz.ntmps36
  go_upto_region 1 with (fail)
  obtain ⟨W1, hW1⟩ : ∃ W, W = w.alloc (.cells #[.int .i64 2, .int .i64 a1, .int .i64 a2, .int .i64 a3, .int .i64 b1, .int .i64 b2, .int .i64 b3, .int .i64 c1, .int .i64 c2, .int .i64 c3, .int .i64 r, .int .i64 m] 43) := ⟨_, rfl⟩
  obtain ⟨k_p, B1⟩ := st1 hW1
  rw [← hW1]
  clear hW1
  obtain ⟨c_p_0, c_p_1, c_p_2, c_p_3, c_p_4, c_p_5, c_p_6, c_p_7, c_p_8, c_p_9, c_p_10, c_p_11⟩ := bwc12 (k_p)
  obtain ⟨p1, hp1⟩ : ∃ p : BW W1, p.w = W1 := ⟨BW.start W1, rfl⟩
  rw [← hp1]
  clear hp1
  go_wp2_with (first
    | (go_at_call 49; (first | (with_reducible refine (bw_call KB.out _).mono ?_)); rintro e w' ⟨rfl, q, rfl⟩))
  go_ret
  exact ⟨rfl, bw_below B1 _⟩

set_option maxRecDepth 100000 in
set_option maxHeartbeats 8000000 in
theorem ref13_Right_b2 (a1 a2 a3 b2 b3 c1 c2 c3 r m : Int) (w : World) (m1 : decide (m < 0) = false) (m2 : decide (63 < m) = false)
    (KB : Hid (∀ w, Calls Tryz.prog 49 #[.agg #[.int .i64 a1, .int .i64 a2, .int .i64 a3], .int .i64 r] w fun en w' => en = .returned (.bool true) ∧ Below w.heap.size w w')) (ne : ¬ b2 = 0) :
    Calls Tryz.prog 36 #[.agg #[.int .i64 2, .int .i64 a1, .int .i64 a2, .int .i64 a3, .int .i64 0, .int .i64 b2, .int .i64 b3, .int .i64 c1, .int .i64 c2, .int .i64 c3, .int .i64 r, .int .i64 m]] w fun en w' => en = .returned (.bool false) ∧ Below w.heap.size w w' := by
  go_enter Tryz.func36, Tryz.ntmps36
  go_upto_region 1 with (fail)
  obtain ⟨W1, hW1⟩ : ∃ W, W = w.alloc (.cells #[.int .i64 2, .int .i64 a1, .int .i64 a2, .int .i64 a3, .int .i64 0, .int .i64 b2, .int .i64 b3, .int .i64 c1, .int .i64 c2, .int .i64 c3, .int .i64 r, .int .i64 m] 43) := ⟨_, rfl⟩
  obtain ⟨k_p, B1⟩ := st1 hW1
  rw [← hW1]
  clear hW1
  obtain ⟨c_p_0, c_p_1, c_p_2, c_p_3, c_p_4, c_p_5, c_p_6, c_p_7, c_p_8, c_p_9, c_p_10, c_p_11⟩ := bwc12 (k_p)
  obtain ⟨p1, hp1⟩ : ∃ p : BW W1, p.w = W1 := ⟨BW.start W1, rfl⟩
  rw [← hp1]
  clear hp1
  go_wp2_with (first
    | (go_at_call 49; (first | (with_reducible refine (bw_call KB.out _).mono ?_)); rintro e w' ⟨rfl, q, rfl⟩))
  go_ret
  exact ⟨rfl, bw_below B1 _⟩

set_option maxRecDepth 100000 in
set_option maxHeartbeats 8000000 in
theorem ref13_Right_b3 (a1 a2 a3 b3 c1 c2 c3 r m : Int) (w : World) (m1 : decide (m < 0) = false) (m2 : decide (63 < m) = false)
    (KB : Hid (∀ w, Calls Tryz.prog 49 #[.agg #[.int .i64 a1, .int .i64 a2, .int .i64 a3], .int .i64 r] w fun en w' => en = .returned (.bool true) ∧ Below w.heap.size w w')) (ne : ¬ b3 = 0) :
    Calls Tryz.prog 36 #[.agg #[.int .i64 2, .int .i64 a1, .int .i64 a2, .int .i64 a3, .int .i64 0, .int .i64 0, .int .i64 b3, .int .i64 c1, .int .i64 c2, .int .i64 c3, .int .i64 r, .int .i64 m]] w fun en w' => en = .returned (.bool false) ∧ Below w.heap.size w w' := by
  go_enter Tryz.func36, Tryz.ntmps36
  go_upto_region 1 with (fail)
  obtain ⟨W1, hW1⟩ : ∃ W, W = w.alloc (.cells #[.int .i64 2, .int .i64 a1, .int .i64 a2, .int .i64 a3, .int .i64 0, .int .i64 0, .int .i64 b3, .int .i64 c1, .int .i64 c2, .int .i64 c3, .int .i64 r, .int .i64 m] 43) := ⟨_, rfl⟩
  obtain ⟨k_p, B1⟩ := st1 hW1
  rw [← hW1]
  clear hW1
  obtain ⟨c_p_0, c_p_1, c_p_2, c_p_3, c_p_4, c_p_5, c_p_6, c_p_7, c_p_8, c_p_9, c_p_10, c_p_11⟩ := bwc12 (k_p)
  obtain ⟨p1, hp1⟩ : ∃ p : BW W1, p.w = W1 := ⟨BW.start W1, rfl⟩
  rw [← hp1]
  clear hp1
  go_wp2_with (first
    | (go_at_call 49; (first | (with_reducible refine (bw_call KB.out _).mono ?_)); rintro e w' ⟨rfl, q, rfl⟩))
  go_ret
  exact ⟨rfl, bw_below B1 _⟩

set_option maxRecDepth 100000 in
set_option maxHeartbeats 8000000 in
theorem ref13_Right_c1 (a1 a2 a3 c1 c2 c3 r m : Int) (w : World) (m1 : decide (m < 0) = false) (m2 : decide (63 < m) = false)
    (KB : Hid (∀ w, Calls Tryz.prog 49 #[.agg #[.int .i64 a1, .int .i64 a2, .int .i64 a3], .int .i64 r] w fun en w' => en = .returned (.bool true) ∧ Below w.heap.size w w')) (ne : ¬ c1 = 0) :
    Calls Tryz.prog 36 #[.agg #[.int .i64 2, .int .i64 a1, .int .i64 a2, .int .i64 a3, .int .i64 0, .int .i64 0, .int .i64 0, .int .i64 c1, .int .i64 c2, .int .i64 c3, .int .i64 r, .int .i64 m]] w fun en w' => en = .returned (.bool false) ∧ Below w.heap.size w w' := by
  go_enter Tryz.func36, Tryz.ntmps36
  go_upto_region 1 with (fail)
  obtain ⟨W1, hW1⟩ : ∃ W, W = w.alloc (.cells #[.int .i64 2, .int .i64 a1, .int .i64 a2, .int .i64 a3, .int .i64 0, .int .i64 0, .int .i64 0, .int .i64 c1, .int .i64 c2, .int .i64 c3, .int .i64 r, .int .i64 m] 43) := ⟨_, rfl⟩
  obtain ⟨k_p, B1⟩ := st1 hW1
  rw [← hW1]
  clear hW1
  obtain ⟨c_p_0, c_p_1, c_p_2, c_p_3, c_p_4, c_p_5, c_p_6, c_p_7, c_p_8, c_p_9, c_p_10, c_p_11⟩ := bwc12 (k_p)
  obtain ⟨p1, hp1⟩ : ∃ p : BW W1, p.w = W1 := ⟨BW.start W1, rfl⟩
  rw [← hp1]
  clear hp1
  go_wp2_with (first
    | (go_at_call 49; (first | (with_reducible refine (bw_call KB.out _).mono ?_)); rintro e w' ⟨rfl, q, rfl⟩))
  go_ret
  exact ⟨rfl, bw_below B1 _⟩

set_option maxRecDepth 100000 in
set_option maxHeartbeats 8000000 in
theorem ref13_Right_c2 (a1 a2 a3 c2 c3 r m : Int) (w : World) (m1 : decide (m < 0) = false) (m2 : decide (63 < m) = false)
    (KB : Hid (∀ w, Calls Tryz.prog 49 #[.agg #[.int .i64 a1, .int .i64 a2, .int .i64 a3], .int .i64 r] w fun en w' => en = .returned (.bool true) ∧ Below w.heap.size w w')) (ne : ¬ c2 = 0) :
    Calls Tryz.prog 36 #[.agg #[.int .i64 2, .int .i64 a1, .int .i64 a2, .int .i64 a3, .int .i64 0, .int .i64 0, .int .i64 0, .int .i64 0, .int .i64 c2, .int .i64 c3, .int .i64 r, .int .i64 m]] w fun en w' => en = .returned (.bool false) ∧ Below w.heap.size w w' := by
  go_enter Tryz.func36, Tryz.ntmps36
  go_upto_region 1 with (fail)
  obtain ⟨W1, hW1⟩ : ∃ W, W = w.alloc (.cells #[.int .i64 2, .int .i64 a1, .int .i64 a2, .int .i64 a3, .int .i64 0, .int .i64 0, .int .i64 0, .int .i64 0, .int .i64 c2, .int .i64 c3, .int .i64 r, .int .i64 m] 43) := ⟨_, rfl⟩
  obtain ⟨k_p, B1⟩ := st1 hW1
  rw [← hW1]
  clear hW1
  obtain ⟨c_p_0, c_p_1, c_p_2, c_p_3, c_p_4, c_p_5, c_p_6, c_p_7, c_p_8, c_p_9, c_p_10, c_p_11⟩ := bwc12 (k_p)
  obtain ⟨p1, hp1⟩ : ∃ p : BW W1, p.w = W1 := ⟨BW.start W1, rfl⟩
  rw [← hp1]
  clear hp1
  go_wp2_with (first
    | (go_at_call 49; (first | (with_reducible refine (bw_call KB.out _).mono ?_)); rintro e w' ⟨rfl, q, rfl⟩))
  go_ret
  exact ⟨rfl, bw_below B1 _⟩

set_option maxRecDepth 100000 in
set_option maxHeartbeats 8000000 in
theorem ref13_Right_c3 (a1 a2 a3 c3 r m : Int) (w : World) (m1 : decide (m < 0) = false) (m2 : decide (63 < m) = false)
    (KB : Hid (∀ w, Calls Tryz.prog 49 #[.agg #[.int .i64 a1, .int .i64 a2, .int .i64 a3], .int .i64 r] w fun en w' => en = .returned (.bool true) ∧ Below w.heap.size w w')) (ne : ¬ c3 = 0) :
    Calls Tryz.prog 36 #[.agg #[.int .i64 2, .int .i64 a1, .int .i64 a2, .int .i64 a3, .int .i64 0, .int .i64 0, .int .i64 0, .int .i64 0, .int .i64 0, .int .i64 c3, .int .i64 r, .int .i64 m]] w fun en w' => en = .returned (.bool false) ∧ Below w.heap.size w w' := by
  go_enter Tryz.func36, Tryz.ntmps36
  go_upto_region 1 with (fail)
  obtain ⟨W1, hW1⟩ : ∃ W, W = w.alloc (.cells #[.int .i64 2, .int .i64 a1, .int .i64 a2, .int .i64 a3, .int .i64 0, .int .i64 0, .int .i64 0, .int .i64 0, .int .i64 0, .int .i64 c3, .int .i64 r, .int .i64 m] 43) := ⟨_, rfl⟩
  obtain ⟨k_p, B1⟩ := st1 hW1
  rw [← hW1]
  clear hW1
  obtain ⟨c_p_0, c_p_1, c_p_2, c_p_3, c_p_4, c_p_5, c_p_6, c_p_7, c_p_8, c_p_9, c_p_10, c_p_11⟩ := bwc12 (k_p)
  obtain ⟨p1, hp1⟩ : ∃ p : BW W1, p.w = W1 := ⟨BW.start W1, rfl⟩
  rw [← hp1]
  clear hp1
  go_wp2_with (first
    | (go_at_call 49; (first | (with_reducible refine (bw_call KB.out _).mono ?_)); rintro e w' ⟨rfl, q, rfl⟩))
  go_ret
  exact ⟨rfl, bw_below B1 _⟩

set_option maxRecDepth 100000 in
set_option maxHeartbeats 8000000 in
theorem ref13_Right_ball (a1 a2 a3 r m : Int) (w : World) (m1 : decide (m < 0) = false) (m2 : decide (63 < m) = false)
    (KB : Hid (∀ w, Calls Tryz.prog 49 #[.agg #[.int .i64 a1, .int .i64 a2, .int .i64 a3], .int .i64 r] w fun en w' => en = .returned (.bool true) ∧ Below w.heap.size w w')) :
    Calls Tryz.prog 36 #[.agg #[.int .i64 2, .int .i64 a1, .int .i64 a2, .int .i64 a3, .int .i64 0, .int .i64 0, .int .i64 0, .int .i64 0, .int .i64 0, .int .i64 0, .int .i64 r, .int .i64 m]] w fun en w' => en = .returned (.bool true) ∧ Below w.heap.size w w' := by
  go_enter Tryz.func36, Tryz.ntmps36
  go_upto_region 1 with (fail)
  obtain ⟨W1, hW1⟩ : ∃ W, W = w.alloc (.cells #[.int .i64 2, .int .i64 a1, .int .i64 a2, .int .i64 a3, .int .i64 0, .int .i64 0, .int .i64 0, .int .i64 0, .int .i64 0, .int .i64 0, .int .i64 r, .int .i64 m] 43) := ⟨_, rfl⟩
  obtain ⟨k_p, B1⟩ := st1 hW1
  rw [← hW1]
  clear hW1
  obtain ⟨c_p_0, c_p_1, c_p_2, c_p_3, c_p_4, c_p_5, c_p_6, c_p_7, c_p_8, c_p_9, c_p_10, c_p_11⟩ := bwc12 (k_p)
  obtain ⟨p1, hp1⟩ : ∃ p : BW W1, p.w = W1 := ⟨BW.start W1, rfl⟩
  rw [← hp1]
  clear hp1
  go_wp2_with (first
    | (go_at_call 49; (first | (with_reducible refine (bw_call KB.out _).mono ?_)); rintro e w' ⟨rfl, q, rfl⟩))
  go_ret
  exact ⟨rfl, bw_below B1 _⟩

theorem ref13_Right (k a1 a2 a3 b1 b2 b3 c1 c2 c3 r m : Int) (w : World) :
    Calls Tryz.prog 36 #[.agg #[.int .i64 k, .int .i64 a1, .int .i64 a2, .int .i64 a3, .int .i64 b1, .int .i64 b2, .int .i64 b3, .int .i64 c1, .int .i64 c2, .int .i64 c3, .int .i64 r, .int .i64 m]] w fun en w' => en = .returned (.bool (pRight (Pr.mk k (a1, a2, a3) (b1, b2, b3) (c1, c2, c3) r m))) ∧ Below w.heap.size w w' := by
  by_cases h1 : m < 0
  · rw [show pRight (Pr.mk k (a1, a2, a3) (b1, b2, b3) (c1, c2, c3) r m) = false by unfold pRight; rw [decide_eq_false (by dsimp only; omega)]; rfl]
    exact ref13_Right_m1 k a1 a2 a3 b1 b2 b3 c1 c2 c3 r m w (decide_eq_true h1)
  by_cases h2 : 63 < m
  · rw [show pRight (Pr.mk k (a1, a2, a3) (b1, b2, b3) (c1, c2, c3) r m) = false by unfold pRight; rw [decide_eq_false (by dsimp only; omega)]; rfl]
    exact ref13_Right_m2 k a1 a2 a3 b1 b2 b3 c1 c2 c3 r m w (decide_eq_false h1) (decide_eq_true h2)
  have hm : decide (0 ≤ m ∧ m ≤ 63) = true := decide_eq_true (by omega)
  by_cases k1 : k = 1
  · subst k1
    have KF := Lib.hid (fun w => ref11_Flat a1 a2 a3 b1 b2 b3 c1 c2 c3 w)
    unfold pRight
    dsimp only
    rw [hm, if_pos rfl, Bool.true_and]
    cases hf : tFlat (a1, a2, a3) (b1, b2, b3) (c1, c2, c3) with
    | true => rw [hf] at KF; exact ref13_Right_flat a1 a2 a3 b1 b2 b3 c1 c2 c3 r m w (decide_eq_false h1) (decide_eq_false h2) KF
    | false => rw [hf] at KF; exact ref13_Right_tri a1 a2 a3 b1 b2 b3 c1 c2 c3 r m w (decide_eq_false h1) (decide_eq_false h2) KF
  by_cases k2 : k = 2
  · subst k2
    have KB := Lib.hid (fun w => ref12_Right a1 a2 a3 r w)
    unfold pRight
    dsimp only
    rw [hm, if_neg (by omega), Bool.true_and, decide_eq_true rfl, Bool.true_and]
    cases hb : ballR (a1, a2, a3) r with
    | false => rw [hb] at KB; exact ref13_Right_noball a1 a2 a3 b1 b2 b3 c1 c2 c3 r m w (decide_eq_false h1) (decide_eq_false h2) KB
    | true =>
      rw [hb] at KB
      have nz : ∀ x y z : Int, ¬ (x = 0 ∧ y = 0 ∧ z = 0) → isZ (x, y, z) = false := fun x y z h => by unfold isZ; exact decide_eq_false h
      by_cases n1 : b1 = 0
      · subst n1
        by_cases n2 : b2 = 0
        · subst n2
          by_cases n3 : b3 = 0
          · subst n3
            by_cases q1 : c1 = 0
            · subst q1
              by_cases q2 : c2 = 0
              · subst q2
                by_cases q3 : c3 = 0
                · subst q3; exact ref13_Right_ball a1 a2 a3 r m w (decide_eq_false h1) (decide_eq_false h2) KB
                · rw [nz 0 0 c3 (by omega)]; exact ref13_Right_c3 a1 a2 a3 c3 r m w (decide_eq_false h1) (decide_eq_false h2) KB q3
              · rw [nz 0 c2 c3 (by omega)]; exact ref13_Right_c2 a1 a2 a3 c2 c3 r m w (decide_eq_false h1) (decide_eq_false h2) KB q2
            · rw [nz c1 c2 c3 (by omega)]; exact ref13_Right_c1 a1 a2 a3 c1 c2 c3 r m w (decide_eq_false h1) (decide_eq_false h2) KB q1
          · rw [nz 0 0 b3 (by omega)]; exact ref13_Right_b3 a1 a2 a3 b3 c1 c2 c3 r m w (decide_eq_false h1) (decide_eq_false h2) KB n3
        · rw [nz 0 b2 b3 (by omega)]; exact ref13_Right_b2 a1 a2 a3 b2 b3 c1 c2 c3 r m w (decide_eq_false h1) (decide_eq_false h2) KB n2
      · rw [nz b1 b2 b3 (by omega)]; exact ref13_Right_b1 a1 a2 a3 b1 b2 b3 c1 c2 c3 r m w (decide_eq_false h1) (decide_eq_false h2) KB n1
  · rw [show pRight (Pr.mk k (a1, a2, a3) (b1, b2, b3) (c1, c2, c3) r m) = false by unfold pRight; rw [if_neg k1]; rw [decide_eq_false (show ¬ (Pr.mk k (a1, a2, a3) (b1, b2, b3) (c1, c2, c3) r m).k = 2 from k2), Bool.false_and, Bool.and_false]]
    exact ref13_Right_none k a1 a2 a3 b1 b2 b3 c1 c2 c3 r m w (decide_eq_false h1) (decide_eq_false h2) k1 k2

set_option maxRecDepth 100000 in
set_option maxHeartbeats 8000000 in
theorem ref13_Hit_none (k a1 a2 a3 b1 b2 b3 c1 c2 c3 r m ix o1 o2 o3 d1 d2 d3 fr : Int) (w : World) 
    (KR : Hid (∀ w, Calls Tryz.prog 36 #[.agg #[.int .i64 k, .int .i64 a1, .int .i64 a2, .int .i64 a3, .int .i64 b1, .int .i64 b2, .int .i64 b3, .int .i64 c1, .int .i64 c2, .int .i64 c3, .int .i64 r, .int .i64 m]] w fun en w' => en = .returned (.bool false) ∧ Below w.heap.size w w')) :
    Calls Tryz.prog 28 #[.agg #[.int .i64 k, .int .i64 a1, .int .i64 a2, .int .i64 a3, .int .i64 b1, .int .i64 b2, .int .i64 b3, .int .i64 c1, .int .i64 c2, .int .i64 c3, .int .i64 r, .int .i64 m], .int .i64 ix, .agg #[.int .i64 o1, .int .i64 o2, .int .i64 o3, .int .i64 d1, .int .i64 d2, .int .i64 d3, .int .i64 fr]] w fun en w' => en = .returned (.tuple #[.agg #[.int .i64 0, .int .i64 0], .bool false]) ∧ Below w.heap.size w w' := by
  go_enter Tryz.func28, Tryz.ntmps28
  go_upto_region 1 with (fail)
  obtain ⟨W1, hW1⟩ : ∃ W, W = ((w.alloc (.cells #[.int .i64 k, .int .i64 a1, .int .i64 a2, .int .i64 a3, .int .i64 b1, .int .i64 b2, .int .i64 b3, .int .i64 c1, .int .i64 c2, .int .i64 c3, .int .i64 r, .int .i64 m] 43)).alloc (.cells #[.int .i64 o1, .int .i64 o2, .int .i64 o3, .int .i64 d1, .int .i64 d2, .int .i64 d3, .int .i64 fr] 27)).alloc (.cells #[.int .i64 0, .int .i64 0] 29) := ⟨_, rfl⟩
  obtain ⟨k_p, k_y, k_h, B1⟩ := st3 hW1
  rw [← hW1]
  clear hW1
  have l_y : w.heap.size < w.heap.size + 1 := by omega
  have l_h : w.heap.size + 1 < w.heap.size + 1 + 1 := by omega
  generalize w.heap.size + 1 + 1 = g_h at *
  generalize w.heap.size + 1 = g_y at *
  obtain ⟨c_p_0, c_p_1, c_p_2, c_p_3, c_p_4, c_p_5, c_p_6, c_p_7, c_p_8, c_p_9, c_p_10, c_p_11⟩ := bwc12 (k_p)
  obtain ⟨c_y_0, c_y_1, c_y_2, c_y_3, c_y_4, c_y_5, c_y_6⟩ := bwc7 (k_y)
  obtain ⟨c_h_0, c_h_1⟩ := bwc2 (k_h)
  obtain ⟨f_h_0, f_h_1⟩ := bwf2 (k_h)
  obtain ⟨p1, hp1⟩ : ∃ p : BW W1, p.w = W1 := ⟨BW.start W1, rfl⟩
  rw [← hp1]
  clear hp1
  go_wp2_with (first
    | (go_at_call 36; (first | (with_reducible refine (bw_call KR.out _).mono ?_)); rintro e w' ⟨rfl, q, rfl⟩))
  have kr := bkp2 (k_h.below q.h) (.int .i64 0) (.int .i64 0)
  obtain ⟨rc0, rc1⟩ := rwc2 kr
  exact bodyPost_ret (v := .tuple #[.agg #[.int .i64 0, .int .i64 0], .bool false]) (by simp [results, Tryz.results28, go_sem, rc0, rc1]) rfl ⟨rfl, blp2 (bw_below B1 q) (by omega)⟩

set_option maxRecDepth 100000 in
set_option maxHeartbeats 8000000 in
theorem ref13_Hit_own (a1 a2 a3 b1 b2 b3 c1 c2 c3 r m ix o1 o2 o3 d1 d2 d3 : Int) (w : World) 
    (KR : Hid (∀ w, Calls Tryz.prog 36 #[.agg #[.int .i64 1, .int .i64 a1, .int .i64 a2, .int .i64 a3, .int .i64 b1, .int .i64 b2, .int .i64 b3, .int .i64 c1, .int .i64 c2, .int .i64 c3, .int .i64 r, .int .i64 m]] w fun en w' => en = .returned (.bool true) ∧ Below w.heap.size w w')) :
    Calls Tryz.prog 28 #[.agg #[.int .i64 1, .int .i64 a1, .int .i64 a2, .int .i64 a3, .int .i64 b1, .int .i64 b2, .int .i64 b3, .int .i64 c1, .int .i64 c2, .int .i64 c3, .int .i64 r, .int .i64 m], .int .i64 ix, .agg #[.int .i64 o1, .int .i64 o2, .int .i64 o3, .int .i64 d1, .int .i64 d2, .int .i64 d3, .int .i64 ix]] w fun en w' => en = .returned (.tuple #[.agg #[.int .i64 0, .int .i64 0], .bool false]) ∧ Below w.heap.size w w' := by
  go_enter Tryz.func28, Tryz.ntmps28
  go_upto_region 1 with (fail)
  obtain ⟨W1, hW1⟩ : ∃ W, W = ((w.alloc (.cells #[.int .i64 1, .int .i64 a1, .int .i64 a2, .int .i64 a3, .int .i64 b1, .int .i64 b2, .int .i64 b3, .int .i64 c1, .int .i64 c2, .int .i64 c3, .int .i64 r, .int .i64 m] 43)).alloc (.cells #[.int .i64 o1, .int .i64 o2, .int .i64 o3, .int .i64 d1, .int .i64 d2, .int .i64 d3, .int .i64 ix] 27)).alloc (.cells #[.int .i64 0, .int .i64 0] 29) := ⟨_, rfl⟩
  obtain ⟨k_p, k_y, k_h, B1⟩ := st3 hW1
  rw [← hW1]
  clear hW1
  have l_y : w.heap.size < w.heap.size + 1 := by omega
  have l_h : w.heap.size + 1 < w.heap.size + 1 + 1 := by omega
  generalize w.heap.size + 1 + 1 = g_h at *
  generalize w.heap.size + 1 = g_y at *
  obtain ⟨c_p_0, c_p_1, c_p_2, c_p_3, c_p_4, c_p_5, c_p_6, c_p_7, c_p_8, c_p_9, c_p_10, c_p_11⟩ := bwc12 (k_p)
  obtain ⟨c_y_0, c_y_1, c_y_2, c_y_3, c_y_4, c_y_5, c_y_6⟩ := bwc7 (k_y)
  obtain ⟨c_h_0, c_h_1⟩ := bwc2 (k_h)
  obtain ⟨f_h_0, f_h_1⟩ := bwf2 (k_h)
  obtain ⟨p1, hp1⟩ : ∃ p : BW W1, p.w = W1 := ⟨BW.start W1, rfl⟩
  rw [← hp1]
  clear hp1
  go_wp2_with (first
    | (go_at_call 36; (first | (with_reducible refine (bw_call KR.out _).mono ?_)); rintro e w' ⟨rfl, q, rfl⟩))
  have kr := bkp2 (k_h.below q.h) (.int .i64 0) (.int .i64 0)
  obtain ⟨rc0, rc1⟩ := rwc2 kr
  exact bodyPost_ret (v := .tuple #[.agg #[.int .i64 0, .int .i64 0], .bool false]) (by simp [results, Tryz.results28, go_sem, rc0, rc1]) rfl ⟨rfl, blp2 (bw_below B1 q) (by omega)⟩

set_option maxRecDepth 100000 in
set_option maxHeartbeats 8000000 in
theorem ref13_Hit_tri (a1 a2 a3 b1 b2 b3 c1 c2 c3 r m ix o1 o2 o3 d1 d2 d3 fr hn hd : Int) (w : World) (ok : Bool) 
    (KR : Hid (∀ w, Calls Tryz.prog 36 #[.agg #[.int .i64 1, .int .i64 a1, .int .i64 a2, .int .i64 a3, .int .i64 b1, .int .i64 b2, .int .i64 b3, .int .i64 c1, .int .i64 c2, .int .i64 c3, .int .i64 r, .int .i64 m]] w fun en w' => en = .returned (.bool true) ∧ Below w.heap.size w w')) (ne : ¬ fr = ix)
    (KH : Hid (∀ w, Calls Tryz.prog 37 #[.agg #[.int .i64 a1, .int .i64 a2, .int .i64 a3], .agg #[.int .i64 b1, .int .i64 b2, .int .i64 b3], .agg #[.int .i64 c1, .int .i64 c2, .int .i64 c3], .agg #[.int .i64 o1, .int .i64 o2, .int .i64 o3, .int .i64 d1, .int .i64 d2, .int .i64 d3, .int .i64 fr]] w fun en w' => en = .returned (.tuple #[.agg #[.int .i64 hn, .int .i64 hd], .bool ok]) ∧ Below w.heap.size w w')) :
    Calls Tryz.prog 28 #[.agg #[.int .i64 1, .int .i64 a1, .int .i64 a2, .int .i64 a3, .int .i64 b1, .int .i64 b2, .int .i64 b3, .int .i64 c1, .int .i64 c2, .int .i64 c3, .int .i64 r, .int .i64 m], .int .i64 ix, .agg #[.int .i64 o1, .int .i64 o2, .int .i64 o3, .int .i64 d1, .int .i64 d2, .int .i64 d3, .int .i64 fr]] w fun en w' => en = .returned (.tuple #[.agg #[.int .i64 hn, .int .i64 hd], .bool ok]) ∧ Below w.heap.size w w' := by
  go_enter Tryz.func28, Tryz.ntmps28
  go_upto_region 1 with (fail)
  obtain ⟨W1, hW1⟩ : ∃ W, W = ((w.alloc (.cells #[.int .i64 1, .int .i64 a1, .int .i64 a2, .int .i64 a3, .int .i64 b1, .int .i64 b2, .int .i64 b3, .int .i64 c1, .int .i64 c2, .int .i64 c3, .int .i64 r, .int .i64 m] 43)).alloc (.cells #[.int .i64 o1, .int .i64 o2, .int .i64 o3, .int .i64 d1, .int .i64 d2, .int .i64 d3, .int .i64 fr] 27)).alloc (.cells #[.int .i64 0, .int .i64 0] 29) := ⟨_, rfl⟩
  obtain ⟨k_p, k_y, k_h, B1⟩ := st3 hW1
  rw [← hW1]
  clear hW1
  have l_y : w.heap.size < w.heap.size + 1 := by omega
  have l_h : w.heap.size + 1 < w.heap.size + 1 + 1 := by omega
  generalize w.heap.size + 1 + 1 = g_h at *
  generalize w.heap.size + 1 = g_y at *
  obtain ⟨c_p_0, c_p_1, c_p_2, c_p_3, c_p_4, c_p_5, c_p_6, c_p_7, c_p_8, c_p_9, c_p_10, c_p_11⟩ := bwc12 (k_p)
  obtain ⟨c_y_0, c_y_1, c_y_2, c_y_3, c_y_4, c_y_5, c_y_6⟩ := bwc7 (k_y)
  obtain ⟨c_h_0, c_h_1⟩ := bwc2 (k_h)
  obtain ⟨f_h_0, f_h_1⟩ := bwf2 (k_h)
  obtain ⟨p1, hp1⟩ : ∃ p : BW W1, p.w = W1 := ⟨BW.start W1, rfl⟩
  rw [← hp1]
  clear hp1
  go_wp2_with (first
    | (go_at_call 36; (first | (with_reducible refine (bw_call KR.out _).mono ?_)); rintro e w' ⟨rfl, q, rfl⟩)
    | (go_at_call 37; (first | (with_reducible refine (bw_call KH.out _).mono ?_)); rintro e w' ⟨rfl, q, rfl⟩))
  have kr := bkp2 (k_h.below q.h) (.int .i64 hn) (.int .i64 hd)
  obtain ⟨rc0, rc1⟩ := rwc2 kr
  exact bodyPost_ret (v := .tuple #[.agg #[.int .i64 hn, .int .i64 hd], .bool ok]) (by simp [results, Tryz.results28, go_sem, rc0, rc1]) rfl ⟨rfl, blp2 (bw_below B1 q) (by omega)⟩

set_option maxRecDepth 100000 in
set_option maxHeartbeats 8000000 in
theorem ref13_Hit_through (k a1 a2 a3 b1 b2 b3 c1 c2 c3 r m ix o1 o2 o3 d1 d2 d3 hn hd : Int) (w : World) (ok : Bool) 
    (KR : Hid (∀ w, Calls Tryz.prog 36 #[.agg #[.int .i64 k, .int .i64 a1, .int .i64 a2, .int .i64 a3, .int .i64 b1, .int .i64 b2, .int .i64 b3, .int .i64 c1, .int .i64 c2, .int .i64 c3, .int .i64 r, .int .i64 m]] w fun en w' => en = .returned (.bool true) ∧ Below w.heap.size w w')) (nk : ¬ k = 1)
    (KH : Hid (∀ w, Calls Tryz.prog 38 #[.agg #[.int .i64 a1, .int .i64 a2, .int .i64 a3], .int .i64 r, .agg #[.int .i64 o1, .int .i64 o2, .int .i64 o3, .int .i64 d1, .int .i64 d2, .int .i64 d3, .int .i64 ix]] w fun en w' => en = .returned (.tuple #[.agg #[.int .i64 hn, .int .i64 hd], .bool ok]) ∧ Below w.heap.size w w')) :
    Calls Tryz.prog 28 #[.agg #[.int .i64 k, .int .i64 a1, .int .i64 a2, .int .i64 a3, .int .i64 b1, .int .i64 b2, .int .i64 b3, .int .i64 c1, .int .i64 c2, .int .i64 c3, .int .i64 r, .int .i64 m], .int .i64 ix, .agg #[.int .i64 o1, .int .i64 o2, .int .i64 o3, .int .i64 d1, .int .i64 d2, .int .i64 d3, .int .i64 ix]] w fun en w' => en = .returned (.tuple #[.agg #[.int .i64 hn, .int .i64 hd], .bool ok]) ∧ Below w.heap.size w w' := by
  go_enter Tryz.func28, Tryz.ntmps28
  go_upto_region 1 with (fail)
  obtain ⟨W1, hW1⟩ : ∃ W, W = ((w.alloc (.cells #[.int .i64 k, .int .i64 a1, .int .i64 a2, .int .i64 a3, .int .i64 b1, .int .i64 b2, .int .i64 b3, .int .i64 c1, .int .i64 c2, .int .i64 c3, .int .i64 r, .int .i64 m] 43)).alloc (.cells #[.int .i64 o1, .int .i64 o2, .int .i64 o3, .int .i64 d1, .int .i64 d2, .int .i64 d3, .int .i64 ix] 27)).alloc (.cells #[.int .i64 0, .int .i64 0] 29) := ⟨_, rfl⟩
  obtain ⟨k_p, k_y, k_h, B1⟩ := st3 hW1
  rw [← hW1]
  clear hW1
  have l_y : w.heap.size < w.heap.size + 1 := by omega
  have l_h : w.heap.size + 1 < w.heap.size + 1 + 1 := by omega
  generalize w.heap.size + 1 + 1 = g_h at *
  generalize w.heap.size + 1 = g_y at *
  obtain ⟨c_p_0, c_p_1, c_p_2, c_p_3, c_p_4, c_p_5, c_p_6, c_p_7, c_p_8, c_p_9, c_p_10, c_p_11⟩ := bwc12 (k_p)
  obtain ⟨c_y_0, c_y_1, c_y_2, c_y_3, c_y_4, c_y_5, c_y_6⟩ := bwc7 (k_y)
  obtain ⟨c_h_0, c_h_1⟩ := bwc2 (k_h)
  obtain ⟨f_h_0, f_h_1⟩ := bwf2 (k_h)
  obtain ⟨p1, hp1⟩ : ∃ p : BW W1, p.w = W1 := ⟨BW.start W1, rfl⟩
  rw [← hp1]
  clear hp1
  go_wp2_with (first
    | (go_at_call 36; (first | (with_reducible refine (bw_call KR.out _).mono ?_)); rintro e w' ⟨rfl, q, rfl⟩)
    | (go_at_call 38; (first | (with_reducible refine (bw_call KH.out _).mono ?_)); rintro e w' ⟨rfl, q, rfl⟩))
  have kr := bkp2 (k_h.below q.h) (.int .i64 hn) (.int .i64 hd)
  obtain ⟨rc0, rc1⟩ := rwc2 kr
  exact bodyPost_ret (v := .tuple #[.agg #[.int .i64 hn, .int .i64 hd], .bool ok]) (by simp [results, Tryz.results28, go_sem, rc0, rc1]) rfl ⟨rfl, blp2 (bw_below B1 q) (by omega)⟩

set_option maxRecDepth 100000 in
set_option maxHeartbeats 8000000 in
theorem ref13_Hit_ball (k a1 a2 a3 b1 b2 b3 c1 c2 c3 r m ix o1 o2 o3 d1 d2 d3 fr hn hd : Int) (w : World) (ok : Bool) 
    (KR : Hid (∀ w, Calls Tryz.prog 36 #[.agg #[.int .i64 k, .int .i64 a1, .int .i64 a2, .int .i64 a3, .int .i64 b1, .int .i64 b2, .int .i64 b3, .int .i64 c1, .int .i64 c2, .int .i64 c3, .int .i64 r, .int .i64 m]] w fun en w' => en = .returned (.bool true) ∧ Below w.heap.size w w')) (nk : ¬ k = 1) (ne : ¬ fr = ix)
    (KH : Hid (∀ w, Calls Tryz.prog 39 #[.agg #[.int .i64 a1, .int .i64 a2, .int .i64 a3], .int .i64 r, .agg #[.int .i64 o1, .int .i64 o2, .int .i64 o3, .int .i64 d1, .int .i64 d2, .int .i64 d3, .int .i64 fr]] w fun en w' => en = .returned (.tuple #[.agg #[.int .i64 hn, .int .i64 hd], .bool ok]) ∧ Below w.heap.size w w')) :
    Calls Tryz.prog 28 #[.agg #[.int .i64 k, .int .i64 a1, .int .i64 a2, .int .i64 a3, .int .i64 b1, .int .i64 b2, .int .i64 b3, .int .i64 c1, .int .i64 c2, .int .i64 c3, .int .i64 r, .int .i64 m], .int .i64 ix, .agg #[.int .i64 o1, .int .i64 o2, .int .i64 o3, .int .i64 d1, .int .i64 d2, .int .i64 d3, .int .i64 fr]] w fun en w' => en = .returned (.tuple #[.agg #[.int .i64 hn, .int .i64 hd], .bool ok]) ∧ Below w.heap.size w w' := by
  go_enter Tryz.func28, Tryz.ntmps28
  go_upto_region 1 with (fail)
  obtain ⟨W1, hW1⟩ : ∃ W, W = ((w.alloc (.cells #[.int .i64 k, .int .i64 a1, .int .i64 a2, .int .i64 a3, .int .i64 b1, .int .i64 b2, .int .i64 b3, .int .i64 c1, .int .i64 c2, .int .i64 c3, .int .i64 r, .int .i64 m] 43)).alloc (.cells #[.int .i64 o1, .int .i64 o2, .int .i64 o3, .int .i64 d1, .int .i64 d2, .int .i64 d3, .int .i64 fr] 27)).alloc (.cells #[.int .i64 0, .int .i64 0] 29) := ⟨_, rfl⟩
  obtain ⟨k_p, k_y, k_h, B1⟩ := st3 hW1
  rw [← hW1]
  clear hW1
  have l_y : w.heap.size < w.heap.size + 1 := by omega
  have l_h : w.heap.size + 1 < w.heap.size + 1 + 1 := by omega
  generalize w.heap.size + 1 + 1 = g_h at *
  generalize w.heap.size + 1 = g_y at *
  obtain ⟨c_p_0, c_p_1, c_p_2, c_p_3, c_p_4, c_p_5, c_p_6, c_p_7, c_p_8, c_p_9, c_p_10, c_p_11⟩ := bwc12 (k_p)
  obtain ⟨c_y_0, c_y_1, c_y_2, c_y_3, c_y_4, c_y_5, c_y_6⟩ := bwc7 (k_y)
  obtain ⟨c_h_0, c_h_1⟩ := bwc2 (k_h)
  obtain ⟨f_h_0, f_h_1⟩ := bwf2 (k_h)
  obtain ⟨p1, hp1⟩ : ∃ p : BW W1, p.w = W1 := ⟨BW.start W1, rfl⟩
  rw [← hp1]
  clear hp1
  go_wp2_with (first
    | (go_at_call 36; (first | (with_reducible refine (bw_call KR.out _).mono ?_)); rintro e w' ⟨rfl, q, rfl⟩)
    | (go_at_call 39; (first | (with_reducible refine (bw_call KH.out _).mono ?_)); rintro e w' ⟨rfl, q, rfl⟩))
  have kr := bkp2 (k_h.below q.h) (.int .i64 hn) (.int .i64 hd)
  obtain ⟨rc0, rc1⟩ := rwc2 kr
  exact bodyPost_ret (v := .tuple #[.agg #[.int .i64 hn, .int .i64 hd], .bool ok]) (by simp [results, Tryz.results28, go_sem, rc0, rc1]) rfl ⟨rfl, blp2 (bw_below B1 q) (by omega)⟩

theorem ref13_Hit (k a1 a2 a3 b1 b2 b3 c1 c2 c3 r m ix o1 o2 o3 d1 d2 d3 fr : Int) (w : World) (hp : Pr.I (Pr.mk k (a1, a2, a3) (b1, b2, b3) (c1, c2, c3) r m)) (hx : I64 ix) (ho : I3 (o1, o2, o3)) (hd : I3 (d1, d2, d3)) (hf : I64 fr) :
    Calls Tryz.prog 28 #[.agg #[.int .i64 k, .int .i64 a1, .int .i64 a2, .int .i64 a3, .int .i64 b1, .int .i64 b2, .int .i64 b3, .int .i64 c1, .int .i64 c2, .int .i64 c3, .int .i64 r, .int .i64 m], .int .i64 ix, .agg #[.int .i64 o1, .int .i64 o2, .int .i64 o3, .int .i64 d1, .int .i64 d2, .int .i64 d3, .int .i64 fr]] w fun en w' => en = .returned (.tuple #[.agg #[.int .i64 (pHit (Pr.mk k (a1, a2, a3) (b1, b2, b3) (c1, c2, c3) r m) ix (o1, o2, o3) (d1, d2, d3) fr).1.1, .int .i64 (pHit (Pr.mk k (a1, a2, a3) (b1, b2, b3) (c1, c2, c3) r m) ix (o1, o2, o3) (d1, d2, d3) fr).1.2], .bool (pHit (Pr.mk k (a1, a2, a3) (b1, b2, b3) (c1, c2, c3) r m) ix (o1, o2, o3) (d1, d2, d3) fr).2]) ∧ Below w.heap.size w w' := by
  obtain ⟨_, ia, ib, ic, ir, _⟩ := hp
  dsimp only at ia ib ic ir
  have KR := Lib.hid (fun w => ref13_Right k a1 a2 a3 b1 b2 b3 c1 c2 c3 r m w)
  unfold pHit
  cases hR : pRight (Pr.mk k (a1, a2, a3) (b1, b2, b3) (c1, c2, c3) r m) with
  | false =>
    rw [hR] at KR
    rw [if_neg (by decide)]
    exact ref13_Hit_none k a1 a2 a3 b1 b2 b3 c1 c2 c3 r m ix o1 o2 o3 d1 d2 d3 fr w KR
  | true =>
    rw [hR] at KR
    rw [if_pos rfl]
    dsimp only
    by_cases k1 : k = 1
    · subst k1
      rw [if_pos rfl]
      by_cases hf : fr = ix
      · subst hf
        rw [if_pos rfl]
        exact ref13_Hit_own a1 a2 a3 b1 b2 b3 c1 c2 c3 r m fr o1 o2 o3 d1 d2 d3 w KR
      · rw [if_neg hf]
        exact ref13_Hit_tri a1 a2 a3 b1 b2 b3 c1 c2 c3 r m ix o1 o2 o3 d1 d2 d3 fr _ _ w _ KR hf (Lib.hid (fun w => ref11_Hit a1 a2 a3 b1 b2 b3 c1 c2 c3 o1 o2 o3 d1 d2 d3 fr w))
    · rw [if_neg k1]
      by_cases hf : fr = ix
      · subst hf
        rw [if_pos rfl]
        exact ref13_Hit_through k a1 a2 a3 b1 b2 b3 c1 c2 c3 r m fr o1 o2 o3 d1 d2 d3 _ _ w _ KR k1 (Lib.hid (fun w => ref12_Through a1 a2 a3 r o1 o2 o3 d1 d2 d3 fr w ia ir ho hd))
      · rw [if_neg hf]
        exact ref13_Hit_ball k a1 a2 a3 b1 b2 b3 c1 c2 c3 r m ix o1 o2 o3 d1 d2 d3 fr _ _ w _ KR k1 hf (Lib.hid (fun w => ref12_Hit a1 a2 a3 r o1 o2 o3 d1 d2 d3 fr w ia ir ho hd))

end Go.Proofs.YtokkankfaofooaaGreat
