/- The walk of the statement BallThrough. -/
import Derived.Test.YtppejnfiphkmnaaAwake12
import Derived.Test.YtppejnfiphkmnaaRef12
import Derived.Test.YtppejnfiphkmnaaMath12
import Derived.Test.YtppejnfiphkmnaaTail
import Derived.Deep.DeepCutAuto
namespace Go.Proofs.Ytppejnfiphkmnaa
open Go.RowKit Go.Proofs.Sky
set_option linter.unusedVariables false

set_option maxRecDepth 100000 in
set_option maxHeartbeats 8000000 in
theorem thr_e1 (c1 c2 c3 r o1 o2 o3 s1 s2 s3 : Int) (w : World) 
    (KS : Hid (∀ w, Calls Try.prog 20 #[.agg #[.int .i64 c1, .int .i64 c2, .int .i64 c3], .agg #[.int .i64 o1, .int .i64 o2, .int .i64 o3]] w fun en w' => en = .returned (.agg #[.int .i64 s1, .int .i64 s2, .int .i64 s3]) ∧ Below w.heap.size w w'))
    (KR : Hid (∀ w, Calls Try.prog 11 #[.agg #[.int .i64 c1, .int .i64 c2, .int .i64 c3], .int .i64 r] w fun en w' => en = .returned (.bool false) ∧ Below w.heap.size w w')) :
    Calls Try.prog 5 #[.agg #[.int .i64 c1, .int .i64 c2, .int .i64 c3], .int .i64 r, .agg #[.int .i64 o1, .int .i64 o2, .int .i64 o3]] w fun en w' => en = .returned (.bool true) ∧ Below w.heap.size w w' := by
  have HA := Lib.hid (fun w => awake12 w)
  go_enter Try.func5, Try.ntmps5
  go_upto_region 1 with (fail)
  obtain ⟨W1, hW1⟩ : ∃ W, W = (w.alloc (.cells #[.int .i64 c1, .int .i64 c2, .int .i64 c3] 23)).alloc (.cells #[.int .i64 o1, .int .i64 o2, .int .i64 o3] 23) := ⟨_, rfl⟩
  obtain ⟨k_c, k_o, B1⟩ := st2 hW1
  rw [← hW1]
  clear hW1
  have l_o : w.heap.size < w.heap.size + 1 := by omega
  generalize w.heap.size + 1 = g_o at *
  obtain ⟨c_c_0, c_c_1, c_c_2⟩ := bwc3 (k_c)
  obtain ⟨c_o_0, c_o_1, c_o_2⟩ := bwc3 (k_o)
  obtain ⟨p1, hp1⟩ : ∃ p : BW W1, p.w = W1 := ⟨BW.start W1, rfl⟩
  rw [← hp1]
  clear hp1
  go_upto_region 2 with (first
    | (go_at_call 20; (first | (with_reducible refine (bw_call KS.out _).mono ?_)); rintro e w' ⟨rfl, q, rfl⟩))
  obtain ⟨W2, hW2⟩ : ∃ W, W = q.w.alloc (.cells #[.int .i64 s1, .int .i64 s2, .int .i64 s3] 23) := ⟨_, rfl⟩
  have B2 : Below w.heap.size w W2 := by rw [hW2]; exact (bw_below B1 q).alloc (bw_below B1 q).size _
  have l_d : g_o < q.w.heap.size := (k_o.below q.h).lt
  have o_d : w.heap.size ≤ q.w.heap.size := (bw_below B1 q).size
  have k_c := bka hW2 (k_c.below q.h)
  have k_o := bka hW2 (k_o.below q.h)
  have k_d := bkn hW2
  rw [← hW2]
  clear hW2
  clear B1
  clear c_c_0 c_c_1 c_c_2 c_o_0 c_o_1 c_o_2
  generalize q.w.heap.size = g_d at *
  obtain ⟨c_c_0, c_c_1, c_c_2⟩ := bwc3 (k_c)
  obtain ⟨c_o_0, c_o_1, c_o_2⟩ := bwc3 (k_o)
  obtain ⟨c_d_0, c_d_1, c_d_2⟩ := bwc3 (k_d)
  obtain ⟨p2, hp2⟩ : ∃ p : BW W2, p.w = W2 := ⟨BW.start W2, rfl⟩
  rw [← hp2]
  clear hp2
  go_wp2_with (first
    | (go_at_call 11; (first | (with_reducible refine (bw_call KR.out _).mono ?_)); rintro e w' ⟨rfl, q, rfl⟩)
    | (go_at_call 16; (first | (with_reducible refine (bw_call HA.out _).mono ?_)); rintro e w' ⟨rfl, q, rfl⟩))
  go_ret
  exact ⟨rfl, bw_below B2 _⟩

set_option maxRecDepth 100000 in
set_option maxHeartbeats 8000000 in
theorem thr_e2 (c1 c2 c3 r o1 o2 o3 s1 s2 s3 : Int) (w : World) 
    (KS : Hid (∀ w, Calls Try.prog 20 #[.agg #[.int .i64 c1, .int .i64 c2, .int .i64 c3], .agg #[.int .i64 o1, .int .i64 o2, .int .i64 o3]] w fun en w' => en = .returned (.agg #[.int .i64 s1, .int .i64 s2, .int .i64 s3]) ∧ Below w.heap.size w w'))
    (KR : Hid (∀ w, Calls Try.prog 11 #[.agg #[.int .i64 c1, .int .i64 c2, .int .i64 c3], .int .i64 r] w fun en w' => en = .returned (.bool true) ∧ Below w.heap.size w w'))
    (KP : Hid (∀ w, Calls Try.prog 21 #[.agg #[.int .i64 o1, .int .i64 o2, .int .i64 o3]] w fun en w' => en = .returned (.bool false) ∧ Below w.heap.size w w')) :
    Calls Try.prog 5 #[.agg #[.int .i64 c1, .int .i64 c2, .int .i64 c3], .int .i64 r, .agg #[.int .i64 o1, .int .i64 o2, .int .i64 o3]] w fun en w' => en = .returned (.bool true) ∧ Below w.heap.size w w' := by
  have HA := Lib.hid (fun w => awake12 w)
  go_enter Try.func5, Try.ntmps5
  go_upto_region 1 with (fail)
  obtain ⟨W1, hW1⟩ : ∃ W, W = (w.alloc (.cells #[.int .i64 c1, .int .i64 c2, .int .i64 c3] 23)).alloc (.cells #[.int .i64 o1, .int .i64 o2, .int .i64 o3] 23) := ⟨_, rfl⟩
  obtain ⟨k_c, k_o, B1⟩ := st2 hW1
  rw [← hW1]
  clear hW1
  have l_o : w.heap.size < w.heap.size + 1 := by omega
  generalize w.heap.size + 1 = g_o at *
  obtain ⟨c_c_0, c_c_1, c_c_2⟩ := bwc3 (k_c)
  obtain ⟨c_o_0, c_o_1, c_o_2⟩ := bwc3 (k_o)
  obtain ⟨p1, hp1⟩ : ∃ p : BW W1, p.w = W1 := ⟨BW.start W1, rfl⟩
  rw [← hp1]
  clear hp1
  go_upto_region 2 with (first
    | (go_at_call 20; (first | (with_reducible refine (bw_call KS.out _).mono ?_)); rintro e w' ⟨rfl, q, rfl⟩))
  obtain ⟨W2, hW2⟩ : ∃ W, W = q.w.alloc (.cells #[.int .i64 s1, .int .i64 s2, .int .i64 s3] 23) := ⟨_, rfl⟩
  have B2 : Below w.heap.size w W2 := by rw [hW2]; exact (bw_below B1 q).alloc (bw_below B1 q).size _
  have l_d : g_o < q.w.heap.size := (k_o.below q.h).lt
  have o_d : w.heap.size ≤ q.w.heap.size := (bw_below B1 q).size
  have k_c := bka hW2 (k_c.below q.h)
  have k_o := bka hW2 (k_o.below q.h)
  have k_d := bkn hW2
  rw [← hW2]
  clear hW2
  clear B1
  clear c_c_0 c_c_1 c_c_2 c_o_0 c_o_1 c_o_2
  generalize q.w.heap.size = g_d at *
  obtain ⟨c_c_0, c_c_1, c_c_2⟩ := bwc3 (k_c)
  obtain ⟨c_o_0, c_o_1, c_o_2⟩ := bwc3 (k_o)
  obtain ⟨c_d_0, c_d_1, c_d_2⟩ := bwc3 (k_d)
  obtain ⟨p2, hp2⟩ : ∃ p : BW W2, p.w = W2 := ⟨BW.start W2, rfl⟩
  rw [← hp2]
  clear hp2
  go_wp2_with (first
    | (go_at_call 11; (first | (with_reducible refine (bw_call KR.out _).mono ?_)); rintro e w' ⟨rfl, q, rfl⟩)
    | (go_at_call 21; (first | (with_reducible refine (bw_call KP.out _).mono ?_)); rintro e w' ⟨rfl, q, rfl⟩)
    | (go_at_call 16; (first | (with_reducible refine (bw_call HA.out _).mono ?_)); rintro e w' ⟨rfl, q, rfl⟩))
  go_ret
  exact ⟨rfl, bw_below B2 _⟩

set_option maxRecDepth 100000 in
set_option maxHeartbeats 8000000 in
theorem thr_eq (c1 c2 c3 r s1 s2 s3 : Int) (w : World) 
    (KS : Hid (∀ w, Calls Try.prog 20 #[.agg #[.int .i64 c1, .int .i64 c2, .int .i64 c3], .agg #[.int .i64 c1, .int .i64 c2, .int .i64 c3]] w fun en w' => en = .returned (.agg #[.int .i64 s1, .int .i64 s2, .int .i64 s3]) ∧ Below w.heap.size w w'))
    (KR : Hid (∀ w, Calls Try.prog 11 #[.agg #[.int .i64 c1, .int .i64 c2, .int .i64 c3], .int .i64 r] w fun en w' => en = .returned (.bool true) ∧ Below w.heap.size w w'))
    (KP : Hid (∀ w, Calls Try.prog 21 #[.agg #[.int .i64 c1, .int .i64 c2, .int .i64 c3]] w fun en w' => en = .returned (.bool true) ∧ Below w.heap.size w w')) :
    Calls Try.prog 5 #[.agg #[.int .i64 c1, .int .i64 c2, .int .i64 c3], .int .i64 r, .agg #[.int .i64 c1, .int .i64 c2, .int .i64 c3]] w fun en w' => en = .returned (.bool true) ∧ Below w.heap.size w w' := by
  have HA := Lib.hid (fun w => awake12 w)
  go_enter Try.func5, Try.ntmps5
  go_upto_region 1 with (fail)
  obtain ⟨W1, hW1⟩ : ∃ W, W = (w.alloc (.cells #[.int .i64 c1, .int .i64 c2, .int .i64 c3] 23)).alloc (.cells #[.int .i64 c1, .int .i64 c2, .int .i64 c3] 23) := ⟨_, rfl⟩
  obtain ⟨k_c, k_o, B1⟩ := st2 hW1
  rw [← hW1]
  clear hW1
  have l_o : w.heap.size < w.heap.size + 1 := by omega
  generalize w.heap.size + 1 = g_o at *
  obtain ⟨c_c_0, c_c_1, c_c_2⟩ := bwc3 (k_c)
  obtain ⟨c_o_0, c_o_1, c_o_2⟩ := bwc3 (k_o)
  obtain ⟨p1, hp1⟩ : ∃ p : BW W1, p.w = W1 := ⟨BW.start W1, rfl⟩
  rw [← hp1]
  clear hp1
  go_upto_region 2 with (first
    | (go_at_call 20; (first | (with_reducible refine (bw_call KS.out _).mono ?_)); rintro e w' ⟨rfl, q, rfl⟩))
  obtain ⟨W2, hW2⟩ : ∃ W, W = q.w.alloc (.cells #[.int .i64 s1, .int .i64 s2, .int .i64 s3] 23) := ⟨_, rfl⟩
  have B2 : Below w.heap.size w W2 := by rw [hW2]; exact (bw_below B1 q).alloc (bw_below B1 q).size _
  have l_d : g_o < q.w.heap.size := (k_o.below q.h).lt
  have o_d : w.heap.size ≤ q.w.heap.size := (bw_below B1 q).size
  have k_c := bka hW2 (k_c.below q.h)
  have k_o := bka hW2 (k_o.below q.h)
  have k_d := bkn hW2
  rw [← hW2]
  clear hW2
  clear B1
  clear c_c_0 c_c_1 c_c_2 c_o_0 c_o_1 c_o_2
  generalize q.w.heap.size = g_d at *
  obtain ⟨c_c_0, c_c_1, c_c_2⟩ := bwc3 (k_c)
  obtain ⟨c_o_0, c_o_1, c_o_2⟩ := bwc3 (k_o)
  obtain ⟨c_d_0, c_d_1, c_d_2⟩ := bwc3 (k_d)
  obtain ⟨p2, hp2⟩ : ∃ p : BW W2, p.w = W2 := ⟨BW.start W2, rfl⟩
  rw [← hp2]
  clear hp2
  go_wp2_with (first
    | (go_at_call 11; (first | (with_reducible refine (bw_call KR.out _).mono ?_)); rintro e w' ⟨rfl, q, rfl⟩)
    | (go_at_call 21; (first | (with_reducible refine (bw_call KP.out _).mono ?_)); rintro e w' ⟨rfl, q, rfl⟩)
    | (go_at_call 16; (first | (with_reducible refine (bw_call HA.out _).mono ?_)); rintro e w' ⟨rfl, q, rfl⟩))
  go_ret
  exact ⟨rfl, bw_below B2 _⟩

set_option maxRecDepth 100000 in
set_option maxHeartbeats 8000000 in
theorem thr_max1 (c1 c2 c3 r o1 o2 o3 s1 s2 s3 : Int) (w : World) 
    (KS : Hid (∀ w, Calls Try.prog 20 #[.agg #[.int .i64 c1, .int .i64 c2, .int .i64 c3], .agg #[.int .i64 o1, .int .i64 o2, .int .i64 o3]] w fun en w' => en = .returned (.agg #[.int .i64 s1, .int .i64 s2, .int .i64 s3]) ∧ Below w.heap.size w w'))
    (KR : Hid (∀ w, Calls Try.prog 11 #[.agg #[.int .i64 c1, .int .i64 c2, .int .i64 c3], .int .i64 r] w fun en w' => en = .returned (.bool true) ∧ Below w.heap.size w w'))
    (KP : Hid (∀ w, Calls Try.prog 21 #[.agg #[.int .i64 o1, .int .i64 o2, .int .i64 o3]] w fun en w' => en = .returned (.bool true) ∧ Below w.heap.size w w'))
    (ne : ¬ o1 = c1)
    (mx : Int) (hmx : ∀ (w : World) (ts : Array TypeId) (t : TypeId), (Builtin.max_ ts t #[.int .i64 s1, .int .i64 s2, .int .i64 s3]).run Try.prog w = .ok (.int .i64 mx) w) (t1 : decide (131072 < mx) = true) :
    Calls Try.prog 5 #[.agg #[.int .i64 c1, .int .i64 c2, .int .i64 c3], .int .i64 r, .agg #[.int .i64 o1, .int .i64 o2, .int .i64 o3]] w fun en w' => en = .returned (.bool true) ∧ Below w.heap.size w w' := by
  have HA := Lib.hid (fun w => awake12 w)
  go_enter Try.func5, Try.ntmps5
  go_upto_region 1 with (fail)
  obtain ⟨W1, hW1⟩ : ∃ W, W = (w.alloc (.cells #[.int .i64 c1, .int .i64 c2, .int .i64 c3] 23)).alloc (.cells #[.int .i64 o1, .int .i64 o2, .int .i64 o3] 23) := ⟨_, rfl⟩
  obtain ⟨k_c, k_o, B1⟩ := st2 hW1
  rw [← hW1]
  clear hW1
  have l_o : w.heap.size < w.heap.size + 1 := by omega
  generalize w.heap.size + 1 = g_o at *
  obtain ⟨c_c_0, c_c_1, c_c_2⟩ := bwc3 (k_c)
  obtain ⟨c_o_0, c_o_1, c_o_2⟩ := bwc3 (k_o)
  obtain ⟨p1, hp1⟩ : ∃ p : BW W1, p.w = W1 := ⟨BW.start W1, rfl⟩
  rw [← hp1]
  clear hp1
  go_upto_region 2 with (first
    | (go_at_call 20; (first | (with_reducible refine (bw_call KS.out _).mono ?_)); rintro e w' ⟨rfl, q, rfl⟩))
  obtain ⟨W2, hW2⟩ : ∃ W, W = q.w.alloc (.cells #[.int .i64 s1, .int .i64 s2, .int .i64 s3] 23) := ⟨_, rfl⟩
  have B2 : Below w.heap.size w W2 := by rw [hW2]; exact (bw_below B1 q).alloc (bw_below B1 q).size _
  have l_d : g_o < q.w.heap.size := (k_o.below q.h).lt
  have o_d : w.heap.size ≤ q.w.heap.size := (bw_below B1 q).size
  have k_c := bka hW2 (k_c.below q.h)
  have k_o := bka hW2 (k_o.below q.h)
  have k_d := bkn hW2
  rw [← hW2]
  clear hW2
  clear B1
  clear c_c_0 c_c_1 c_c_2 c_o_0 c_o_1 c_o_2
  generalize q.w.heap.size = g_d at *
  obtain ⟨c_c_0, c_c_1, c_c_2⟩ := bwc3 (k_c)
  obtain ⟨c_o_0, c_o_1, c_o_2⟩ := bwc3 (k_o)
  obtain ⟨c_d_0, c_d_1, c_d_2⟩ := bwc3 (k_d)
  obtain ⟨p2, hp2⟩ : ∃ p : BW W2, p.w = W2 := ⟨BW.start W2, rfl⟩
  rw [← hp2]
  clear hp2
  go_wp2_with (first
    | (go_at_call 11; (first | (with_reducible refine (bw_call KR.out _).mono ?_)); rintro e w' ⟨rfl, q, rfl⟩)
    | (go_at_call 21; (first | (with_reducible refine (bw_call KP.out _).mono ?_)); rintro e w' ⟨rfl, q, rfl⟩)
    | (go_at_call 16; (first | (with_reducible refine (bw_call HA.out _).mono ?_)); rintro e w' ⟨rfl, q, rfl⟩))
  go_ret
  exact ⟨rfl, bw_below B2 _⟩

set_option maxRecDepth 100000 in
set_option maxHeartbeats 8000000 in
theorem thr_min1 (c1 c2 c3 r o1 o2 o3 s1 s2 s3 : Int) (w : World) 
    (KS : Hid (∀ w, Calls Try.prog 20 #[.agg #[.int .i64 c1, .int .i64 c2, .int .i64 c3], .agg #[.int .i64 o1, .int .i64 o2, .int .i64 o3]] w fun en w' => en = .returned (.agg #[.int .i64 s1, .int .i64 s2, .int .i64 s3]) ∧ Below w.heap.size w w'))
    (KR : Hid (∀ w, Calls Try.prog 11 #[.agg #[.int .i64 c1, .int .i64 c2, .int .i64 c3], .int .i64 r] w fun en w' => en = .returned (.bool true) ∧ Below w.heap.size w w'))
    (KP : Hid (∀ w, Calls Try.prog 21 #[.agg #[.int .i64 o1, .int .i64 o2, .int .i64 o3]] w fun en w' => en = .returned (.bool true) ∧ Below w.heap.size w w'))
    (ne : ¬ o1 = c1)
    (mx : Int) (hmx : ∀ (w : World) (ts : Array TypeId) (t : TypeId), (Builtin.max_ ts t #[.int .i64 s1, .int .i64 s2, .int .i64 s3]).run Try.prog w = .ok (.int .i64 mx) w) (t1 : decide (131072 < mx) = false)
    (mn : Int) (hmn : ∀ (w : World) (ts : Array TypeId) (t : TypeId), (Builtin.min_ ts t #[.int .i64 s1, .int .i64 s2, .int .i64 s3]).run Try.prog w = .ok (.int .i64 mn) w) (t2 : decide (mn < -131072) = true) :
    Calls Try.prog 5 #[.agg #[.int .i64 c1, .int .i64 c2, .int .i64 c3], .int .i64 r, .agg #[.int .i64 o1, .int .i64 o2, .int .i64 o3]] w fun en w' => en = .returned (.bool true) ∧ Below w.heap.size w w' := by
  have HA := Lib.hid (fun w => awake12 w)
  go_enter Try.func5, Try.ntmps5
  go_upto_region 1 with (fail)
  obtain ⟨W1, hW1⟩ : ∃ W, W = (w.alloc (.cells #[.int .i64 c1, .int .i64 c2, .int .i64 c3] 23)).alloc (.cells #[.int .i64 o1, .int .i64 o2, .int .i64 o3] 23) := ⟨_, rfl⟩
  obtain ⟨k_c, k_o, B1⟩ := st2 hW1
  rw [← hW1]
  clear hW1
  have l_o : w.heap.size < w.heap.size + 1 := by omega
  generalize w.heap.size + 1 = g_o at *
  obtain ⟨c_c_0, c_c_1, c_c_2⟩ := bwc3 (k_c)
  obtain ⟨c_o_0, c_o_1, c_o_2⟩ := bwc3 (k_o)
  obtain ⟨p1, hp1⟩ : ∃ p : BW W1, p.w = W1 := ⟨BW.start W1, rfl⟩
  rw [← hp1]
  clear hp1
  go_upto_region 2 with (first
    | (go_at_call 20; (first | (with_reducible refine (bw_call KS.out _).mono ?_)); rintro e w' ⟨rfl, q, rfl⟩))
  obtain ⟨W2, hW2⟩ : ∃ W, W = q.w.alloc (.cells #[.int .i64 s1, .int .i64 s2, .int .i64 s3] 23) := ⟨_, rfl⟩
  have B2 : Below w.heap.size w W2 := by rw [hW2]; exact (bw_below B1 q).alloc (bw_below B1 q).size _
  have l_d : g_o < q.w.heap.size := (k_o.below q.h).lt
  have o_d : w.heap.size ≤ q.w.heap.size := (bw_below B1 q).size
  have k_c := bka hW2 (k_c.below q.h)
  have k_o := bka hW2 (k_o.below q.h)
  have k_d := bkn hW2
  rw [← hW2]
  clear hW2
  clear B1
  clear c_c_0 c_c_1 c_c_2 c_o_0 c_o_1 c_o_2
  generalize q.w.heap.size = g_d at *
  obtain ⟨c_c_0, c_c_1, c_c_2⟩ := bwc3 (k_c)
  obtain ⟨c_o_0, c_o_1, c_o_2⟩ := bwc3 (k_o)
  obtain ⟨c_d_0, c_d_1, c_d_2⟩ := bwc3 (k_d)
  obtain ⟨p2, hp2⟩ : ∃ p : BW W2, p.w = W2 := ⟨BW.start W2, rfl⟩
  rw [← hp2]
  clear hp2
  go_wp2_with (first
    | (go_at_call 11; (first | (with_reducible refine (bw_call KR.out _).mono ?_)); rintro e w' ⟨rfl, q, rfl⟩)
    | (go_at_call 21; (first | (with_reducible refine (bw_call KP.out _).mono ?_)); rintro e w' ⟨rfl, q, rfl⟩)
    | (go_at_call 16; (first | (with_reducible refine (bw_call HA.out _).mono ?_)); rintro e w' ⟨rfl, q, rfl⟩))
  go_ret
  exact ⟨rfl, bw_below B2 _⟩

set_option maxRecDepth 100000 in
set_option maxHeartbeats 8000000 in
theorem thr_main1 (c1 c2 c3 r o1 o2 o3 s1 s2 s3 n a m e x n1 n2 n3 : Int) (w : World) 
    (KS : Hid (∀ w, Calls Try.prog 20 #[.agg #[.int .i64 c1, .int .i64 c2, .int .i64 c3], .agg #[.int .i64 o1, .int .i64 o2, .int .i64 o3]] w fun en w' => en = .returned (.agg #[.int .i64 s1, .int .i64 s2, .int .i64 s3]) ∧ Below w.heap.size w w'))
    (KR : Hid (∀ w, Calls Try.prog 11 #[.agg #[.int .i64 c1, .int .i64 c2, .int .i64 c3], .int .i64 r] w fun en w' => en = .returned (.bool true) ∧ Below w.heap.size w w'))
    (KP : Hid (∀ w, Calls Try.prog 21 #[.agg #[.int .i64 o1, .int .i64 o2, .int .i64 o3]] w fun en w' => en = .returned (.bool true) ∧ Below w.heap.size w w'))
    (ne : ¬ o1 = c1)
    (mx : Int) (hmx : ∀ (w : World) (ts : Array TypeId) (t : TypeId), (Builtin.max_ ts t #[.int .i64 s1, .int .i64 s2, .int .i64 s3]).run Try.prog w = .ok (.int .i64 mx) w) (t1 : decide (131072 < mx) = false)
    (mn : Int) (hmn : ∀ (w : World) (ts : Array TypeId) (t : TypeId), (Builtin.min_ ts t #[.int .i64 s1, .int .i64 s2, .int .i64 s3]).run Try.prog w = .ok (.int .i64 mn) w) (t2 : decide (mn < -131072) = false)
    (KH : Hid (∀ w, Calls Try.prog 6 #[.agg #[.int .i64 c1, .int .i64 c2, .int .i64 c3], .int .i64 r, .agg #[.int .i64 o1, .int .i64 o2, .int .i64 o3, .int .i64 s1, .int .i64 s2, .int .i64 s3, .int .i64 (-1)]] w fun en w' => en = .returned (.tuple #[.agg #[.int .i64 n, .int .i64 a], .bool true]) ∧ Below w.heap.size w w'))
    (KT : Hid (∀ w, Calls Try.prog 8 #[.agg #[.int .i64 c1, .int .i64 c2, .int .i64 c3], .int .i64 r, .agg #[.int .i64 o1, .int .i64 o2, .int .i64 o3, .int .i64 s1, .int .i64 s2, .int .i64 s3, .int .i64 0]] w fun en w' => en = .returned (.tuple #[.agg #[.int .i64 m, .int .i64 e], .bool true]) ∧ Below w.heap.size w w'))
    (KN : Hid (∀ w, Calls Try.prog 12 #[.agg #[.int .i64 c1, .int .i64 c2, .int .i64 c3], .agg #[.int .i64 o1, .int .i64 o2, .int .i64 o3]] w fun en w' => en = .returned (.agg #[.int .i64 n1, .int .i64 n2, .int .i64 n3]) ∧ Below w.heap.size w w'))
    (KD : Hid (∀ w, Calls Try.prog 22 #[.agg #[.int .i64 n1, .int .i64 n2, .int .i64 n3], .agg #[.int .i64 s1, .int .i64 s2, .int .i64 s3]] w fun en w' => en = .returned (.int .i64 x) ∧ Below w.heap.size w w'))
    (t3 : 2 * e = m) (t4 : wrap64 m = m) (t5 : IntKind.i64.wrap m = m) (t6 : decide (x < 0) = true) :
    Calls Try.prog 5 #[.agg #[.int .i64 c1, .int .i64 c2, .int .i64 c3], .int .i64 r, .agg #[.int .i64 o1, .int .i64 o2, .int .i64 o3]] w fun en w' => en = .returned (.bool true) ∧ Below w.heap.size w w' := by
  have HA := Lib.hid (fun w => awake12 w)
  go_enter Try.func5, Try.ntmps5
  go_upto_region 1 with (fail)
  obtain ⟨W1, hW1⟩ : ∃ W, W = (w.alloc (.cells #[.int .i64 c1, .int .i64 c2, .int .i64 c3] 23)).alloc (.cells #[.int .i64 o1, .int .i64 o2, .int .i64 o3] 23) := ⟨_, rfl⟩
  obtain ⟨k_c, k_o, B1⟩ := st2 hW1
  rw [← hW1]
  clear hW1
  have l_o : w.heap.size < w.heap.size + 1 := by omega
  generalize w.heap.size + 1 = g_o at *
  obtain ⟨c_c_0, c_c_1, c_c_2⟩ := bwc3 (k_c)
  obtain ⟨c_o_0, c_o_1, c_o_2⟩ := bwc3 (k_o)
  obtain ⟨p1, hp1⟩ : ∃ p : BW W1, p.w = W1 := ⟨BW.start W1, rfl⟩
  rw [← hp1]
  clear hp1
  go_upto_region 2 with (first
    | (go_at_call 20; (first | (with_reducible refine (bw_call KS.out _).mono ?_)); rintro e w' ⟨rfl, q, rfl⟩))
  obtain ⟨W2, hW2⟩ : ∃ W, W = q.w.alloc (.cells #[.int .i64 s1, .int .i64 s2, .int .i64 s3] 23) := ⟨_, rfl⟩
  have B2 : Below w.heap.size w W2 := by rw [hW2]; exact (bw_below B1 q).alloc (bw_below B1 q).size _
  have l_d : g_o < q.w.heap.size := (k_o.below q.h).lt
  have o_d : w.heap.size ≤ q.w.heap.size := (bw_below B1 q).size
  have k_c := bka hW2 (k_c.below q.h)
  have k_o := bka hW2 (k_o.below q.h)
  have k_d := bkn hW2
  rw [← hW2]
  clear hW2
  clear B1
  clear c_c_0 c_c_1 c_c_2 c_o_0 c_o_1 c_o_2
  generalize q.w.heap.size = g_d at *
  obtain ⟨c_c_0, c_c_1, c_c_2⟩ := bwc3 (k_c)
  obtain ⟨c_o_0, c_o_1, c_o_2⟩ := bwc3 (k_o)
  obtain ⟨c_d_0, c_d_1, c_d_2⟩ := bwc3 (k_d)
  obtain ⟨p2, hp2⟩ : ∃ p : BW W2, p.w = W2 := ⟨BW.start W2, rfl⟩
  rw [← hp2]
  clear hp2
  go_upto_region 5 with (first
    | (go_at_call 11; (first | (with_reducible refine (bw_call KR.out _).mono ?_)); rintro e w' ⟨rfl, q, rfl⟩)
    | (go_at_call 21; (first | (with_reducible refine (bw_call KP.out _).mono ?_)); rintro e w' ⟨rfl, q, rfl⟩)
    | (go_at_call 16; (first | (with_reducible refine (bw_call HA.out _).mono ?_)); rintro e w' ⟨rfl, q, rfl⟩)
    | (go_at_call 6; (first | (with_reducible refine (bw_call KH.out _).mono ?_)); rintro e w' ⟨rfl, q, rfl⟩))
  obtain ⟨W3, hW3⟩ : ∃ W, W = q.w.alloc (.cells #[.int .i64 n, .int .i64 a] 27) := ⟨_, rfl⟩
  have B3 : Below w.heap.size w W3 := by rw [hW3]; exact (bw_below B2 q).alloc (bw_below B2 q).size _
  have l_t : g_d < q.w.heap.size := (k_d.below q.h).lt
  have o_t : w.heap.size ≤ q.w.heap.size := (bw_below B2 q).size
  have k_c := bka hW3 (k_c.below q.h)
  have k_o := bka hW3 (k_o.below q.h)
  have k_d := bka hW3 (k_d.below q.h)
  have k_t := bkn hW3
  rw [← hW3]
  clear hW3
  clear B2
  clear c_c_0 c_c_1 c_c_2 c_o_0 c_o_1 c_o_2 c_d_0 c_d_1 c_d_2
  generalize q.w.heap.size = g_t at *
  obtain ⟨c_c_0, c_c_1, c_c_2⟩ := bwc3 (k_c)
  obtain ⟨c_o_0, c_o_1, c_o_2⟩ := bwc3 (k_o)
  obtain ⟨c_d_0, c_d_1, c_d_2⟩ := bwc3 (k_d)
  obtain ⟨c_t_0, c_t_1⟩ := bwc2 (k_t)
  obtain ⟨p3, hp3⟩ : ∃ p : BW W3, p.w = W3 := ⟨BW.start W3, rfl⟩
  rw [← hp3]
  clear hp3
  go_upto_region 6 with (first
    | (go_at_call 8; (first | (with_reducible refine (bw_call KT.out _).mono ?_)); rintro e w' ⟨rfl, q, rfl⟩))
  obtain ⟨W4, hW4⟩ : ∃ W, W = q.w.alloc (.cells #[.int .i64 m, .int .i64 e] 27) := ⟨_, rfl⟩
  have B4 : Below w.heap.size w W4 := by rw [hW4]; exact (bw_below B3 q).alloc (bw_below B3 q).size _
  have l_u : g_t < q.w.heap.size := (k_t.below q.h).lt
  have o_u : w.heap.size ≤ q.w.heap.size := (bw_below B3 q).size
  have k_c := bka hW4 (k_c.below q.h)
  have k_o := bka hW4 (k_o.below q.h)
  have k_d := bka hW4 (k_d.below q.h)
  have k_t := bka hW4 (k_t.below q.h)
  have k_u := bkn hW4
  rw [← hW4]
  clear hW4
  clear B3
  clear c_c_0 c_c_1 c_c_2 c_o_0 c_o_1 c_o_2 c_d_0 c_d_1 c_d_2 c_t_0 c_t_1
  generalize q.w.heap.size = g_u at *
  obtain ⟨c_c_0, c_c_1, c_c_2⟩ := bwc3 (k_c)
  obtain ⟨c_o_0, c_o_1, c_o_2⟩ := bwc3 (k_o)
  obtain ⟨c_d_0, c_d_1, c_d_2⟩ := bwc3 (k_d)
  obtain ⟨c_t_0, c_t_1⟩ := bwc2 (k_t)
  obtain ⟨c_u_0, c_u_1⟩ := bwc2 (k_u)
  obtain ⟨p4, hp4⟩ : ∃ p : BW W4, p.w = W4 := ⟨BW.start W4, rfl⟩
  rw [← hp4]
  clear hp4
  go_upto_region 7 with (first
    | (go_at_call 12; (first | (with_reducible refine (bw_call KN.out _).mono ?_)); rintro e w' ⟨rfl, q, rfl⟩))
  obtain ⟨W5, hW5⟩ : ∃ W, W = q.w.alloc (.cells #[.int .i64 n1, .int .i64 n2, .int .i64 n3] 23) := ⟨_, rfl⟩
  have B5 : Below w.heap.size w W5 := by rw [hW5]; exact (bw_below B4 q).alloc (bw_below B4 q).size _
  have l_nn : g_u < q.w.heap.size := (k_u.below q.h).lt
  have o_nn : w.heap.size ≤ q.w.heap.size := (bw_below B4 q).size
  have k_c := bka hW5 (k_c.below q.h)
  have k_o := bka hW5 (k_o.below q.h)
  have k_d := bka hW5 (k_d.below q.h)
  have k_t := bka hW5 (k_t.below q.h)
  have k_u := bka hW5 (k_u.below q.h)
  have k_nn := bkn hW5
  rw [← hW5]
  clear hW5
  clear B4
  clear c_c_0 c_c_1 c_c_2 c_o_0 c_o_1 c_o_2 c_d_0 c_d_1 c_d_2 c_t_0 c_t_1 c_u_0 c_u_1
  generalize q.w.heap.size = g_nn at *
  obtain ⟨c_c_0, c_c_1, c_c_2⟩ := bwc3 (k_c)
  obtain ⟨c_o_0, c_o_1, c_o_2⟩ := bwc3 (k_o)
  obtain ⟨c_d_0, c_d_1, c_d_2⟩ := bwc3 (k_d)
  obtain ⟨c_t_0, c_t_1⟩ := bwc2 (k_t)
  obtain ⟨c_u_0, c_u_1⟩ := bwc2 (k_u)
  obtain ⟨c_nn_0, c_nn_1, c_nn_2⟩ := bwc3 (k_nn)
  obtain ⟨p5, hp5⟩ : ∃ p : BW W5, p.w = W5 := ⟨BW.start W5, rfl⟩
  rw [← hp5]
  clear hp5
  go_wp2_with (first
    | (go_at_call 22; (first | (with_reducible refine (bw_call KD.out _).mono ?_)); rintro e w' ⟨rfl, q, rfl⟩)
    | (go_at_call 16; (first | (with_reducible refine (bw_call HA.out _).mono ?_)); rintro e w' ⟨rfl, q, rfl⟩))
  go_ret
  exact ⟨rfl, bw_below B5 _⟩

set_option maxRecDepth 100000 in
set_option maxHeartbeats 8000000 in
theorem thr_max2 (c1 c2 c3 r o2 o3 s1 s2 s3 : Int) (w : World) 
    (KS : Hid (∀ w, Calls Try.prog 20 #[.agg #[.int .i64 c1, .int .i64 c2, .int .i64 c3], .agg #[.int .i64 c1, .int .i64 o2, .int .i64 o3]] w fun en w' => en = .returned (.agg #[.int .i64 s1, .int .i64 s2, .int .i64 s3]) ∧ Below w.heap.size w w'))
    (KR : Hid (∀ w, Calls Try.prog 11 #[.agg #[.int .i64 c1, .int .i64 c2, .int .i64 c3], .int .i64 r] w fun en w' => en = .returned (.bool true) ∧ Below w.heap.size w w'))
    (KP : Hid (∀ w, Calls Try.prog 21 #[.agg #[.int .i64 c1, .int .i64 o2, .int .i64 o3]] w fun en w' => en = .returned (.bool true) ∧ Below w.heap.size w w'))
    (ne : ¬ o2 = c2)
    (mx : Int) (hmx : ∀ (w : World) (ts : Array TypeId) (t : TypeId), (Builtin.max_ ts t #[.int .i64 s1, .int .i64 s2, .int .i64 s3]).run Try.prog w = .ok (.int .i64 mx) w) (t1 : decide (131072 < mx) = true) :
    Calls Try.prog 5 #[.agg #[.int .i64 c1, .int .i64 c2, .int .i64 c3], .int .i64 r, .agg #[.int .i64 c1, .int .i64 o2, .int .i64 o3]] w fun en w' => en = .returned (.bool true) ∧ Below w.heap.size w w' := by
  have HA := Lib.hid (fun w => awake12 w)
  go_enter Try.func5, Try.ntmps5
  go_upto_region 1 with (fail)
  obtain ⟨W1, hW1⟩ : ∃ W, W = (w.alloc (.cells #[.int .i64 c1, .int .i64 c2, .int .i64 c3] 23)).alloc (.cells #[.int .i64 c1, .int .i64 o2, .int .i64 o3] 23) := ⟨_, rfl⟩
  obtain ⟨k_c, k_o, B1⟩ := st2 hW1
  rw [← hW1]
  clear hW1
  have l_o : w.heap.size < w.heap.size + 1 := by omega
  generalize w.heap.size + 1 = g_o at *
  obtain ⟨c_c_0, c_c_1, c_c_2⟩ := bwc3 (k_c)
  obtain ⟨c_o_0, c_o_1, c_o_2⟩ := bwc3 (k_o)
  obtain ⟨p1, hp1⟩ : ∃ p : BW W1, p.w = W1 := ⟨BW.start W1, rfl⟩
  rw [← hp1]
  clear hp1
  go_upto_region 2 with (first
    | (go_at_call 20; (first | (with_reducible refine (bw_call KS.out _).mono ?_)); rintro e w' ⟨rfl, q, rfl⟩))
  obtain ⟨W2, hW2⟩ : ∃ W, W = q.w.alloc (.cells #[.int .i64 s1, .int .i64 s2, .int .i64 s3] 23) := ⟨_, rfl⟩
  have B2 : Below w.heap.size w W2 := by rw [hW2]; exact (bw_below B1 q).alloc (bw_below B1 q).size _
  have l_d : g_o < q.w.heap.size := (k_o.below q.h).lt
  have o_d : w.heap.size ≤ q.w.heap.size := (bw_below B1 q).size
  have k_c := bka hW2 (k_c.below q.h)
  have k_o := bka hW2 (k_o.below q.h)
  have k_d := bkn hW2
  rw [← hW2]
  clear hW2
  clear B1
  clear c_c_0 c_c_1 c_c_2 c_o_0 c_o_1 c_o_2
  generalize q.w.heap.size = g_d at *
  obtain ⟨c_c_0, c_c_1, c_c_2⟩ := bwc3 (k_c)
  obtain ⟨c_o_0, c_o_1, c_o_2⟩ := bwc3 (k_o)
  obtain ⟨c_d_0, c_d_1, c_d_2⟩ := bwc3 (k_d)
  obtain ⟨p2, hp2⟩ : ∃ p : BW W2, p.w = W2 := ⟨BW.start W2, rfl⟩
  rw [← hp2]
  clear hp2
  go_wp2_with (first
    | (go_at_call 11; (first | (with_reducible refine (bw_call KR.out _).mono ?_)); rintro e w' ⟨rfl, q, rfl⟩)
    | (go_at_call 21; (first | (with_reducible refine (bw_call KP.out _).mono ?_)); rintro e w' ⟨rfl, q, rfl⟩)
    | (go_at_call 16; (first | (with_reducible refine (bw_call HA.out _).mono ?_)); rintro e w' ⟨rfl, q, rfl⟩))
  go_ret
  exact ⟨rfl, bw_below B2 _⟩

set_option maxRecDepth 100000 in
set_option maxHeartbeats 8000000 in
theorem thr_min2 (c1 c2 c3 r o2 o3 s1 s2 s3 : Int) (w : World) 
    (KS : Hid (∀ w, Calls Try.prog 20 #[.agg #[.int .i64 c1, .int .i64 c2, .int .i64 c3], .agg #[.int .i64 c1, .int .i64 o2, .int .i64 o3]] w fun en w' => en = .returned (.agg #[.int .i64 s1, .int .i64 s2, .int .i64 s3]) ∧ Below w.heap.size w w'))
    (KR : Hid (∀ w, Calls Try.prog 11 #[.agg #[.int .i64 c1, .int .i64 c2, .int .i64 c3], .int .i64 r] w fun en w' => en = .returned (.bool true) ∧ Below w.heap.size w w'))
    (KP : Hid (∀ w, Calls Try.prog 21 #[.agg #[.int .i64 c1, .int .i64 o2, .int .i64 o3]] w fun en w' => en = .returned (.bool true) ∧ Below w.heap.size w w'))
    (ne : ¬ o2 = c2)
    (mx : Int) (hmx : ∀ (w : World) (ts : Array TypeId) (t : TypeId), (Builtin.max_ ts t #[.int .i64 s1, .int .i64 s2, .int .i64 s3]).run Try.prog w = .ok (.int .i64 mx) w) (t1 : decide (131072 < mx) = false)
    (mn : Int) (hmn : ∀ (w : World) (ts : Array TypeId) (t : TypeId), (Builtin.min_ ts t #[.int .i64 s1, .int .i64 s2, .int .i64 s3]).run Try.prog w = .ok (.int .i64 mn) w) (t2 : decide (mn < -131072) = true) :
    Calls Try.prog 5 #[.agg #[.int .i64 c1, .int .i64 c2, .int .i64 c3], .int .i64 r, .agg #[.int .i64 c1, .int .i64 o2, .int .i64 o3]] w fun en w' => en = .returned (.bool true) ∧ Below w.heap.size w w' := by
  have HA := Lib.hid (fun w => awake12 w)
  go_enter Try.func5, Try.ntmps5
  go_upto_region 1 with (fail)
  obtain ⟨W1, hW1⟩ : ∃ W, W = (w.alloc (.cells #[.int .i64 c1, .int .i64 c2, .int .i64 c3] 23)).alloc (.cells #[.int .i64 c1, .int .i64 o2, .int .i64 o3] 23) := ⟨_, rfl⟩
  obtain ⟨k_c, k_o, B1⟩ := st2 hW1
  rw [← hW1]
  clear hW1
  have l_o : w.heap.size < w.heap.size + 1 := by omega
  generalize w.heap.size + 1 = g_o at *
  obtain ⟨c_c_0, c_c_1, c_c_2⟩ := bwc3 (k_c)
  obtain ⟨c_o_0, c_o_1, c_o_2⟩ := bwc3 (k_o)
  obtain ⟨p1, hp1⟩ : ∃ p : BW W1, p.w = W1 := ⟨BW.start W1, rfl⟩
  rw [← hp1]
  clear hp1
  go_upto_region 2 with (first
    | (go_at_call 20; (first | (with_reducible refine (bw_call KS.out _).mono ?_)); rintro e w' ⟨rfl, q, rfl⟩))
  obtain ⟨W2, hW2⟩ : ∃ W, W = q.w.alloc (.cells #[.int .i64 s1, .int .i64 s2, .int .i64 s3] 23) := ⟨_, rfl⟩
  have B2 : Below w.heap.size w W2 := by rw [hW2]; exact (bw_below B1 q).alloc (bw_below B1 q).size _
  have l_d : g_o < q.w.heap.size := (k_o.below q.h).lt
  have o_d : w.heap.size ≤ q.w.heap.size := (bw_below B1 q).size
  have k_c := bka hW2 (k_c.below q.h)
  have k_o := bka hW2 (k_o.below q.h)
  have k_d := bkn hW2
  rw [← hW2]
  clear hW2
  clear B1
  clear c_c_0 c_c_1 c_c_2 c_o_0 c_o_1 c_o_2
  generalize q.w.heap.size = g_d at *
  obtain ⟨c_c_0, c_c_1, c_c_2⟩ := bwc3 (k_c)
  obtain ⟨c_o_0, c_o_1, c_o_2⟩ := bwc3 (k_o)
  obtain ⟨c_d_0, c_d_1, c_d_2⟩ := bwc3 (k_d)
  obtain ⟨p2, hp2⟩ : ∃ p : BW W2, p.w = W2 := ⟨BW.start W2, rfl⟩
  rw [← hp2]
  clear hp2
  go_wp2_with (first
    | (go_at_call 11; (first | (with_reducible refine (bw_call KR.out _).mono ?_)); rintro e w' ⟨rfl, q, rfl⟩)
    | (go_at_call 21; (first | (with_reducible refine (bw_call KP.out _).mono ?_)); rintro e w' ⟨rfl, q, rfl⟩)
    | (go_at_call 16; (first | (with_reducible refine (bw_call HA.out _).mono ?_)); rintro e w' ⟨rfl, q, rfl⟩))
  go_ret
  exact ⟨rfl, bw_below B2 _⟩

set_option maxRecDepth 100000 in
set_option maxHeartbeats 8000000 in
theorem thr_main2 (c1 c2 c3 r o2 o3 s1 s2 s3 n a m e x n1 n2 n3 : Int) (w : World) 
    (KS : Hid (∀ w, Calls Try.prog 20 #[.agg #[.int .i64 c1, .int .i64 c2, .int .i64 c3], .agg #[.int .i64 c1, .int .i64 o2, .int .i64 o3]] w fun en w' => en = .returned (.agg #[.int .i64 s1, .int .i64 s2, .int .i64 s3]) ∧ Below w.heap.size w w'))
    (KR : Hid (∀ w, Calls Try.prog 11 #[.agg #[.int .i64 c1, .int .i64 c2, .int .i64 c3], .int .i64 r] w fun en w' => en = .returned (.bool true) ∧ Below w.heap.size w w'))
    (KP : Hid (∀ w, Calls Try.prog 21 #[.agg #[.int .i64 c1, .int .i64 o2, .int .i64 o3]] w fun en w' => en = .returned (.bool true) ∧ Below w.heap.size w w'))
    (ne : ¬ o2 = c2)
    (mx : Int) (hmx : ∀ (w : World) (ts : Array TypeId) (t : TypeId), (Builtin.max_ ts t #[.int .i64 s1, .int .i64 s2, .int .i64 s3]).run Try.prog w = .ok (.int .i64 mx) w) (t1 : decide (131072 < mx) = false)
    (mn : Int) (hmn : ∀ (w : World) (ts : Array TypeId) (t : TypeId), (Builtin.min_ ts t #[.int .i64 s1, .int .i64 s2, .int .i64 s3]).run Try.prog w = .ok (.int .i64 mn) w) (t2 : decide (mn < -131072) = false)
    (KH : Hid (∀ w, Calls Try.prog 6 #[.agg #[.int .i64 c1, .int .i64 c2, .int .i64 c3], .int .i64 r, .agg #[.int .i64 c1, .int .i64 o2, .int .i64 o3, .int .i64 s1, .int .i64 s2, .int .i64 s3, .int .i64 (-1)]] w fun en w' => en = .returned (.tuple #[.agg #[.int .i64 n, .int .i64 a], .bool true]) ∧ Below w.heap.size w w'))
    (KT : Hid (∀ w, Calls Try.prog 8 #[.agg #[.int .i64 c1, .int .i64 c2, .int .i64 c3], .int .i64 r, .agg #[.int .i64 c1, .int .i64 o2, .int .i64 o3, .int .i64 s1, .int .i64 s2, .int .i64 s3, .int .i64 0]] w fun en w' => en = .returned (.tuple #[.agg #[.int .i64 m, .int .i64 e], .bool true]) ∧ Below w.heap.size w w'))
    (KN : Hid (∀ w, Calls Try.prog 12 #[.agg #[.int .i64 c1, .int .i64 c2, .int .i64 c3], .agg #[.int .i64 c1, .int .i64 o2, .int .i64 o3]] w fun en w' => en = .returned (.agg #[.int .i64 n1, .int .i64 n2, .int .i64 n3]) ∧ Below w.heap.size w w'))
    (KD : Hid (∀ w, Calls Try.prog 22 #[.agg #[.int .i64 n1, .int .i64 n2, .int .i64 n3], .agg #[.int .i64 s1, .int .i64 s2, .int .i64 s3]] w fun en w' => en = .returned (.int .i64 x) ∧ Below w.heap.size w w'))
    (t3 : 2 * e = m) (t4 : wrap64 m = m) (t5 : IntKind.i64.wrap m = m) (t6 : decide (x < 0) = true) :
    Calls Try.prog 5 #[.agg #[.int .i64 c1, .int .i64 c2, .int .i64 c3], .int .i64 r, .agg #[.int .i64 c1, .int .i64 o2, .int .i64 o3]] w fun en w' => en = .returned (.bool true) ∧ Below w.heap.size w w' := by
  have HA := Lib.hid (fun w => awake12 w)
  go_enter Try.func5, Try.ntmps5
  go_upto_region 1 with (fail)
  obtain ⟨W1, hW1⟩ : ∃ W, W = (w.alloc (.cells #[.int .i64 c1, .int .i64 c2, .int .i64 c3] 23)).alloc (.cells #[.int .i64 c1, .int .i64 o2, .int .i64 o3] 23) := ⟨_, rfl⟩
  obtain ⟨k_c, k_o, B1⟩ := st2 hW1
  rw [← hW1]
  clear hW1
  have l_o : w.heap.size < w.heap.size + 1 := by omega
  generalize w.heap.size + 1 = g_o at *
  obtain ⟨c_c_0, c_c_1, c_c_2⟩ := bwc3 (k_c)
  obtain ⟨c_o_0, c_o_1, c_o_2⟩ := bwc3 (k_o)
  obtain ⟨p1, hp1⟩ : ∃ p : BW W1, p.w = W1 := ⟨BW.start W1, rfl⟩
  rw [← hp1]
  clear hp1
  go_upto_region 2 with (first
    | (go_at_call 20; (first | (with_reducible refine (bw_call KS.out _).mono ?_)); rintro e w' ⟨rfl, q, rfl⟩))
  obtain ⟨W2, hW2⟩ : ∃ W, W = q.w.alloc (.cells #[.int .i64 s1, .int .i64 s2, .int .i64 s3] 23) := ⟨_, rfl⟩
  have B2 : Below w.heap.size w W2 := by rw [hW2]; exact (bw_below B1 q).alloc (bw_below B1 q).size _
  have l_d : g_o < q.w.heap.size := (k_o.below q.h).lt
  have o_d : w.heap.size ≤ q.w.heap.size := (bw_below B1 q).size
  have k_c := bka hW2 (k_c.below q.h)
  have k_o := bka hW2 (k_o.below q.h)
  have k_d := bkn hW2
  rw [← hW2]
  clear hW2
  clear B1
  clear c_c_0 c_c_1 c_c_2 c_o_0 c_o_1 c_o_2
  generalize q.w.heap.size = g_d at *
  obtain ⟨c_c_0, c_c_1, c_c_2⟩ := bwc3 (k_c)
  obtain ⟨c_o_0, c_o_1, c_o_2⟩ := bwc3 (k_o)
  obtain ⟨c_d_0, c_d_1, c_d_2⟩ := bwc3 (k_d)
  obtain ⟨p2, hp2⟩ : ∃ p : BW W2, p.w = W2 := ⟨BW.start W2, rfl⟩
  rw [← hp2]
  clear hp2
  go_upto_region 5 with (first
    | (go_at_call 11; (first | (with_reducible refine (bw_call KR.out _).mono ?_)); rintro e w' ⟨rfl, q, rfl⟩)
    | (go_at_call 21; (first | (with_reducible refine (bw_call KP.out _).mono ?_)); rintro e w' ⟨rfl, q, rfl⟩)
    | (go_at_call 16; (first | (with_reducible refine (bw_call HA.out _).mono ?_)); rintro e w' ⟨rfl, q, rfl⟩)
    | (go_at_call 6; (first | (with_reducible refine (bw_call KH.out _).mono ?_)); rintro e w' ⟨rfl, q, rfl⟩))
  obtain ⟨W3, hW3⟩ : ∃ W, W = q.w.alloc (.cells #[.int .i64 n, .int .i64 a] 27) := ⟨_, rfl⟩
  have B3 : Below w.heap.size w W3 := by rw [hW3]; exact (bw_below B2 q).alloc (bw_below B2 q).size _
  have l_t : g_d < q.w.heap.size := (k_d.below q.h).lt
  have o_t : w.heap.size ≤ q.w.heap.size := (bw_below B2 q).size
  have k_c := bka hW3 (k_c.below q.h)
  have k_o := bka hW3 (k_o.below q.h)
  have k_d := bka hW3 (k_d.below q.h)
  have k_t := bkn hW3
  rw [← hW3]
  clear hW3
  clear B2
  clear c_c_0 c_c_1 c_c_2 c_o_0 c_o_1 c_o_2 c_d_0 c_d_1 c_d_2
  generalize q.w.heap.size = g_t at *
  obtain ⟨c_c_0, c_c_1, c_c_2⟩ := bwc3 (k_c)
  obtain ⟨c_o_0, c_o_1, c_o_2⟩ := bwc3 (k_o)
  obtain ⟨c_d_0, c_d_1, c_d_2⟩ := bwc3 (k_d)
  obtain ⟨c_t_0, c_t_1⟩ := bwc2 (k_t)
  obtain ⟨p3, hp3⟩ : ∃ p : BW W3, p.w = W3 := ⟨BW.start W3, rfl⟩
  rw [← hp3]
  clear hp3
  go_upto_region 6 with (first
    | (go_at_call 8; (first | (with_reducible refine (bw_call KT.out _).mono ?_)); rintro e w' ⟨rfl, q, rfl⟩))
  obtain ⟨W4, hW4⟩ : ∃ W, W = q.w.alloc (.cells #[.int .i64 m, .int .i64 e] 27) := ⟨_, rfl⟩
  have B4 : Below w.heap.size w W4 := by rw [hW4]; exact (bw_below B3 q).alloc (bw_below B3 q).size _
  have l_u : g_t < q.w.heap.size := (k_t.below q.h).lt
  have o_u : w.heap.size ≤ q.w.heap.size := (bw_below B3 q).size
  have k_c := bka hW4 (k_c.below q.h)
  have k_o := bka hW4 (k_o.below q.h)
  have k_d := bka hW4 (k_d.below q.h)
  have k_t := bka hW4 (k_t.below q.h)
  have k_u := bkn hW4
  rw [← hW4]
  clear hW4
  clear B3
  clear c_c_0 c_c_1 c_c_2 c_o_0 c_o_1 c_o_2 c_d_0 c_d_1 c_d_2 c_t_0 c_t_1
  generalize q.w.heap.size = g_u at *
  obtain ⟨c_c_0, c_c_1, c_c_2⟩ := bwc3 (k_c)
  obtain ⟨c_o_0, c_o_1, c_o_2⟩ := bwc3 (k_o)
  obtain ⟨c_d_0, c_d_1, c_d_2⟩ := bwc3 (k_d)
  obtain ⟨c_t_0, c_t_1⟩ := bwc2 (k_t)
  obtain ⟨c_u_0, c_u_1⟩ := bwc2 (k_u)
  obtain ⟨p4, hp4⟩ : ∃ p : BW W4, p.w = W4 := ⟨BW.start W4, rfl⟩
  rw [← hp4]
  clear hp4
  go_upto_region 7 with (first
    | (go_at_call 12; (first | (with_reducible refine (bw_call KN.out _).mono ?_)); rintro e w' ⟨rfl, q, rfl⟩))
  obtain ⟨W5, hW5⟩ : ∃ W, W = q.w.alloc (.cells #[.int .i64 n1, .int .i64 n2, .int .i64 n3] 23) := ⟨_, rfl⟩
  have B5 : Below w.heap.size w W5 := by rw [hW5]; exact (bw_below B4 q).alloc (bw_below B4 q).size _
  have l_nn : g_u < q.w.heap.size := (k_u.below q.h).lt
  have o_nn : w.heap.size ≤ q.w.heap.size := (bw_below B4 q).size
  have k_c := bka hW5 (k_c.below q.h)
  have k_o := bka hW5 (k_o.below q.h)
  have k_d := bka hW5 (k_d.below q.h)
  have k_t := bka hW5 (k_t.below q.h)
  have k_u := bka hW5 (k_u.below q.h)
  have k_nn := bkn hW5
  rw [← hW5]
  clear hW5
  clear B4
  clear c_c_0 c_c_1 c_c_2 c_o_0 c_o_1 c_o_2 c_d_0 c_d_1 c_d_2 c_t_0 c_t_1 c_u_0 c_u_1
  generalize q.w.heap.size = g_nn at *
  obtain ⟨c_c_0, c_c_1, c_c_2⟩ := bwc3 (k_c)
  obtain ⟨c_o_0, c_o_1, c_o_2⟩ := bwc3 (k_o)
  obtain ⟨c_d_0, c_d_1, c_d_2⟩ := bwc3 (k_d)
  obtain ⟨c_t_0, c_t_1⟩ := bwc2 (k_t)
  obtain ⟨c_u_0, c_u_1⟩ := bwc2 (k_u)
  obtain ⟨c_nn_0, c_nn_1, c_nn_2⟩ := bwc3 (k_nn)
  obtain ⟨p5, hp5⟩ : ∃ p : BW W5, p.w = W5 := ⟨BW.start W5, rfl⟩
  rw [← hp5]
  clear hp5
  go_wp2_with (first
    | (go_at_call 22; (first | (with_reducible refine (bw_call KD.out _).mono ?_)); rintro e w' ⟨rfl, q, rfl⟩)
    | (go_at_call 16; (first | (with_reducible refine (bw_call HA.out _).mono ?_)); rintro e w' ⟨rfl, q, rfl⟩))
  go_ret
  exact ⟨rfl, bw_below B5 _⟩

set_option maxRecDepth 100000 in
set_option maxHeartbeats 8000000 in
theorem thr_max3 (c1 c2 c3 r o3 s1 s2 s3 : Int) (w : World) 
    (KS : Hid (∀ w, Calls Try.prog 20 #[.agg #[.int .i64 c1, .int .i64 c2, .int .i64 c3], .agg #[.int .i64 c1, .int .i64 c2, .int .i64 o3]] w fun en w' => en = .returned (.agg #[.int .i64 s1, .int .i64 s2, .int .i64 s3]) ∧ Below w.heap.size w w'))
    (KR : Hid (∀ w, Calls Try.prog 11 #[.agg #[.int .i64 c1, .int .i64 c2, .int .i64 c3], .int .i64 r] w fun en w' => en = .returned (.bool true) ∧ Below w.heap.size w w'))
    (KP : Hid (∀ w, Calls Try.prog 21 #[.agg #[.int .i64 c1, .int .i64 c2, .int .i64 o3]] w fun en w' => en = .returned (.bool true) ∧ Below w.heap.size w w'))
    (ne : ¬ o3 = c3)
    (mx : Int) (hmx : ∀ (w : World) (ts : Array TypeId) (t : TypeId), (Builtin.max_ ts t #[.int .i64 s1, .int .i64 s2, .int .i64 s3]).run Try.prog w = .ok (.int .i64 mx) w) (t1 : decide (131072 < mx) = true) :
    Calls Try.prog 5 #[.agg #[.int .i64 c1, .int .i64 c2, .int .i64 c3], .int .i64 r, .agg #[.int .i64 c1, .int .i64 c2, .int .i64 o3]] w fun en w' => en = .returned (.bool true) ∧ Below w.heap.size w w' := by
  have HA := Lib.hid (fun w => awake12 w)
  go_enter Try.func5, Try.ntmps5
  go_upto_region 1 with (fail)
  obtain ⟨W1, hW1⟩ : ∃ W, W = (w.alloc (.cells #[.int .i64 c1, .int .i64 c2, .int .i64 c3] 23)).alloc (.cells #[.int .i64 c1, .int .i64 c2, .int .i64 o3] 23) := ⟨_, rfl⟩
  obtain ⟨k_c, k_o, B1⟩ := st2 hW1
  rw [← hW1]
  clear hW1
  have l_o : w.heap.size < w.heap.size + 1 := by omega
  generalize w.heap.size + 1 = g_o at *
  obtain ⟨c_c_0, c_c_1, c_c_2⟩ := bwc3 (k_c)
  obtain ⟨c_o_0, c_o_1, c_o_2⟩ := bwc3 (k_o)
  obtain ⟨p1, hp1⟩ : ∃ p : BW W1, p.w = W1 := ⟨BW.start W1, rfl⟩
  rw [← hp1]
  clear hp1
  go_upto_region 2 with (first
    | (go_at_call 20; (first | (with_reducible refine (bw_call KS.out _).mono ?_)); rintro e w' ⟨rfl, q, rfl⟩))
  obtain ⟨W2, hW2⟩ : ∃ W, W = q.w.alloc (.cells #[.int .i64 s1, .int .i64 s2, .int .i64 s3] 23) := ⟨_, rfl⟩
  have B2 : Below w.heap.size w W2 := by rw [hW2]; exact (bw_below B1 q).alloc (bw_below B1 q).size _
  have l_d : g_o < q.w.heap.size := (k_o.below q.h).lt
  have o_d : w.heap.size ≤ q.w.heap.size := (bw_below B1 q).size
  have k_c := bka hW2 (k_c.below q.h)
  have k_o := bka hW2 (k_o.below q.h)
  have k_d := bkn hW2
  rw [← hW2]
  clear hW2
  clear B1
  clear c_c_0 c_c_1 c_c_2 c_o_0 c_o_1 c_o_2
  generalize q.w.heap.size = g_d at *
  obtain ⟨c_c_0, c_c_1, c_c_2⟩ := bwc3 (k_c)
  obtain ⟨c_o_0, c_o_1, c_o_2⟩ := bwc3 (k_o)
  obtain ⟨c_d_0, c_d_1, c_d_2⟩ := bwc3 (k_d)
  obtain ⟨p2, hp2⟩ : ∃ p : BW W2, p.w = W2 := ⟨BW.start W2, rfl⟩
  rw [← hp2]
  clear hp2
  go_wp2_with (first
    | (go_at_call 11; (first | (with_reducible refine (bw_call KR.out _).mono ?_)); rintro e w' ⟨rfl, q, rfl⟩)
    | (go_at_call 21; (first | (with_reducible refine (bw_call KP.out _).mono ?_)); rintro e w' ⟨rfl, q, rfl⟩)
    | (go_at_call 16; (first | (with_reducible refine (bw_call HA.out _).mono ?_)); rintro e w' ⟨rfl, q, rfl⟩))
  go_ret
  exact ⟨rfl, bw_below B2 _⟩

set_option maxRecDepth 100000 in
set_option maxHeartbeats 8000000 in
theorem thr_min3 (c1 c2 c3 r o3 s1 s2 s3 : Int) (w : World) 
    (KS : Hid (∀ w, Calls Try.prog 20 #[.agg #[.int .i64 c1, .int .i64 c2, .int .i64 c3], .agg #[.int .i64 c1, .int .i64 c2, .int .i64 o3]] w fun en w' => en = .returned (.agg #[.int .i64 s1, .int .i64 s2, .int .i64 s3]) ∧ Below w.heap.size w w'))
    (KR : Hid (∀ w, Calls Try.prog 11 #[.agg #[.int .i64 c1, .int .i64 c2, .int .i64 c3], .int .i64 r] w fun en w' => en = .returned (.bool true) ∧ Below w.heap.size w w'))
    (KP : Hid (∀ w, Calls Try.prog 21 #[.agg #[.int .i64 c1, .int .i64 c2, .int .i64 o3]] w fun en w' => en = .returned (.bool true) ∧ Below w.heap.size w w'))
    (ne : ¬ o3 = c3)
    (mx : Int) (hmx : ∀ (w : World) (ts : Array TypeId) (t : TypeId), (Builtin.max_ ts t #[.int .i64 s1, .int .i64 s2, .int .i64 s3]).run Try.prog w = .ok (.int .i64 mx) w) (t1 : decide (131072 < mx) = false)
    (mn : Int) (hmn : ∀ (w : World) (ts : Array TypeId) (t : TypeId), (Builtin.min_ ts t #[.int .i64 s1, .int .i64 s2, .int .i64 s3]).run Try.prog w = .ok (.int .i64 mn) w) (t2 : decide (mn < -131072) = true) :
    Calls Try.prog 5 #[.agg #[.int .i64 c1, .int .i64 c2, .int .i64 c3], .int .i64 r, .agg #[.int .i64 c1, .int .i64 c2, .int .i64 o3]] w fun en w' => en = .returned (.bool true) ∧ Below w.heap.size w w' := by
  have HA := Lib.hid (fun w => awake12 w)
  go_enter Try.func5, Try.ntmps5
  go_upto_region 1 with (fail)
  obtain ⟨W1, hW1⟩ : ∃ W, W = (w.alloc (.cells #[.int .i64 c1, .int .i64 c2, .int .i64 c3] 23)).alloc (.cells #[.int .i64 c1, .int .i64 c2, .int .i64 o3] 23) := ⟨_, rfl⟩
  obtain ⟨k_c, k_o, B1⟩ := st2 hW1
  rw [← hW1]
  clear hW1
  have l_o : w.heap.size < w.heap.size + 1 := by omega
  generalize w.heap.size + 1 = g_o at *
  obtain ⟨c_c_0, c_c_1, c_c_2⟩ := bwc3 (k_c)
  obtain ⟨c_o_0, c_o_1, c_o_2⟩ := bwc3 (k_o)
  obtain ⟨p1, hp1⟩ : ∃ p : BW W1, p.w = W1 := ⟨BW.start W1, rfl⟩
  rw [← hp1]
  clear hp1
  go_upto_region 2 with (first
    | (go_at_call 20; (first | (with_reducible refine (bw_call KS.out _).mono ?_)); rintro e w' ⟨rfl, q, rfl⟩))
  obtain ⟨W2, hW2⟩ : ∃ W, W = q.w.alloc (.cells #[.int .i64 s1, .int .i64 s2, .int .i64 s3] 23) := ⟨_, rfl⟩
  have B2 : Below w.heap.size w W2 := by rw [hW2]; exact (bw_below B1 q).alloc (bw_below B1 q).size _
  have l_d : g_o < q.w.heap.size := (k_o.below q.h).lt
  have o_d : w.heap.size ≤ q.w.heap.size := (bw_below B1 q).size
  have k_c := bka hW2 (k_c.below q.h)
  have k_o := bka hW2 (k_o.below q.h)
  have k_d := bkn hW2
  rw [← hW2]
  clear hW2
  clear B1
  clear c_c_0 c_c_1 c_c_2 c_o_0 c_o_1 c_o_2
  generalize q.w.heap.size = g_d at *
  obtain ⟨c_c_0, c_c_1, c_c_2⟩ := bwc3 (k_c)
  obtain ⟨c_o_0, c_o_1, c_o_2⟩ := bwc3 (k_o)
  obtain ⟨c_d_0, c_d_1, c_d_2⟩ := bwc3 (k_d)
  obtain ⟨p2, hp2⟩ : ∃ p : BW W2, p.w = W2 := ⟨BW.start W2, rfl⟩
  rw [← hp2]
  clear hp2
  go_wp2_with (first
    | (go_at_call 11; (first | (with_reducible refine (bw_call KR.out _).mono ?_)); rintro e w' ⟨rfl, q, rfl⟩)
    | (go_at_call 21; (first | (with_reducible refine (bw_call KP.out _).mono ?_)); rintro e w' ⟨rfl, q, rfl⟩)
    | (go_at_call 16; (first | (with_reducible refine (bw_call HA.out _).mono ?_)); rintro e w' ⟨rfl, q, rfl⟩))
  go_ret
  exact ⟨rfl, bw_below B2 _⟩

set_option maxRecDepth 100000 in
set_option maxHeartbeats 8000000 in
theorem thr_main3 (c1 c2 c3 r o3 s1 s2 s3 n a m e x n1 n2 n3 : Int) (w : World) 
    (KS : Hid (∀ w, Calls Try.prog 20 #[.agg #[.int .i64 c1, .int .i64 c2, .int .i64 c3], .agg #[.int .i64 c1, .int .i64 c2, .int .i64 o3]] w fun en w' => en = .returned (.agg #[.int .i64 s1, .int .i64 s2, .int .i64 s3]) ∧ Below w.heap.size w w'))
    (KR : Hid (∀ w, Calls Try.prog 11 #[.agg #[.int .i64 c1, .int .i64 c2, .int .i64 c3], .int .i64 r] w fun en w' => en = .returned (.bool true) ∧ Below w.heap.size w w'))
    (KP : Hid (∀ w, Calls Try.prog 21 #[.agg #[.int .i64 c1, .int .i64 c2, .int .i64 o3]] w fun en w' => en = .returned (.bool true) ∧ Below w.heap.size w w'))
    (ne : ¬ o3 = c3)
    (mx : Int) (hmx : ∀ (w : World) (ts : Array TypeId) (t : TypeId), (Builtin.max_ ts t #[.int .i64 s1, .int .i64 s2, .int .i64 s3]).run Try.prog w = .ok (.int .i64 mx) w) (t1 : decide (131072 < mx) = false)
    (mn : Int) (hmn : ∀ (w : World) (ts : Array TypeId) (t : TypeId), (Builtin.min_ ts t #[.int .i64 s1, .int .i64 s2, .int .i64 s3]).run Try.prog w = .ok (.int .i64 mn) w) (t2 : decide (mn < -131072) = false)
    (KH : Hid (∀ w, Calls Try.prog 6 #[.agg #[.int .i64 c1, .int .i64 c2, .int .i64 c3], .int .i64 r, .agg #[.int .i64 c1, .int .i64 c2, .int .i64 o3, .int .i64 s1, .int .i64 s2, .int .i64 s3, .int .i64 (-1)]] w fun en w' => en = .returned (.tuple #[.agg #[.int .i64 n, .int .i64 a], .bool true]) ∧ Below w.heap.size w w'))
    (KT : Hid (∀ w, Calls Try.prog 8 #[.agg #[.int .i64 c1, .int .i64 c2, .int .i64 c3], .int .i64 r, .agg #[.int .i64 c1, .int .i64 c2, .int .i64 o3, .int .i64 s1, .int .i64 s2, .int .i64 s3, .int .i64 0]] w fun en w' => en = .returned (.tuple #[.agg #[.int .i64 m, .int .i64 e], .bool true]) ∧ Below w.heap.size w w'))
    (KN : Hid (∀ w, Calls Try.prog 12 #[.agg #[.int .i64 c1, .int .i64 c2, .int .i64 c3], .agg #[.int .i64 c1, .int .i64 c2, .int .i64 o3]] w fun en w' => en = .returned (.agg #[.int .i64 n1, .int .i64 n2, .int .i64 n3]) ∧ Below w.heap.size w w'))
    (KD : Hid (∀ w, Calls Try.prog 22 #[.agg #[.int .i64 n1, .int .i64 n2, .int .i64 n3], .agg #[.int .i64 s1, .int .i64 s2, .int .i64 s3]] w fun en w' => en = .returned (.int .i64 x) ∧ Below w.heap.size w w'))
    (t3 : 2 * e = m) (t4 : wrap64 m = m) (t5 : IntKind.i64.wrap m = m) (t6 : decide (x < 0) = true) :
    Calls Try.prog 5 #[.agg #[.int .i64 c1, .int .i64 c2, .int .i64 c3], .int .i64 r, .agg #[.int .i64 c1, .int .i64 c2, .int .i64 o3]] w fun en w' => en = .returned (.bool true) ∧ Below w.heap.size w w' := by
  have HA := Lib.hid (fun w => awake12 w)
  go_enter Try.func5, Try.ntmps5
  go_upto_region 1 with (fail)
  obtain ⟨W1, hW1⟩ : ∃ W, W = (w.alloc (.cells #[.int .i64 c1, .int .i64 c2, .int .i64 c3] 23)).alloc (.cells #[.int .i64 c1, .int .i64 c2, .int .i64 o3] 23) := ⟨_, rfl⟩
  obtain ⟨k_c, k_o, B1⟩ := st2 hW1
  rw [← hW1]
  clear hW1
  have l_o : w.heap.size < w.heap.size + 1 := by omega
  generalize w.heap.size + 1 = g_o at *
  obtain ⟨c_c_0, c_c_1, c_c_2⟩ := bwc3 (k_c)
  obtain ⟨c_o_0, c_o_1, c_o_2⟩ := bwc3 (k_o)
  obtain ⟨p1, hp1⟩ : ∃ p : BW W1, p.w = W1 := ⟨BW.start W1, rfl⟩
  rw [← hp1]
  clear hp1
  go_upto_region 2 with (first
    | (go_at_call 20; (first | (with_reducible refine (bw_call KS.out _).mono ?_)); rintro e w' ⟨rfl, q, rfl⟩))
  obtain ⟨W2, hW2⟩ : ∃ W, W = q.w.alloc (.cells #[.int .i64 s1, .int .i64 s2, .int .i64 s3] 23) := ⟨_, rfl⟩
  have B2 : Below w.heap.size w W2 := by rw [hW2]; exact (bw_below B1 q).alloc (bw_below B1 q).size _
  have l_d : g_o < q.w.heap.size := (k_o.below q.h).lt
  have o_d : w.heap.size ≤ q.w.heap.size := (bw_below B1 q).size
  have k_c := bka hW2 (k_c.below q.h)
  have k_o := bka hW2 (k_o.below q.h)
  have k_d := bkn hW2
  rw [← hW2]
  clear hW2
  clear B1
  clear c_c_0 c_c_1 c_c_2 c_o_0 c_o_1 c_o_2
  generalize q.w.heap.size = g_d at *
  obtain ⟨c_c_0, c_c_1, c_c_2⟩ := bwc3 (k_c)
  obtain ⟨c_o_0, c_o_1, c_o_2⟩ := bwc3 (k_o)
  obtain ⟨c_d_0, c_d_1, c_d_2⟩ := bwc3 (k_d)
  obtain ⟨p2, hp2⟩ : ∃ p : BW W2, p.w = W2 := ⟨BW.start W2, rfl⟩
  rw [← hp2]
  clear hp2
  go_upto_region 5 with (first
    | (go_at_call 11; (first | (with_reducible refine (bw_call KR.out _).mono ?_)); rintro e w' ⟨rfl, q, rfl⟩)
    | (go_at_call 21; (first | (with_reducible refine (bw_call KP.out _).mono ?_)); rintro e w' ⟨rfl, q, rfl⟩)
    | (go_at_call 16; (first | (with_reducible refine (bw_call HA.out _).mono ?_)); rintro e w' ⟨rfl, q, rfl⟩)
    | (go_at_call 6; (first | (with_reducible refine (bw_call KH.out _).mono ?_)); rintro e w' ⟨rfl, q, rfl⟩))
  obtain ⟨W3, hW3⟩ : ∃ W, W = q.w.alloc (.cells #[.int .i64 n, .int .i64 a] 27) := ⟨_, rfl⟩
  have B3 : Below w.heap.size w W3 := by rw [hW3]; exact (bw_below B2 q).alloc (bw_below B2 q).size _
  have l_t : g_d < q.w.heap.size := (k_d.below q.h).lt
  have o_t : w.heap.size ≤ q.w.heap.size := (bw_below B2 q).size
  have k_c := bka hW3 (k_c.below q.h)
  have k_o := bka hW3 (k_o.below q.h)
  have k_d := bka hW3 (k_d.below q.h)
  have k_t := bkn hW3
  rw [← hW3]
  clear hW3
  clear B2
  clear c_c_0 c_c_1 c_c_2 c_o_0 c_o_1 c_o_2 c_d_0 c_d_1 c_d_2
  generalize q.w.heap.size = g_t at *
  obtain ⟨c_c_0, c_c_1, c_c_2⟩ := bwc3 (k_c)
  obtain ⟨c_o_0, c_o_1, c_o_2⟩ := bwc3 (k_o)
  obtain ⟨c_d_0, c_d_1, c_d_2⟩ := bwc3 (k_d)
  obtain ⟨c_t_0, c_t_1⟩ := bwc2 (k_t)
  obtain ⟨p3, hp3⟩ : ∃ p : BW W3, p.w = W3 := ⟨BW.start W3, rfl⟩
  rw [← hp3]
  clear hp3
  go_upto_region 6 with (first
    | (go_at_call 8; (first | (with_reducible refine (bw_call KT.out _).mono ?_)); rintro e w' ⟨rfl, q, rfl⟩))
  obtain ⟨W4, hW4⟩ : ∃ W, W = q.w.alloc (.cells #[.int .i64 m, .int .i64 e] 27) := ⟨_, rfl⟩
  have B4 : Below w.heap.size w W4 := by rw [hW4]; exact (bw_below B3 q).alloc (bw_below B3 q).size _
  have l_u : g_t < q.w.heap.size := (k_t.below q.h).lt
  have o_u : w.heap.size ≤ q.w.heap.size := (bw_below B3 q).size
  have k_c := bka hW4 (k_c.below q.h)
  have k_o := bka hW4 (k_o.below q.h)
  have k_d := bka hW4 (k_d.below q.h)
  have k_t := bka hW4 (k_t.below q.h)
  have k_u := bkn hW4
  rw [← hW4]
  clear hW4
  clear B3
  clear c_c_0 c_c_1 c_c_2 c_o_0 c_o_1 c_o_2 c_d_0 c_d_1 c_d_2 c_t_0 c_t_1
  generalize q.w.heap.size = g_u at *
  obtain ⟨c_c_0, c_c_1, c_c_2⟩ := bwc3 (k_c)
  obtain ⟨c_o_0, c_o_1, c_o_2⟩ := bwc3 (k_o)
  obtain ⟨c_d_0, c_d_1, c_d_2⟩ := bwc3 (k_d)
  obtain ⟨c_t_0, c_t_1⟩ := bwc2 (k_t)
  obtain ⟨c_u_0, c_u_1⟩ := bwc2 (k_u)
  obtain ⟨p4, hp4⟩ : ∃ p : BW W4, p.w = W4 := ⟨BW.start W4, rfl⟩
  rw [← hp4]
  clear hp4
  go_upto_region 7 with (first
    | (go_at_call 12; (first | (with_reducible refine (bw_call KN.out _).mono ?_)); rintro e w' ⟨rfl, q, rfl⟩))
  obtain ⟨W5, hW5⟩ : ∃ W, W = q.w.alloc (.cells #[.int .i64 n1, .int .i64 n2, .int .i64 n3] 23) := ⟨_, rfl⟩
  have B5 : Below w.heap.size w W5 := by rw [hW5]; exact (bw_below B4 q).alloc (bw_below B4 q).size _
  have l_nn : g_u < q.w.heap.size := (k_u.below q.h).lt
  have o_nn : w.heap.size ≤ q.w.heap.size := (bw_below B4 q).size
  have k_c := bka hW5 (k_c.below q.h)
  have k_o := bka hW5 (k_o.below q.h)
  have k_d := bka hW5 (k_d.below q.h)
  have k_t := bka hW5 (k_t.below q.h)
  have k_u := bka hW5 (k_u.below q.h)
  have k_nn := bkn hW5
  rw [← hW5]
  clear hW5
  clear B4
  clear c_c_0 c_c_1 c_c_2 c_o_0 c_o_1 c_o_2 c_d_0 c_d_1 c_d_2 c_t_0 c_t_1 c_u_0 c_u_1
  generalize q.w.heap.size = g_nn at *
  obtain ⟨c_c_0, c_c_1, c_c_2⟩ := bwc3 (k_c)
  obtain ⟨c_o_0, c_o_1, c_o_2⟩ := bwc3 (k_o)
  obtain ⟨c_d_0, c_d_1, c_d_2⟩ := bwc3 (k_d)
  obtain ⟨c_t_0, c_t_1⟩ := bwc2 (k_t)
  obtain ⟨c_u_0, c_u_1⟩ := bwc2 (k_u)
  obtain ⟨c_nn_0, c_nn_1, c_nn_2⟩ := bwc3 (k_nn)
  obtain ⟨p5, hp5⟩ : ∃ p : BW W5, p.w = W5 := ⟨BW.start W5, rfl⟩
  rw [← hp5]
  clear hp5
  go_wp2_with (first
    | (go_at_call 22; (first | (with_reducible refine (bw_call KD.out _).mono ?_)); rintro e w' ⟨rfl, q, rfl⟩)
    | (go_at_call 16; (first | (with_reducible refine (bw_call HA.out _).mono ?_)); rintro e w' ⟨rfl, q, rfl⟩))
  go_ret
  exact ⟨rfl, bw_below B5 _⟩

theorem thr_1 (c1 c2 c3 r o1 o2 o3 : Int) (w : World) (hr : ballR (c1, c2, c3) r = true) (ho : plc (o1, o2, o3) = true) (ne : ¬ o1 = c1) (hc : I3 (c1, c2, c3)) (hi : I3 (o1, o2, o3)) (ir : I64 r) :
    Calls Try.prog 5 #[.agg #[.int .i64 c1, .int .i64 c2, .int .i64 c3], .int .i64 r, .agg #[.int .i64 o1, .int .i64 o2, .int .i64 o3]] w fun en w' => en = .returned (.bool true) ∧ Below w.heap.size w w' := by
  have hpc : plc (c1, c2, c3) = true := (ballR_iff.1 hr).1
  have es := sbT_vs hpc ho
  dsimp only at es
  have KR := Lib.hid (fun w => ref12_Right c1 c2 c3 r w)
  rw [hr] at KR
  have KP := Lib.hid (fun w => ref11_Place o1 o2 o3 w)
  rw [ho] at KP
  have KS := Lib.hid (fun w => ref6_Sub c1 c2 c3 o1 o2 o3 w hc.1 hc.2.1 hc.2.2 hi.1 hi.2.1 hi.2.2)
  have hz : isZ (sbT (c1, c2, c3) (o1, o2, o3)) = false := by
    unfold isZ sbT
    dsimp only
    exact decide_eq_false (by omega)
  have key := fun h => ball_through hr ho hz h
  have KN := Lib.hid (fun w => ball_Normal c1 c2 c3 o1 o2 o3 w hc hi)
  rw [← es] at key
  generalize vsub c1 o1 = s1 at *
  generalize vsub c2 o2 = s2 at *
  generalize vsub c3 o3 = s3 at *
  obtain ⟨mx, emx⟩ : ∃ m, m = (if s3 > (if s2 > s1 then s2 else s1) then s3 else (if s2 > s1 then s2 else s1)) := ⟨_, rfl⟩
  obtain ⟨mn, emn⟩ : ∃ m, m = (if s3 < (if s2 < s1 then s2 else s1) then s3 else (if s2 < s1 then s2 else s1)) := ⟨_, rfl⟩
  have hmx : ∀ (w : World) (ts : Array TypeId) (t : TypeId), (Builtin.max_ ts t #[.int .i64 s1, .int .i64 s2, .int .i64 s3]).run Try.prog w = .ok (.int .i64 mx) w := fun w ts t => by rw [emx]; exact run_max_int3 ..
  have hmn : ∀ (w : World) (ts : Array TypeId) (t : TypeId), (Builtin.min_ ts t #[.int .i64 s1, .int .i64 s2, .int .i64 s3]).run Try.prog w = .ok (.int .i64 mn) w := fun w ts t => by rw [emn]; exact run_min_int3 ..
  by_cases h1 : 131072 < mx
  · exact thr_max1 c1 c2 c3 r o1 o2 o3 s1 s2 s3 w KS KR KP ne mx hmx (decide_eq_true h1)
  · by_cases h2 : mn < -131072
    · exact thr_min1 c1 c2 c3 r o1 o2 o3 s1 s2 s3 w KS KR KP ne mx hmx (decide_eq_false h1) mn hmn (decide_eq_true h2)
    · have hn : nrT (s1, s2, s3) = true := by unfold nrT; rw [vnear_iff]; dsimp only; (repeat' split at emx) <;> (repeat' split at emn) <;> omega
      obtain ⟨k1, k2, k3, k4⟩ := key hn
      have KD := Lib.hid (fun w => ref6_Dot (ballN (c1, c2, c3) (o1, o2, o3)).1 (ballN (c1, c2, c3) (o1, o2, o3)).2.1 (ballN (c1, c2, c3) (o1, o2, o3)).2.2 s1 s2 s3 w)
      have ed := vdot_dtT k4 hn
      dsimp only at ed
      rw [ed] at KD
      have bd := dtT_near hn hn
      have KH := Lib.hid (fun w => ball_Hit c1 c2 c3 r o1 o2 o3 s1 s2 s3 (-1) w hc ir hi (nrT_I3 hn))
      rw [k1] at KH
      have KT := Lib.hid (fun w => ball_Through c1 c2 c3 r o1 o2 o3 s1 s2 s3 0 w hc ir hi (nrT_I3 hn))
      rw [k2] at KT
      dsimp only at KT
      exact thr_main1 c1 c2 c3 r o1 o2 o3 s1 s2 s3 _ _ _ _ _ _ _ _ w KS KR KP ne mx hmx (decide_eq_false h1) mn hmn (decide_eq_false h2) KH KT KN KD rfl (IntWalk.wrap64_in _ (by omega)) (by rw [i64w]; omega) (decide_eq_true k3)

theorem thr_2 (c1 c2 c3 r o2 o3 : Int) (w : World) (hr : ballR (c1, c2, c3) r = true) (ho : plc (c1, o2, o3) = true) (ne : ¬ o2 = c2) (hc : I3 (c1, c2, c3)) (hi : I3 (c1, o2, o3)) (ir : I64 r) :
    Calls Try.prog 5 #[.agg #[.int .i64 c1, .int .i64 c2, .int .i64 c3], .int .i64 r, .agg #[.int .i64 c1, .int .i64 o2, .int .i64 o3]] w fun en w' => en = .returned (.bool true) ∧ Below w.heap.size w w' := by
  have hpc : plc (c1, c2, c3) = true := (ballR_iff.1 hr).1
  have es := sbT_vs hpc ho
  dsimp only at es
  have KR := Lib.hid (fun w => ref12_Right c1 c2 c3 r w)
  rw [hr] at KR
  have KP := Lib.hid (fun w => ref11_Place c1 o2 o3 w)
  rw [ho] at KP
  have KS := Lib.hid (fun w => ref6_Sub c1 c2 c3 c1 o2 o3 w hc.1 hc.2.1 hc.2.2 hi.1 hi.2.1 hi.2.2)
  have hz : isZ (sbT (c1, c2, c3) (c1, o2, o3)) = false := by
    unfold isZ sbT
    dsimp only
    exact decide_eq_false (by omega)
  have key := fun h => ball_through hr ho hz h
  have KN := Lib.hid (fun w => ball_Normal c1 c2 c3 c1 o2 o3 w hc hi)
  rw [← es] at key
  generalize vsub c1 c1 = s1 at *
  generalize vsub c2 o2 = s2 at *
  generalize vsub c3 o3 = s3 at *
  obtain ⟨mx, emx⟩ : ∃ m, m = (if s3 > (if s2 > s1 then s2 else s1) then s3 else (if s2 > s1 then s2 else s1)) := ⟨_, rfl⟩
  obtain ⟨mn, emn⟩ : ∃ m, m = (if s3 < (if s2 < s1 then s2 else s1) then s3 else (if s2 < s1 then s2 else s1)) := ⟨_, rfl⟩
  have hmx : ∀ (w : World) (ts : Array TypeId) (t : TypeId), (Builtin.max_ ts t #[.int .i64 s1, .int .i64 s2, .int .i64 s3]).run Try.prog w = .ok (.int .i64 mx) w := fun w ts t => by rw [emx]; exact run_max_int3 ..
  have hmn : ∀ (w : World) (ts : Array TypeId) (t : TypeId), (Builtin.min_ ts t #[.int .i64 s1, .int .i64 s2, .int .i64 s3]).run Try.prog w = .ok (.int .i64 mn) w := fun w ts t => by rw [emn]; exact run_min_int3 ..
  by_cases h1 : 131072 < mx
  · exact thr_max2 c1 c2 c3 r o2 o3 s1 s2 s3 w KS KR KP ne mx hmx (decide_eq_true h1)
  · by_cases h2 : mn < -131072
    · exact thr_min2 c1 c2 c3 r o2 o3 s1 s2 s3 w KS KR KP ne mx hmx (decide_eq_false h1) mn hmn (decide_eq_true h2)
    · have hn : nrT (s1, s2, s3) = true := by unfold nrT; rw [vnear_iff]; dsimp only; (repeat' split at emx) <;> (repeat' split at emn) <;> omega
      obtain ⟨k1, k2, k3, k4⟩ := key hn
      have KD := Lib.hid (fun w => ref6_Dot (ballN (c1, c2, c3) (c1, o2, o3)).1 (ballN (c1, c2, c3) (c1, o2, o3)).2.1 (ballN (c1, c2, c3) (c1, o2, o3)).2.2 s1 s2 s3 w)
      have ed := vdot_dtT k4 hn
      dsimp only at ed
      rw [ed] at KD
      have bd := dtT_near hn hn
      have KH := Lib.hid (fun w => ball_Hit c1 c2 c3 r c1 o2 o3 s1 s2 s3 (-1) w hc ir hi (nrT_I3 hn))
      rw [k1] at KH
      have KT := Lib.hid (fun w => ball_Through c1 c2 c3 r c1 o2 o3 s1 s2 s3 0 w hc ir hi (nrT_I3 hn))
      rw [k2] at KT
      dsimp only at KT
      exact thr_main2 c1 c2 c3 r o2 o3 s1 s2 s3 _ _ _ _ _ _ _ _ w KS KR KP ne mx hmx (decide_eq_false h1) mn hmn (decide_eq_false h2) KH KT KN KD rfl (IntWalk.wrap64_in _ (by omega)) (by rw [i64w]; omega) (decide_eq_true k3)

theorem thr_3 (c1 c2 c3 r o3 : Int) (w : World) (hr : ballR (c1, c2, c3) r = true) (ho : plc (c1, c2, o3) = true) (ne : ¬ o3 = c3) (hc : I3 (c1, c2, c3)) (hi : I3 (c1, c2, o3)) (ir : I64 r) :
    Calls Try.prog 5 #[.agg #[.int .i64 c1, .int .i64 c2, .int .i64 c3], .int .i64 r, .agg #[.int .i64 c1, .int .i64 c2, .int .i64 o3]] w fun en w' => en = .returned (.bool true) ∧ Below w.heap.size w w' := by
  have hpc : plc (c1, c2, c3) = true := (ballR_iff.1 hr).1
  have es := sbT_vs hpc ho
  dsimp only at es
  have KR := Lib.hid (fun w => ref12_Right c1 c2 c3 r w)
  rw [hr] at KR
  have KP := Lib.hid (fun w => ref11_Place c1 c2 o3 w)
  rw [ho] at KP
  have KS := Lib.hid (fun w => ref6_Sub c1 c2 c3 c1 c2 o3 w hc.1 hc.2.1 hc.2.2 hi.1 hi.2.1 hi.2.2)
  have hz : isZ (sbT (c1, c2, c3) (c1, c2, o3)) = false := by
    unfold isZ sbT
    dsimp only
    exact decide_eq_false (by omega)
  have key := fun h => ball_through hr ho hz h
  have KN := Lib.hid (fun w => ball_Normal c1 c2 c3 c1 c2 o3 w hc hi)
  rw [← es] at key
  generalize vsub c1 c1 = s1 at *
  generalize vsub c2 c2 = s2 at *
  generalize vsub c3 o3 = s3 at *
  obtain ⟨mx, emx⟩ : ∃ m, m = (if s3 > (if s2 > s1 then s2 else s1) then s3 else (if s2 > s1 then s2 else s1)) := ⟨_, rfl⟩
  obtain ⟨mn, emn⟩ : ∃ m, m = (if s3 < (if s2 < s1 then s2 else s1) then s3 else (if s2 < s1 then s2 else s1)) := ⟨_, rfl⟩
  have hmx : ∀ (w : World) (ts : Array TypeId) (t : TypeId), (Builtin.max_ ts t #[.int .i64 s1, .int .i64 s2, .int .i64 s3]).run Try.prog w = .ok (.int .i64 mx) w := fun w ts t => by rw [emx]; exact run_max_int3 ..
  have hmn : ∀ (w : World) (ts : Array TypeId) (t : TypeId), (Builtin.min_ ts t #[.int .i64 s1, .int .i64 s2, .int .i64 s3]).run Try.prog w = .ok (.int .i64 mn) w := fun w ts t => by rw [emn]; exact run_min_int3 ..
  by_cases h1 : 131072 < mx
  · exact thr_max3 c1 c2 c3 r o3 s1 s2 s3 w KS KR KP ne mx hmx (decide_eq_true h1)
  · by_cases h2 : mn < -131072
    · exact thr_min3 c1 c2 c3 r o3 s1 s2 s3 w KS KR KP ne mx hmx (decide_eq_false h1) mn hmn (decide_eq_true h2)
    · have hn : nrT (s1, s2, s3) = true := by unfold nrT; rw [vnear_iff]; dsimp only; (repeat' split at emx) <;> (repeat' split at emn) <;> omega
      obtain ⟨k1, k2, k3, k4⟩ := key hn
      have KD := Lib.hid (fun w => ref6_Dot (ballN (c1, c2, c3) (c1, c2, o3)).1 (ballN (c1, c2, c3) (c1, c2, o3)).2.1 (ballN (c1, c2, c3) (c1, c2, o3)).2.2 s1 s2 s3 w)
      have ed := vdot_dtT k4 hn
      dsimp only at ed
      rw [ed] at KD
      have bd := dtT_near hn hn
      have KH := Lib.hid (fun w => ball_Hit c1 c2 c3 r c1 c2 o3 s1 s2 s3 (-1) w hc ir hi (nrT_I3 hn))
      rw [k1] at KH
      have KT := Lib.hid (fun w => ball_Through c1 c2 c3 r c1 c2 o3 s1 s2 s3 0 w hc ir hi (nrT_I3 hn))
      rw [k2] at KT
      dsimp only at KT
      exact thr_main3 c1 c2 c3 r o3 s1 s2 s3 _ _ _ _ _ _ _ _ w KS KR KP ne mx hmx (decide_eq_false h1) mn hmn (decide_eq_false h2) KH KT KN KD rfl (IntWalk.wrap64_in _ (by omega)) (by rw [i64w]; omega) (decide_eq_true k3)

theorem law_BallThrough (c1 c2 c3 r o1 o2 o3 : Int) (w : World) (hc : I3 (c1, c2, c3)) (ir : I64 r) (hi : I3 (o1, o2, o3)) :
    Calls Try.prog 5 #[.agg #[.int .i64 c1, .int .i64 c2, .int .i64 c3], .int .i64 r, .agg #[.int .i64 o1, .int .i64 o2, .int .i64 o3]] w fun en w' => en = .returned (.bool true) ∧ Below w.heap.size w w' := by
  have KR := Lib.hid (fun w => ref12_Right c1 c2 c3 r w)
  have KP := Lib.hid (fun w => ref11_Place o1 o2 o3 w)
  have KS := Lib.hid (fun w => ref6_Sub c1 c2 c3 o1 o2 o3 w hc.1 hc.2.1 hc.2.2 hi.1 hi.2.1 hi.2.2)
  cases hr : ballR (c1, c2, c3) r with
  | false => rw [hr] at KR; exact thr_e1 c1 c2 c3 r o1 o2 o3 _ _ _ w KS KR
  | true =>
    rw [hr] at KR
    cases ho : plc (o1, o2, o3) with
    | false => rw [ho] at KP; exact thr_e2 c1 c2 c3 r o1 o2 o3 _ _ _ w KS KR KP
    | true =>
      rw [ho] at KP
      by_cases n1 : o1 = c1
      · subst n1
        by_cases n2 : o2 = c2
        · subst n2
          by_cases n3 : o3 = c3
          · subst n3
            exact thr_eq o1 o2 o3 r _ _ _ w KS KR KP
          · exact thr_3 o1 o2 c3 r o3 w hr ho n3 hc hi ir
        · exact thr_2 o1 c2 c3 r o2 o3 w hr ho n2 hc hi ir
      · exact thr_1 c1 c2 c3 r o1 o2 o3 w hr ho n1 hc hi ir

end Go.Proofs.Ytppejnfiphkmnaa
