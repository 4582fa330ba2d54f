/- The walk of the statement PrimBox. -/
import Derived.Test.YtdmfmdekcojjbaaGreatAwake13
import Derived.Test.YtdmfmdekcojjbaaGreatRef13
import Derived.Test.YtdmfmdekcojjbaaGreatBox10
import Derived.Deep.DeepCutAuto
namespace Go.Proofs.YtdmfmdekcojjbaaGreat
open Go.RowKit Go.Proofs.Sky
set_option linter.unusedVariables false

set_option maxRecDepth 100000 in
set_option maxHeartbeats 8000000 in
theorem pb_r (k a1 a2 a3 b1 b2 b3 c1 c2 c3 r m o1 o2 o3 d1 d2 d3 fr : Int) (w : World) 
    (KR : Hid (∀ w, Calls Tryz.prog 4 #[.agg #[.int .i64 k, .int .i64 a1, .int .i64 a2, .int .i64 a3, .int .i64 b1, .int .i64 b2, .int .i64 b3, .int .i64 c1, .int .i64 c2, .int .i64 c3, .int .i64 r, .int .i64 m]] w fun en w' => en = .returned (.bool false) ∧ Below w.heap.size w w')) :
    Calls Tryz.prog 3 #[.agg #[.int .i64 k, .int .i64 a1, .int .i64 a2, .int .i64 a3, .int .i64 b1, .int .i64 b2, .int .i64 b3, .int .i64 c1, .int .i64 c2, .int .i64 c3, .int .i64 r, .int .i64 m], .agg #[.int .i64 o1, .int .i64 o2, .int .i64 o3, .int .i64 d1, .int .i64 d2, .int .i64 d3, .int .i64 fr]] w fun en w' => en = .returned (.bool true) ∧ Below w.heap.size w w' := by
  have HA := Lib.hid (fun w => awake13 w)
  go_enter Tryz.func3, Tryz.ntmps3
  go_upto_region 1 with (fail)
  obtain ⟨W1, hW1⟩ : ∃ W, W = (w.alloc (.cells #[.int .i64 k, .int .i64 a1, .int .i64 a2, .int .i64 a3, .int .i64 b1, .int .i64 b2, .int .i64 b3, .int .i64 c1, .int .i64 c2, .int .i64 c3, .int .i64 r, .int .i64 m] 25)).alloc (.cells #[.int .i64 o1, .int .i64 o2, .int .i64 o3, .int .i64 d1, .int .i64 d2, .int .i64 d3, .int .i64 fr] 27) := ⟨_, rfl⟩
  obtain ⟨k_p, k_y, B1⟩ := st2 hW1
  rw [← hW1]
  clear hW1
  have l_y : w.heap.size < w.heap.size + 1 := by omega
  generalize w.heap.size + 1 = g_y at *
  obtain ⟨c_p_0, c_p_1, c_p_2, c_p_3, c_p_4, c_p_5, c_p_6, c_p_7, c_p_8, c_p_9, c_p_10, c_p_11⟩ := bwc12 (k_p)
  obtain ⟨c_y_0, c_y_1, c_y_2, c_y_3, c_y_4, c_y_5, c_y_6⟩ := bwc7 (k_y)
  obtain ⟨f_y_0, f_y_1, f_y_2, f_y_3, f_y_4, f_y_5, f_y_6⟩ := bwf7 (k_y)
  obtain ⟨p1, hp1⟩ : ∃ p : BW W1, p.w = W1 := ⟨BW.start W1, rfl⟩
  rw [← hp1]
  clear hp1
  go_wp2_with (first
    | (go_at_call 4; (first | (with_reducible refine (bw_call KR.out _).mono ?_)); rintro e w' ⟨rfl, q, rfl⟩)
    | (go_at_call 7; (first | (with_reducible refine (bw_call HA.out _).mono ?_)); rintro e w' ⟨rfl, q, rfl⟩))
  go_ret
  exact ⟨rfl, bw_below B1 _⟩

set_option maxRecDepth 100000 in
set_option maxHeartbeats 8000000 in
theorem pb_p (k a1 a2 a3 b1 b2 b3 c1 c2 c3 r m o1 o2 o3 d1 d2 d3 fr : Int) (w : World) 
    (KR : Hid (∀ w, Calls Tryz.prog 4 #[.agg #[.int .i64 k, .int .i64 a1, .int .i64 a2, .int .i64 a3, .int .i64 b1, .int .i64 b2, .int .i64 b3, .int .i64 c1, .int .i64 c2, .int .i64 c3, .int .i64 r, .int .i64 m]] w fun en w' => en = .returned (.bool true) ∧ Below w.heap.size w w'))
    (KP : Hid (∀ w, Calls Tryz.prog 5 #[.agg #[.int .i64 o1, .int .i64 o2, .int .i64 o3]] w fun en w' => en = .returned (.bool false) ∧ Below w.heap.size w w')) :
    Calls Tryz.prog 3 #[.agg #[.int .i64 k, .int .i64 a1, .int .i64 a2, .int .i64 a3, .int .i64 b1, .int .i64 b2, .int .i64 b3, .int .i64 c1, .int .i64 c2, .int .i64 c3, .int .i64 r, .int .i64 m], .agg #[.int .i64 o1, .int .i64 o2, .int .i64 o3, .int .i64 d1, .int .i64 d2, .int .i64 d3, .int .i64 fr]] w fun en w' => en = .returned (.bool true) ∧ Below w.heap.size w w' := by
  have HA := Lib.hid (fun w => awake13 w)
  go_enter Tryz.func3, Tryz.ntmps3
  go_upto_region 1 with (fail)
  obtain ⟨W1, hW1⟩ : ∃ W, W = (w.alloc (.cells #[.int .i64 k, .int .i64 a1, .int .i64 a2, .int .i64 a3, .int .i64 b1, .int .i64 b2, .int .i64 b3, .int .i64 c1, .int .i64 c2, .int .i64 c3, .int .i64 r, .int .i64 m] 25)).alloc (.cells #[.int .i64 o1, .int .i64 o2, .int .i64 o3, .int .i64 d1, .int .i64 d2, .int .i64 d3, .int .i64 fr] 27) := ⟨_, rfl⟩
  obtain ⟨k_p, k_y, B1⟩ := st2 hW1
  rw [← hW1]
  clear hW1
  have l_y : w.heap.size < w.heap.size + 1 := by omega
  generalize w.heap.size + 1 = g_y at *
  obtain ⟨c_p_0, c_p_1, c_p_2, c_p_3, c_p_4, c_p_5, c_p_6, c_p_7, c_p_8, c_p_9, c_p_10, c_p_11⟩ := bwc12 (k_p)
  obtain ⟨c_y_0, c_y_1, c_y_2, c_y_3, c_y_4, c_y_5, c_y_6⟩ := bwc7 (k_y)
  obtain ⟨f_y_0, f_y_1, f_y_2, f_y_3, f_y_4, f_y_5, f_y_6⟩ := bwf7 (k_y)
  obtain ⟨p1, hp1⟩ : ∃ p : BW W1, p.w = W1 := ⟨BW.start W1, rfl⟩
  rw [← hp1]
  clear hp1
  go_wp2_with (first
    | (go_at_call 4; (first | (with_reducible refine (bw_call KR.out _).mono ?_)); rintro e w' ⟨rfl, q, rfl⟩)
    | (go_at_call 7; (first | (with_reducible refine (bw_call HA.out _).mono ?_)); rintro e w' ⟨rfl, q, rfl⟩)
    | (go_at_call 5; (first | (with_reducible refine (bw_call KP.out _).mono ?_)); rintro e w' ⟨rfl, q, rfl⟩))
  go_ret
  exact ⟨rfl, bw_below B1 _⟩

set_option maxRecDepth 100000 in
set_option maxHeartbeats 8000000 in
theorem pb_n (k a1 a2 a3 b1 b2 b3 c1 c2 c3 r m o1 o2 o3 d1 d2 d3 fr : Int) (w : World) 
    (KR : Hid (∀ w, Calls Tryz.prog 4 #[.agg #[.int .i64 k, .int .i64 a1, .int .i64 a2, .int .i64 a3, .int .i64 b1, .int .i64 b2, .int .i64 b3, .int .i64 c1, .int .i64 c2, .int .i64 c3, .int .i64 r, .int .i64 m]] w fun en w' => en = .returned (.bool true) ∧ Below w.heap.size w w'))
    (KP : Hid (∀ w, Calls Tryz.prog 5 #[.agg #[.int .i64 o1, .int .i64 o2, .int .i64 o3]] w fun en w' => en = .returned (.bool true) ∧ Below w.heap.size w w'))
    (KN : Hid (∀ w, Calls Tryz.prog 6 #[.agg #[.int .i64 d1, .int .i64 d2, .int .i64 d3]] w fun en w' => en = .returned (.bool false) ∧ Below w.heap.size w w')) :
    Calls Tryz.prog 3 #[.agg #[.int .i64 k, .int .i64 a1, .int .i64 a2, .int .i64 a3, .int .i64 b1, .int .i64 b2, .int .i64 b3, .int .i64 c1, .int .i64 c2, .int .i64 c3, .int .i64 r, .int .i64 m], .agg #[.int .i64 o1, .int .i64 o2, .int .i64 o3, .int .i64 d1, .int .i64 d2, .int .i64 d3, .int .i64 fr]] w fun en w' => en = .returned (.bool true) ∧ Below w.heap.size w w' := by
  have HA := Lib.hid (fun w => awake13 w)
  go_enter Tryz.func3, Tryz.ntmps3
  go_upto_region 1 with (fail)
  obtain ⟨W1, hW1⟩ : ∃ W, W = (w.alloc (.cells #[.int .i64 k, .int .i64 a1, .int .i64 a2, .int .i64 a3, .int .i64 b1, .int .i64 b2, .int .i64 b3, .int .i64 c1, .int .i64 c2, .int .i64 c3, .int .i64 r, .int .i64 m] 25)).alloc (.cells #[.int .i64 o1, .int .i64 o2, .int .i64 o3, .int .i64 d1, .int .i64 d2, .int .i64 d3, .int .i64 fr] 27) := ⟨_, rfl⟩
  obtain ⟨k_p, k_y, B1⟩ := st2 hW1
  rw [← hW1]
  clear hW1
  have l_y : w.heap.size < w.heap.size + 1 := by omega
  generalize w.heap.size + 1 = g_y at *
  obtain ⟨c_p_0, c_p_1, c_p_2, c_p_3, c_p_4, c_p_5, c_p_6, c_p_7, c_p_8, c_p_9, c_p_10, c_p_11⟩ := bwc12 (k_p)
  obtain ⟨c_y_0, c_y_1, c_y_2, c_y_3, c_y_4, c_y_5, c_y_6⟩ := bwc7 (k_y)
  obtain ⟨f_y_0, f_y_1, f_y_2, f_y_3, f_y_4, f_y_5, f_y_6⟩ := bwf7 (k_y)
  obtain ⟨p1, hp1⟩ : ∃ p : BW W1, p.w = W1 := ⟨BW.start W1, rfl⟩
  rw [← hp1]
  clear hp1
  go_wp2_with (first
    | (go_at_call 4; (first | (with_reducible refine (bw_call KR.out _).mono ?_)); rintro e w' ⟨rfl, q, rfl⟩)
    | (go_at_call 7; (first | (with_reducible refine (bw_call HA.out _).mono ?_)); rintro e w' ⟨rfl, q, rfl⟩)
    | (go_at_call 5; (first | (with_reducible refine (bw_call KP.out _).mono ?_)); rintro e w' ⟨rfl, q, rfl⟩)
    | (go_at_call 6; (first | (with_reducible refine (bw_call KN.out _).mono ?_)); rintro e w' ⟨rfl, q, rfl⟩))
  go_ret
  exact ⟨rfl, bw_below B1 _⟩

set_option maxRecDepth 100000 in
set_option maxHeartbeats 8000000 in
theorem pb_m00 (k a1 a2 a3 b1 b2 b3 c1 c2 c3 r m o1 o2 o3 d1 d2 d3 fr hn hd l1 l2 l3 h1 h2 h3 n1 n2 n3 L q1 q2 q3 : Int) (w : World) 
    (KR : Hid (∀ w, Calls Tryz.prog 4 #[.agg #[.int .i64 k, .int .i64 a1, .int .i64 a2, .int .i64 a3, .int .i64 b1, .int .i64 b2, .int .i64 b3, .int .i64 c1, .int .i64 c2, .int .i64 c3, .int .i64 r, .int .i64 m]] w fun en w' => en = .returned (.bool true) ∧ Below w.heap.size w w'))
    (KP : Hid (∀ w, Calls Tryz.prog 5 #[.agg #[.int .i64 o1, .int .i64 o2, .int .i64 o3]] w fun en w' => en = .returned (.bool true) ∧ Below w.heap.size w w'))
    (KN : Hid (∀ w, Calls Tryz.prog 6 #[.agg #[.int .i64 d1, .int .i64 d2, .int .i64 d3]] w fun en w' => en = .returned (.bool true) ∧ Below w.heap.size w w'))
    (KH : Hid (∀ w, Calls Tryz.prog 8 #[.agg #[.int .i64 k, .int .i64 a1, .int .i64 a2, .int .i64 a3, .int .i64 b1, .int .i64 b2, .int .i64 b3, .int .i64 c1, .int .i64 c2, .int .i64 c3, .int .i64 r, .int .i64 m], .int .i64 0, .agg #[.int .i64 o1, .int .i64 o2, .int .i64 o3, .int .i64 d1, .int .i64 d2, .int .i64 d3, .int .i64 (-1)]] w fun en w' => en = .returned (.tuple #[.agg #[.int .i64 hn, .int .i64 hd], .bool false]) ∧ Below w.heap.size w w'))
    (KB : Hid (∀ w, Calls Tryz.prog 9 #[.agg #[.int .i64 k, .int .i64 a1, .int .i64 a2, .int .i64 a3, .int .i64 b1, .int .i64 b2, .int .i64 b3, .int .i64 c1, .int .i64 c2, .int .i64 c3, .int .i64 r, .int .i64 m]] w fun en w' => en = .returned (.agg #[.int .i64 l1, .int .i64 l2, .int .i64 l3, .int .i64 h1, .int .i64 h2, .int .i64 h3]) ∧ Below w.heap.size w w'))
    (KBR : Hid (∀ w, Calls Tryz.prog 10 #[.agg #[.int .i64 l1, .int .i64 l2, .int .i64 l3, .int .i64 h1, .int .i64 h2, .int .i64 h3]] w fun en w' => en = .returned (.bool true) ∧ Below w.heap.size w w'))
    (KNo : Hid (∀ w, Calls Tryz.prog 12 #[.agg #[.int .i64 k, .int .i64 a1, .int .i64 a2, .int .i64 a3, .int .i64 b1, .int .i64 b2, .int .i64 b3, .int .i64 c1, .int .i64 c2, .int .i64 c3, .int .i64 r, .int .i64 m], .agg #[.int .i64 o1, .int .i64 o2, .int .i64 o3]] w fun en w' => en = .returned (.agg #[.int .i64 n1, .int .i64 n2, .int .i64 n3]) ∧ Below w.heap.size w w'))
    (KL : Hid (∀ w, Calls Tryz.prog 13 #[.agg #[.int .i64 n1, .int .i64 n2, .int .i64 n3]] w fun en w' => en = .returned (.int .i64 L) ∧ Below w.heap.size w w'))
    (t3 : decide (16382 ≤ L) = true) (t4 : decide (L ≤ 16384) = true)
    (nk : ¬ k = 2) (nk2 : (k == 2) = false)
    (KQ : Hid (∀ w, Calls Tryz.prog 15 #[.agg #[.int .i64 k, .int .i64 a1, .int .i64 a2, .int .i64 a3, .int .i64 b1, .int .i64 b2, .int .i64 b3, .int .i64 c1, .int .i64 c2, .int .i64 c3, .int .i64 r, .int .i64 m], .int .i64 20000, .int .i64 30000] w fun en w' => en = .returned (.agg #[.int .i64 q1, .int .i64 q2, .int .i64 q3]) ∧ Below w.heap.size w w'))
    (KHs : Hid (∀ w, Calls Tryz.prog 14 #[.agg #[.int .i64 l1, .int .i64 l2, .int .i64 l3, .int .i64 h1, .int .i64 h2, .int .i64 h3], .agg #[.int .i64 q1, .int .i64 q2, .int .i64 q3]] w fun en w' => en = .returned (.bool true) ∧ Below w.heap.size w w')) :
    Calls Tryz.prog 3 #[.agg #[.int .i64 k, .int .i64 a1, .int .i64 a2, .int .i64 a3, .int .i64 b1, .int .i64 b2, .int .i64 b3, .int .i64 c1, .int .i64 c2, .int .i64 c3, .int .i64 r, .int .i64 m], .agg #[.int .i64 o1, .int .i64 o2, .int .i64 o3, .int .i64 d1, .int .i64 d2, .int .i64 d3, .int .i64 fr]] w fun en w' => en = .returned (.bool true) ∧ Below w.heap.size w w' := by
  have HA := Lib.hid (fun w => awake13 w)
  go_enter Tryz.func3, Tryz.ntmps3
  go_upto_region 1 with (fail)
  obtain ⟨W1, hW1⟩ : ∃ W, W = (w.alloc (.cells #[.int .i64 k, .int .i64 a1, .int .i64 a2, .int .i64 a3, .int .i64 b1, .int .i64 b2, .int .i64 b3, .int .i64 c1, .int .i64 c2, .int .i64 c3, .int .i64 r, .int .i64 m] 25)).alloc (.cells #[.int .i64 o1, .int .i64 o2, .int .i64 o3, .int .i64 d1, .int .i64 d2, .int .i64 d3, .int .i64 fr] 27) := ⟨_, rfl⟩
  obtain ⟨k_p, k_y, B1⟩ := st2 hW1
  rw [← hW1]
  clear hW1
  have l_y : w.heap.size < w.heap.size + 1 := by omega
  generalize w.heap.size + 1 = g_y at *
  obtain ⟨c_p_0, c_p_1, c_p_2, c_p_3, c_p_4, c_p_5, c_p_6, c_p_7, c_p_8, c_p_9, c_p_10, c_p_11⟩ := bwc12 (k_p)
  obtain ⟨c_y_0, c_y_1, c_y_2, c_y_3, c_y_4, c_y_5, c_y_6⟩ := bwc7 (k_y)
  obtain ⟨f_y_0, f_y_1, f_y_2, f_y_3, f_y_4, f_y_5, f_y_6⟩ := bwf7 (k_y)
  obtain ⟨p1, hp1⟩ : ∃ p : BW W1, p.w = W1 := ⟨BW.start W1, rfl⟩
  rw [← hp1]
  clear hp1
  go_upto_region 4 with (first
    | (go_at_call 4; (first | (with_reducible refine (bw_call KR.out _).mono ?_)); rintro e w' ⟨rfl, q, rfl⟩)
    | (go_at_call 7; (first | (with_reducible refine (bw_call HA.out _).mono ?_)); rintro e w' ⟨rfl, q, rfl⟩)
    | (go_at_call 5; (first | (with_reducible refine (bw_call KP.out _).mono ?_)); rintro e w' ⟨rfl, q, rfl⟩)
    | (go_at_call 6; (first | (with_reducible refine (bw_call KN.out _).mono ?_)); rintro e w' ⟨rfl, q, rfl⟩))
  obtain ⟨W2, hW2⟩ : ∃ W, W = q.w.setCell ⟨g_y, 6, none⟩ (.int .i64 (-1)) := ⟨_, rfl⟩
  have B2 : Below w.heap.size w W2 := by rw [hW2]; exact ((bw_below B1 q).setCell (p := ⟨g_y, 6, none⟩) (by show w.heap.size ≤ g_y; omega) _)
  have k_p : Bk W2 (w.heap.size) 25 #[.int .i64 k, .int .i64 a1, .int .i64 a2, .int .i64 a3, .int .i64 b1, .int .i64 b2, .int .i64 b3, .int .i64 c1, .int .i64 c2, .int .i64 c3, .int .i64 r, .int .i64 m] := by rw [hW2]; exact ((k_p.below q.h).other (a := ⟨g_y, 6, none⟩) (by show ¬ w.heap.size = g_y; omega) (.int .i64 (-1)))
  have k_y : Bk W2 (g_y) 27 #[.int .i64 o1, .int .i64 o2, .int .i64 o3, .int .i64 d1, .int .i64 d2, .int .i64 d3, .int .i64 (-1)] := by rw [hW2]; exact ((k_y.below q.h).set 6 (.int .i64 (-1))).cast (by simp)
  rw [← hW2]
  clear hW2
  clear B1
  clear c_p_0 c_p_1 c_p_2 c_p_3 c_p_4 c_p_5 c_p_6 c_p_7 c_p_8 c_p_9 c_p_10 c_p_11 c_y_0 c_y_1 c_y_2 c_y_3 c_y_4 c_y_5 c_y_6 f_y_0 f_y_1 f_y_2 f_y_3 f_y_4 f_y_5 f_y_6
  obtain ⟨c_p_0, c_p_1, c_p_2, c_p_3, c_p_4, c_p_5, c_p_6, c_p_7, c_p_8, c_p_9, c_p_10, c_p_11⟩ := bwc12 (k_p)
  obtain ⟨c_y_0, c_y_1, c_y_2, c_y_3, c_y_4, c_y_5, c_y_6⟩ := bwc7 (k_y)
  obtain ⟨p2, hp2⟩ : ∃ p : BW W2, p.w = W2 := ⟨BW.start W2, rfl⟩
  rw [← hp2]
  clear hp2
  go_upto_region 5 with (first
    | (go_at_call 8; (first | (with_reducible refine (bw_call KH.out _).mono ?_)); rintro e w' ⟨rfl, q, rfl⟩))
  obtain ⟨W3, hW3⟩ : ∃ W, W = q.w.alloc (.cells #[.int .i64 hn, .int .i64 hd] 32) := ⟨_, rfl⟩
  have B3 : Below w.heap.size w W3 := by rw [hW3]; exact (bw_below B2 q).alloc (bw_below B2 q).size _
  have l_t : g_y < q.w.heap.size := (k_y.below q.h).lt
  have o_t : w.heap.size ≤ q.w.heap.size := (bw_below B2 q).size
  have k_p := bka hW3 (k_p.below q.h)
  have k_y := bka hW3 (k_y.below q.h)
  have k_t := bkn hW3
  rw [← hW3]
  clear hW3
  clear B2
  clear c_p_0 c_p_1 c_p_2 c_p_3 c_p_4 c_p_5 c_p_6 c_p_7 c_p_8 c_p_9 c_p_10 c_p_11 c_y_0 c_y_1 c_y_2 c_y_3 c_y_4 c_y_5 c_y_6
  generalize q.w.heap.size = g_t at *
  obtain ⟨c_p_0, c_p_1, c_p_2, c_p_3, c_p_4, c_p_5, c_p_6, c_p_7, c_p_8, c_p_9, c_p_10, c_p_11⟩ := bwc12 (k_p)
  obtain ⟨c_y_0, c_y_1, c_y_2, c_y_3, c_y_4, c_y_5, c_y_6⟩ := bwc7 (k_y)
  obtain ⟨c_t_0, c_t_1⟩ := bwc2 (k_t)
  obtain ⟨p3, hp3⟩ : ∃ p : BW W3, p.w = W3 := ⟨BW.start W3, rfl⟩
  rw [← hp3]
  clear hp3
  go_upto_region 6 with (first
    | (go_at_call 9; (first | (with_reducible refine (bw_call KB.out _).mono ?_)); rintro e w' ⟨rfl, q, rfl⟩))
  obtain ⟨W4, hW4⟩ : ∃ W, W = q.w.alloc (.cells #[.int .i64 l1, .int .i64 l2, .int .i64 l3, .int .i64 h1, .int .i64 h2, .int .i64 h3] 36) := ⟨_, rfl⟩
  have B4 : Below w.heap.size w W4 := by rw [hW4]; exact (bw_below B3 q).alloc (bw_below B3 q).size _
  have l_b : g_t < q.w.heap.size := (k_t.below q.h).lt
  have o_b : w.heap.size ≤ q.w.heap.size := (bw_below B3 q).size
  have k_p := bka hW4 (k_p.below q.h)
  have k_y := bka hW4 (k_y.below q.h)
  have k_t := bka hW4 (k_t.below q.h)
  have k_b := bkn hW4
  rw [← hW4]
  clear hW4
  clear B3
  clear c_p_0 c_p_1 c_p_2 c_p_3 c_p_4 c_p_5 c_p_6 c_p_7 c_p_8 c_p_9 c_p_10 c_p_11 c_y_0 c_y_1 c_y_2 c_y_3 c_y_4 c_y_5 c_y_6 c_t_0 c_t_1
  generalize q.w.heap.size = g_b at *
  obtain ⟨c_p_0, c_p_1, c_p_2, c_p_3, c_p_4, c_p_5, c_p_6, c_p_7, c_p_8, c_p_9, c_p_10, c_p_11⟩ := bwc12 (k_p)
  obtain ⟨c_y_0, c_y_1, c_y_2, c_y_3, c_y_4, c_y_5, c_y_6⟩ := bwc7 (k_y)
  obtain ⟨c_t_0, c_t_1⟩ := bwc2 (k_t)
  obtain ⟨c_b_0, c_b_1, c_b_2, c_b_3, c_b_4, c_b_5⟩ := bwc6 (k_b)
  obtain ⟨p4, hp4⟩ : ∃ p : BW W4, p.w = W4 := ⟨BW.start W4, rfl⟩
  rw [← hp4]
  clear hp4
  go_upto_region 9 with (first
    | (go_at_call 10; (first | (with_reducible refine (bw_call KBR.out _).mono ?_)); rintro e w' ⟨rfl, q, rfl⟩)
    | (go_at_call 12; (first | (with_reducible refine (bw_call KNo.out _).mono ?_)); rintro e w' ⟨rfl, q, rfl⟩))
  obtain ⟨W5, hW5⟩ : ∃ W, W = q.w.alloc (.cells #[.int .i64 n1, .int .i64 n2, .int .i64 n3] 23) := ⟨_, rfl⟩
  have B5 : Below w.heap.size w W5 := by rw [hW5]; exact (bw_below B4 q).alloc (bw_below B4 q).size _
  have l_n : g_b < q.w.heap.size := (k_b.below q.h).lt
  have o_n : w.heap.size ≤ q.w.heap.size := (bw_below B4 q).size
  have k_p := bka hW5 (k_p.below q.h)
  have k_y := bka hW5 (k_y.below q.h)
  have k_t := bka hW5 (k_t.below q.h)
  have k_b := bka hW5 (k_b.below q.h)
  have k_n := bkn hW5
  rw [← hW5]
  clear hW5
  clear B4
  clear c_p_0 c_p_1 c_p_2 c_p_3 c_p_4 c_p_5 c_p_6 c_p_7 c_p_8 c_p_9 c_p_10 c_p_11 c_y_0 c_y_1 c_y_2 c_y_3 c_y_4 c_y_5 c_y_6 c_t_0 c_t_1 c_b_0 c_b_1 c_b_2 c_b_3 c_b_4 c_b_5
  generalize q.w.heap.size = g_n at *
  obtain ⟨c_p_0, c_p_1, c_p_2, c_p_3, c_p_4, c_p_5, c_p_6, c_p_7, c_p_8, c_p_9, c_p_10, c_p_11⟩ := bwc12 (k_p)
  obtain ⟨c_y_0, c_y_1, c_y_2, c_y_3, c_y_4, c_y_5, c_y_6⟩ := bwc7 (k_y)
  obtain ⟨c_t_0, c_t_1⟩ := bwc2 (k_t)
  obtain ⟨c_b_0, c_b_1, c_b_2, c_b_3, c_b_4, c_b_5⟩ := bwc6 (k_b)
  obtain ⟨c_n_0, c_n_1, c_n_2⟩ := bwc3 (k_n)
  obtain ⟨p5, hp5⟩ : ∃ p : BW W5, p.w = W5 := ⟨BW.start W5, rfl⟩
  rw [← hp5]
  clear hp5
  refine wp_region_bw (by kernel_rfl) (by kernel_rfl) ?_
  repeat (go_big_quiet_step (first
    | (go_at_call 13; (first | (with_reducible exact bw_call KL.out _)))
    | (go_at_call 7; (first | (with_reducible exact bw_call HA.out _)))
    | (go_at_call 15; (first | (with_reducible exact bw_call KQ.out _)))
    | (go_at_call 14; (first | (with_reducible exact bw_call KHs.out _)))))
  refine wpQuiet_nil ?_
  intro _ hw'
  obtain ⟨q, rfl⟩ := hw'
  go_wp2
  go_ret
  exact ⟨rfl, bw_below B5 _⟩

set_option maxRecDepth 100000 in
set_option maxHeartbeats 8000000 in
theorem pb_m01 (k a1 a2 a3 b1 b2 b3 c1 c2 c3 r m o1 o2 o3 d1 d2 d3 fr hn hd l1 l2 l3 h1 h2 h3 n1 n2 n3 L q1 q2 q3 : Int) (w : World) 
    (KR : Hid (∀ w, Calls Tryz.prog 4 #[.agg #[.int .i64 k, .int .i64 a1, .int .i64 a2, .int .i64 a3, .int .i64 b1, .int .i64 b2, .int .i64 b3, .int .i64 c1, .int .i64 c2, .int .i64 c3, .int .i64 r, .int .i64 m]] w fun en w' => en = .returned (.bool true) ∧ Below w.heap.size w w'))
    (KP : Hid (∀ w, Calls Tryz.prog 5 #[.agg #[.int .i64 o1, .int .i64 o2, .int .i64 o3]] w fun en w' => en = .returned (.bool true) ∧ Below w.heap.size w w'))
    (KN : Hid (∀ w, Calls Tryz.prog 6 #[.agg #[.int .i64 d1, .int .i64 d2, .int .i64 d3]] w fun en w' => en = .returned (.bool true) ∧ Below w.heap.size w w'))
    (KH : Hid (∀ w, Calls Tryz.prog 8 #[.agg #[.int .i64 k, .int .i64 a1, .int .i64 a2, .int .i64 a3, .int .i64 b1, .int .i64 b2, .int .i64 b3, .int .i64 c1, .int .i64 c2, .int .i64 c3, .int .i64 r, .int .i64 m], .int .i64 0, .agg #[.int .i64 o1, .int .i64 o2, .int .i64 o3, .int .i64 d1, .int .i64 d2, .int .i64 d3, .int .i64 (-1)]] w fun en w' => en = .returned (.tuple #[.agg #[.int .i64 hn, .int .i64 hd], .bool true]) ∧ Below w.heap.size w w'))
    (KB : Hid (∀ w, Calls Tryz.prog 9 #[.agg #[.int .i64 k, .int .i64 a1, .int .i64 a2, .int .i64 a3, .int .i64 b1, .int .i64 b2, .int .i64 b3, .int .i64 c1, .int .i64 c2, .int .i64 c3, .int .i64 r, .int .i64 m]] w fun en w' => en = .returned (.agg #[.int .i64 l1, .int .i64 l2, .int .i64 l3, .int .i64 h1, .int .i64 h2, .int .i64 h3]) ∧ Below w.heap.size w w'))
    (KBR : Hid (∀ w, Calls Tryz.prog 10 #[.agg #[.int .i64 l1, .int .i64 l2, .int .i64 l3, .int .i64 h1, .int .i64 h2, .int .i64 h3]] w fun en w' => en = .returned (.bool true) ∧ Below w.heap.size w w'))
    (t1 : decide (hn < 1) = false) (t2 : decide (hd < 1) = false)
    (KBH : Hid (∀ w, Calls Tryz.prog 11 #[.agg #[.int .i64 l1, .int .i64 l2, .int .i64 l3, .int .i64 h1, .int .i64 h2, .int .i64 h3], .agg #[.int .i64 o1, .int .i64 o2, .int .i64 o3, .int .i64 d1, .int .i64 d2, .int .i64 d3, .int .i64 (-1)], .agg #[.int .i64 hn, .int .i64 hd]] w fun en w' => en = .returned (.bool true) ∧ Below w.heap.size w w'))
    (KNo : Hid (∀ w, Calls Tryz.prog 12 #[.agg #[.int .i64 k, .int .i64 a1, .int .i64 a2, .int .i64 a3, .int .i64 b1, .int .i64 b2, .int .i64 b3, .int .i64 c1, .int .i64 c2, .int .i64 c3, .int .i64 r, .int .i64 m], .agg #[.int .i64 o1, .int .i64 o2, .int .i64 o3]] w fun en w' => en = .returned (.agg #[.int .i64 n1, .int .i64 n2, .int .i64 n3]) ∧ Below w.heap.size w w'))
    (KL : Hid (∀ w, Calls Tryz.prog 13 #[.agg #[.int .i64 n1, .int .i64 n2, .int .i64 n3]] w fun en w' => en = .returned (.int .i64 L) ∧ Below w.heap.size w w'))
    (t3 : decide (16382 ≤ L) = true) (t4 : decide (L ≤ 16384) = true)
    (nk : ¬ k = 2) (nk2 : (k == 2) = false)
    (KQ : Hid (∀ w, Calls Tryz.prog 15 #[.agg #[.int .i64 k, .int .i64 a1, .int .i64 a2, .int .i64 a3, .int .i64 b1, .int .i64 b2, .int .i64 b3, .int .i64 c1, .int .i64 c2, .int .i64 c3, .int .i64 r, .int .i64 m], .int .i64 20000, .int .i64 30000] w fun en w' => en = .returned (.agg #[.int .i64 q1, .int .i64 q2, .int .i64 q3]) ∧ Below w.heap.size w w'))
    (KHs : Hid (∀ w, Calls Tryz.prog 14 #[.agg #[.int .i64 l1, .int .i64 l2, .int .i64 l3, .int .i64 h1, .int .i64 h2, .int .i64 h3], .agg #[.int .i64 q1, .int .i64 q2, .int .i64 q3]] w fun en w' => en = .returned (.bool true) ∧ Below w.heap.size w w')) :
    Calls Tryz.prog 3 #[.agg #[.int .i64 k, .int .i64 a1, .int .i64 a2, .int .i64 a3, .int .i64 b1, .int .i64 b2, .int .i64 b3, .int .i64 c1, .int .i64 c2, .int .i64 c3, .int .i64 r, .int .i64 m], .agg #[.int .i64 o1, .int .i64 o2, .int .i64 o3, .int .i64 d1, .int .i64 d2, .int .i64 d3, .int .i64 fr]] w fun en w' => en = .returned (.bool true) ∧ Below w.heap.size w w' := by
  have HA := Lib.hid (fun w => awake13 w)
  go_enter Tryz.func3, Tryz.ntmps3
  go_upto_region 1 with (fail)
  obtain ⟨W1, hW1⟩ : ∃ W, W = (w.alloc (.cells #[.int .i64 k, .int .i64 a1, .int .i64 a2, .int .i64 a3, .int .i64 b1, .int .i64 b2, .int .i64 b3, .int .i64 c1, .int .i64 c2, .int .i64 c3, .int .i64 r, .int .i64 m] 25)).alloc (.cells #[.int .i64 o1, .int .i64 o2, .int .i64 o3, .int .i64 d1, .int .i64 d2, .int .i64 d3, .int .i64 fr] 27) := ⟨_, rfl⟩
  obtain ⟨k_p, k_y, B1⟩ := st2 hW1
  rw [← hW1]
  clear hW1
  have l_y : w.heap.size < w.heap.size + 1 := by omega
  generalize w.heap.size + 1 = g_y at *
  obtain ⟨c_p_0, c_p_1, c_p_2, c_p_3, c_p_4, c_p_5, c_p_6, c_p_7, c_p_8, c_p_9, c_p_10, c_p_11⟩ := bwc12 (k_p)
  obtain ⟨c_y_0, c_y_1, c_y_2, c_y_3, c_y_4, c_y_5, c_y_6⟩ := bwc7 (k_y)
  obtain ⟨f_y_0, f_y_1, f_y_2, f_y_3, f_y_4, f_y_5, f_y_6⟩ := bwf7 (k_y)
  obtain ⟨p1, hp1⟩ : ∃ p : BW W1, p.w = W1 := ⟨BW.start W1, rfl⟩
  rw [← hp1]
  clear hp1
  go_upto_region 4 with (first
    | (go_at_call 4; (first | (with_reducible refine (bw_call KR.out _).mono ?_)); rintro e w' ⟨rfl, q, rfl⟩)
    | (go_at_call 7; (first | (with_reducible refine (bw_call HA.out _).mono ?_)); rintro e w' ⟨rfl, q, rfl⟩)
    | (go_at_call 5; (first | (with_reducible refine (bw_call KP.out _).mono ?_)); rintro e w' ⟨rfl, q, rfl⟩)
    | (go_at_call 6; (first | (with_reducible refine (bw_call KN.out _).mono ?_)); rintro e w' ⟨rfl, q, rfl⟩))
  obtain ⟨W2, hW2⟩ : ∃ W, W = q.w.setCell ⟨g_y, 6, none⟩ (.int .i64 (-1)) := ⟨_, rfl⟩
  have B2 : Below w.heap.size w W2 := by rw [hW2]; exact ((bw_below B1 q).setCell (p := ⟨g_y, 6, none⟩) (by show w.heap.size ≤ g_y; omega) _)
  have k_p : Bk W2 (w.heap.size) 25 #[.int .i64 k, .int .i64 a1, .int .i64 a2, .int .i64 a3, .int .i64 b1, .int .i64 b2, .int .i64 b3, .int .i64 c1, .int .i64 c2, .int .i64 c3, .int .i64 r, .int .i64 m] := by rw [hW2]; exact ((k_p.below q.h).other (a := ⟨g_y, 6, none⟩) (by show ¬ w.heap.size = g_y; omega) (.int .i64 (-1)))
  have k_y : Bk W2 (g_y) 27 #[.int .i64 o1, .int .i64 o2, .int .i64 o3, .int .i64 d1, .int .i64 d2, .int .i64 d3, .int .i64 (-1)] := by rw [hW2]; exact ((k_y.below q.h).set 6 (.int .i64 (-1))).cast (by simp)
  rw [← hW2]
  clear hW2
  clear B1
  clear c_p_0 c_p_1 c_p_2 c_p_3 c_p_4 c_p_5 c_p_6 c_p_7 c_p_8 c_p_9 c_p_10 c_p_11 c_y_0 c_y_1 c_y_2 c_y_3 c_y_4 c_y_5 c_y_6 f_y_0 f_y_1 f_y_2 f_y_3 f_y_4 f_y_5 f_y_6
  obtain ⟨c_p_0, c_p_1, c_p_2, c_p_3, c_p_4, c_p_5, c_p_6, c_p_7, c_p_8, c_p_9, c_p_10, c_p_11⟩ := bwc12 (k_p)
  obtain ⟨c_y_0, c_y_1, c_y_2, c_y_3, c_y_4, c_y_5, c_y_6⟩ := bwc7 (k_y)
  obtain ⟨p2, hp2⟩ : ∃ p : BW W2, p.w = W2 := ⟨BW.start W2, rfl⟩
  rw [← hp2]
  clear hp2
  go_upto_region 5 with (first
    | (go_at_call 8; (first | (with_reducible refine (bw_call KH.out _).mono ?_)); rintro e w' ⟨rfl, q, rfl⟩))
  obtain ⟨W3, hW3⟩ : ∃ W, W = q.w.alloc (.cells #[.int .i64 hn, .int .i64 hd] 32) := ⟨_, rfl⟩
  have B3 : Below w.heap.size w W3 := by rw [hW3]; exact (bw_below B2 q).alloc (bw_below B2 q).size _
  have l_t : g_y < q.w.heap.size := (k_y.below q.h).lt
  have o_t : w.heap.size ≤ q.w.heap.size := (bw_below B2 q).size
  have k_p := bka hW3 (k_p.below q.h)
  have k_y := bka hW3 (k_y.below q.h)
  have k_t := bkn hW3
  rw [← hW3]
  clear hW3
  clear B2
  clear c_p_0 c_p_1 c_p_2 c_p_3 c_p_4 c_p_5 c_p_6 c_p_7 c_p_8 c_p_9 c_p_10 c_p_11 c_y_0 c_y_1 c_y_2 c_y_3 c_y_4 c_y_5 c_y_6
  generalize q.w.heap.size = g_t at *
  obtain ⟨c_p_0, c_p_1, c_p_2, c_p_3, c_p_4, c_p_5, c_p_6, c_p_7, c_p_8, c_p_9, c_p_10, c_p_11⟩ := bwc12 (k_p)
  obtain ⟨c_y_0, c_y_1, c_y_2, c_y_3, c_y_4, c_y_5, c_y_6⟩ := bwc7 (k_y)
  obtain ⟨c_t_0, c_t_1⟩ := bwc2 (k_t)
  obtain ⟨p3, hp3⟩ : ∃ p : BW W3, p.w = W3 := ⟨BW.start W3, rfl⟩
  rw [← hp3]
  clear hp3
  go_upto_region 6 with (first
    | (go_at_call 9; (first | (with_reducible refine (bw_call KB.out _).mono ?_)); rintro e w' ⟨rfl, q, rfl⟩))
  obtain ⟨W4, hW4⟩ : ∃ W, W = q.w.alloc (.cells #[.int .i64 l1, .int .i64 l2, .int .i64 l3, .int .i64 h1, .int .i64 h2, .int .i64 h3] 36) := ⟨_, rfl⟩
  have B4 : Below w.heap.size w W4 := by rw [hW4]; exact (bw_below B3 q).alloc (bw_below B3 q).size _
  have l_b : g_t < q.w.heap.size := (k_t.below q.h).lt
  have o_b : w.heap.size ≤ q.w.heap.size := (bw_below B3 q).size
  have k_p := bka hW4 (k_p.below q.h)
  have k_y := bka hW4 (k_y.below q.h)
  have k_t := bka hW4 (k_t.below q.h)
  have k_b := bkn hW4
  rw [← hW4]
  clear hW4
  clear B3
  clear c_p_0 c_p_1 c_p_2 c_p_3 c_p_4 c_p_5 c_p_6 c_p_7 c_p_8 c_p_9 c_p_10 c_p_11 c_y_0 c_y_1 c_y_2 c_y_3 c_y_4 c_y_5 c_y_6 c_t_0 c_t_1
  generalize q.w.heap.size = g_b at *
  obtain ⟨c_p_0, c_p_1, c_p_2, c_p_3, c_p_4, c_p_5, c_p_6, c_p_7, c_p_8, c_p_9, c_p_10, c_p_11⟩ := bwc12 (k_p)
  obtain ⟨c_y_0, c_y_1, c_y_2, c_y_3, c_y_4, c_y_5, c_y_6⟩ := bwc7 (k_y)
  obtain ⟨c_t_0, c_t_1⟩ := bwc2 (k_t)
  obtain ⟨c_b_0, c_b_1, c_b_2, c_b_3, c_b_4, c_b_5⟩ := bwc6 (k_b)
  obtain ⟨p4, hp4⟩ : ∃ p : BW W4, p.w = W4 := ⟨BW.start W4, rfl⟩
  rw [← hp4]
  clear hp4
  go_upto_region 9 with (first
    | (go_at_call 10; (first | (with_reducible refine (bw_call KBR.out _).mono ?_)); rintro e w' ⟨rfl, q, rfl⟩)
    | (go_at_call 12; (first | (with_reducible refine (bw_call KNo.out _).mono ?_)); rintro e w' ⟨rfl, q, rfl⟩)
    | (go_at_call 11; (first | (with_reducible refine (bw_call KBH.out _).mono ?_)); rintro e w' ⟨rfl, q, rfl⟩))
  obtain ⟨W5, hW5⟩ : ∃ W, W = q.w.alloc (.cells #[.int .i64 n1, .int .i64 n2, .int .i64 n3] 23) := ⟨_, rfl⟩
  have B5 : Below w.heap.size w W5 := by rw [hW5]; exact (bw_below B4 q).alloc (bw_below B4 q).size _
  have l_n : g_b < q.w.heap.size := (k_b.below q.h).lt
  have o_n : w.heap.size ≤ q.w.heap.size := (bw_below B4 q).size
  have k_p := bka hW5 (k_p.below q.h)
  have k_y := bka hW5 (k_y.below q.h)
  have k_t := bka hW5 (k_t.below q.h)
  have k_b := bka hW5 (k_b.below q.h)
  have k_n := bkn hW5
  rw [← hW5]
  clear hW5
  clear B4
  clear c_p_0 c_p_1 c_p_2 c_p_3 c_p_4 c_p_5 c_p_6 c_p_7 c_p_8 c_p_9 c_p_10 c_p_11 c_y_0 c_y_1 c_y_2 c_y_3 c_y_4 c_y_5 c_y_6 c_t_0 c_t_1 c_b_0 c_b_1 c_b_2 c_b_3 c_b_4 c_b_5
  generalize q.w.heap.size = g_n at *
  obtain ⟨c_p_0, c_p_1, c_p_2, c_p_3, c_p_4, c_p_5, c_p_6, c_p_7, c_p_8, c_p_9, c_p_10, c_p_11⟩ := bwc12 (k_p)
  obtain ⟨c_y_0, c_y_1, c_y_2, c_y_3, c_y_4, c_y_5, c_y_6⟩ := bwc7 (k_y)
  obtain ⟨c_t_0, c_t_1⟩ := bwc2 (k_t)
  obtain ⟨c_b_0, c_b_1, c_b_2, c_b_3, c_b_4, c_b_5⟩ := bwc6 (k_b)
  obtain ⟨c_n_0, c_n_1, c_n_2⟩ := bwc3 (k_n)
  obtain ⟨p5, hp5⟩ : ∃ p : BW W5, p.w = W5 := ⟨BW.start W5, rfl⟩
  rw [← hp5]
  clear hp5
  refine wp_region_bw (by kernel_rfl) (by kernel_rfl) ?_
  repeat (go_big_quiet_step (first
    | (go_at_call 13; (first | (with_reducible exact bw_call KL.out _)))
    | (go_at_call 7; (first | (with_reducible exact bw_call HA.out _)))
    | (go_at_call 15; (first | (with_reducible exact bw_call KQ.out _)))
    | (go_at_call 14; (first | (with_reducible exact bw_call KHs.out _)))))
  refine wpQuiet_nil ?_
  intro _ hw'
  obtain ⟨q, rfl⟩ := hw'
  go_wp2
  go_ret
  exact ⟨rfl, bw_below B5 _⟩

set_option maxRecDepth 100000 in
set_option maxHeartbeats 8000000 in
theorem pb_m10 (a1 a2 a3 b1 b2 b3 c1 c2 c3 r m o1 o2 o3 d1 d2 d3 fr hn hd l1 l2 l3 h1 h2 h3 n1 n2 n3 L : Int) (w : World) 
    (KR : Hid (∀ w, Calls Tryz.prog 4 #[.agg #[.int .i64 2, .int .i64 a1, .int .i64 a2, .int .i64 a3, .int .i64 b1, .int .i64 b2, .int .i64 b3, .int .i64 c1, .int .i64 c2, .int .i64 c3, .int .i64 r, .int .i64 m]] w fun en w' => en = .returned (.bool true) ∧ Below w.heap.size w w'))
    (KP : Hid (∀ w, Calls Tryz.prog 5 #[.agg #[.int .i64 o1, .int .i64 o2, .int .i64 o3]] w fun en w' => en = .returned (.bool true) ∧ Below w.heap.size w w'))
    (KN : Hid (∀ w, Calls Tryz.prog 6 #[.agg #[.int .i64 d1, .int .i64 d2, .int .i64 d3]] w fun en w' => en = .returned (.bool true) ∧ Below w.heap.size w w'))
    (KH : Hid (∀ w, Calls Tryz.prog 8 #[.agg #[.int .i64 2, .int .i64 a1, .int .i64 a2, .int .i64 a3, .int .i64 b1, .int .i64 b2, .int .i64 b3, .int .i64 c1, .int .i64 c2, .int .i64 c3, .int .i64 r, .int .i64 m], .int .i64 0, .agg #[.int .i64 o1, .int .i64 o2, .int .i64 o3, .int .i64 d1, .int .i64 d2, .int .i64 d3, .int .i64 (-1)]] w fun en w' => en = .returned (.tuple #[.agg #[.int .i64 hn, .int .i64 hd], .bool false]) ∧ Below w.heap.size w w'))
    (KB : Hid (∀ w, Calls Tryz.prog 9 #[.agg #[.int .i64 2, .int .i64 a1, .int .i64 a2, .int .i64 a3, .int .i64 b1, .int .i64 b2, .int .i64 b3, .int .i64 c1, .int .i64 c2, .int .i64 c3, .int .i64 r, .int .i64 m]] w fun en w' => en = .returned (.agg #[.int .i64 l1, .int .i64 l2, .int .i64 l3, .int .i64 h1, .int .i64 h2, .int .i64 h3]) ∧ Below w.heap.size w w'))
    (KBR : Hid (∀ w, Calls Tryz.prog 10 #[.agg #[.int .i64 l1, .int .i64 l2, .int .i64 l3, .int .i64 h1, .int .i64 h2, .int .i64 h3]] w fun en w' => en = .returned (.bool true) ∧ Below w.heap.size w w'))
    (KNo : Hid (∀ w, Calls Tryz.prog 12 #[.agg #[.int .i64 2, .int .i64 a1, .int .i64 a2, .int .i64 a3, .int .i64 b1, .int .i64 b2, .int .i64 b3, .int .i64 c1, .int .i64 c2, .int .i64 c3, .int .i64 r, .int .i64 m], .agg #[.int .i64 o1, .int .i64 o2, .int .i64 o3]] w fun en w' => en = .returned (.agg #[.int .i64 n1, .int .i64 n2, .int .i64 n3]) ∧ Below w.heap.size w w'))
    (KL : Hid (∀ w, Calls Tryz.prog 13 #[.agg #[.int .i64 n1, .int .i64 n2, .int .i64 n3]] w fun en w' => en = .returned (.int .i64 L) ∧ Below w.heap.size w w'))
    (t3 : decide (16382 ≤ L) = true) (t4 : decide (L ≤ 16384) = true) :
    Calls Tryz.prog 3 #[.agg #[.int .i64 2, .int .i64 a1, .int .i64 a2, .int .i64 a3, .int .i64 b1, .int .i64 b2, .int .i64 b3, .int .i64 c1, .int .i64 c2, .int .i64 c3, .int .i64 r, .int .i64 m], .agg #[.int .i64 o1, .int .i64 o2, .int .i64 o3, .int .i64 d1, .int .i64 d2, .int .i64 d3, .int .i64 fr]] w fun en w' => en = .returned (.bool true) ∧ Below w.heap.size w w' := by
  have HA := Lib.hid (fun w => awake13 w)
  go_enter Tryz.func3, Tryz.ntmps3
  go_upto_region 1 with (fail)
  obtain ⟨W1, hW1⟩ : ∃ W, W = (w.alloc (.cells #[.int .i64 2, .int .i64 a1, .int .i64 a2, .int .i64 a3, .int .i64 b1, .int .i64 b2, .int .i64 b3, .int .i64 c1, .int .i64 c2, .int .i64 c3, .int .i64 r, .int .i64 m] 25)).alloc (.cells #[.int .i64 o1, .int .i64 o2, .int .i64 o3, .int .i64 d1, .int .i64 d2, .int .i64 d3, .int .i64 fr] 27) := ⟨_, rfl⟩
  obtain ⟨k_p, k_y, B1⟩ := st2 hW1
  rw [← hW1]
  clear hW1
  have l_y : w.heap.size < w.heap.size + 1 := by omega
  generalize w.heap.size + 1 = g_y at *
  obtain ⟨c_p_0, c_p_1, c_p_2, c_p_3, c_p_4, c_p_5, c_p_6, c_p_7, c_p_8, c_p_9, c_p_10, c_p_11⟩ := bwc12 (k_p)
  obtain ⟨c_y_0, c_y_1, c_y_2, c_y_3, c_y_4, c_y_5, c_y_6⟩ := bwc7 (k_y)
  obtain ⟨f_y_0, f_y_1, f_y_2, f_y_3, f_y_4, f_y_5, f_y_6⟩ := bwf7 (k_y)
  obtain ⟨p1, hp1⟩ : ∃ p : BW W1, p.w = W1 := ⟨BW.start W1, rfl⟩
  rw [← hp1]
  clear hp1
  go_upto_region 4 with (first
    | (go_at_call 4; (first | (with_reducible refine (bw_call KR.out _).mono ?_)); rintro e w' ⟨rfl, q, rfl⟩)
    | (go_at_call 7; (first | (with_reducible refine (bw_call HA.out _).mono ?_)); rintro e w' ⟨rfl, q, rfl⟩)
    | (go_at_call 5; (first | (with_reducible refine (bw_call KP.out _).mono ?_)); rintro e w' ⟨rfl, q, rfl⟩)
    | (go_at_call 6; (first | (with_reducible refine (bw_call KN.out _).mono ?_)); rintro e w' ⟨rfl, q, rfl⟩))
  obtain ⟨W2, hW2⟩ : ∃ W, W = q.w.setCell ⟨g_y, 6, none⟩ (.int .i64 (-1)) := ⟨_, rfl⟩
  have B2 : Below w.heap.size w W2 := by rw [hW2]; exact ((bw_below B1 q).setCell (p := ⟨g_y, 6, none⟩) (by show w.heap.size ≤ g_y; omega) _)
  have k_p : Bk W2 (w.heap.size) 25 #[.int .i64 2, .int .i64 a1, .int .i64 a2, .int .i64 a3, .int .i64 b1, .int .i64 b2, .int .i64 b3, .int .i64 c1, .int .i64 c2, .int .i64 c3, .int .i64 r, .int .i64 m] := by rw [hW2]; exact ((k_p.below q.h).other (a := ⟨g_y, 6, none⟩) (by show ¬ w.heap.size = g_y; omega) (.int .i64 (-1)))
  have k_y : Bk W2 (g_y) 27 #[.int .i64 o1, .int .i64 o2, .int .i64 o3, .int .i64 d1, .int .i64 d2, .int .i64 d3, .int .i64 (-1)] := by rw [hW2]; exact ((k_y.below q.h).set 6 (.int .i64 (-1))).cast (by simp)
  rw [← hW2]
  clear hW2
  clear B1
  clear c_p_0 c_p_1 c_p_2 c_p_3 c_p_4 c_p_5 c_p_6 c_p_7 c_p_8 c_p_9 c_p_10 c_p_11 c_y_0 c_y_1 c_y_2 c_y_3 c_y_4 c_y_5 c_y_6 f_y_0 f_y_1 f_y_2 f_y_3 f_y_4 f_y_5 f_y_6
  obtain ⟨c_p_0, c_p_1, c_p_2, c_p_3, c_p_4, c_p_5, c_p_6, c_p_7, c_p_8, c_p_9, c_p_10, c_p_11⟩ := bwc12 (k_p)
  obtain ⟨c_y_0, c_y_1, c_y_2, c_y_3, c_y_4, c_y_5, c_y_6⟩ := bwc7 (k_y)
  obtain ⟨p2, hp2⟩ : ∃ p : BW W2, p.w = W2 := ⟨BW.start W2, rfl⟩
  rw [← hp2]
  clear hp2
  go_upto_region 5 with (first
    | (go_at_call 8; (first | (with_reducible refine (bw_call KH.out _).mono ?_)); rintro e w' ⟨rfl, q, rfl⟩))
  obtain ⟨W3, hW3⟩ : ∃ W, W = q.w.alloc (.cells #[.int .i64 hn, .int .i64 hd] 32) := ⟨_, rfl⟩
  have B3 : Below w.heap.size w W3 := by rw [hW3]; exact (bw_below B2 q).alloc (bw_below B2 q).size _
  have l_t : g_y < q.w.heap.size := (k_y.below q.h).lt
  have o_t : w.heap.size ≤ q.w.heap.size := (bw_below B2 q).size
  have k_p := bka hW3 (k_p.below q.h)
  have k_y := bka hW3 (k_y.below q.h)
  have k_t := bkn hW3
  rw [← hW3]
  clear hW3
  clear B2
  clear c_p_0 c_p_1 c_p_2 c_p_3 c_p_4 c_p_5 c_p_6 c_p_7 c_p_8 c_p_9 c_p_10 c_p_11 c_y_0 c_y_1 c_y_2 c_y_3 c_y_4 c_y_5 c_y_6
  generalize q.w.heap.size = g_t at *
  obtain ⟨c_p_0, c_p_1, c_p_2, c_p_3, c_p_4, c_p_5, c_p_6, c_p_7, c_p_8, c_p_9, c_p_10, c_p_11⟩ := bwc12 (k_p)
  obtain ⟨c_y_0, c_y_1, c_y_2, c_y_3, c_y_4, c_y_5, c_y_6⟩ := bwc7 (k_y)
  obtain ⟨c_t_0, c_t_1⟩ := bwc2 (k_t)
  obtain ⟨p3, hp3⟩ : ∃ p : BW W3, p.w = W3 := ⟨BW.start W3, rfl⟩
  rw [← hp3]
  clear hp3
  go_upto_region 6 with (first
    | (go_at_call 9; (first | (with_reducible refine (bw_call KB.out _).mono ?_)); rintro e w' ⟨rfl, q, rfl⟩))
  obtain ⟨W4, hW4⟩ : ∃ W, W = q.w.alloc (.cells #[.int .i64 l1, .int .i64 l2, .int .i64 l3, .int .i64 h1, .int .i64 h2, .int .i64 h3] 36) := ⟨_, rfl⟩
  have B4 : Below w.heap.size w W4 := by rw [hW4]; exact (bw_below B3 q).alloc (bw_below B3 q).size _
  have l_b : g_t < q.w.heap.size := (k_t.below q.h).lt
  have o_b : w.heap.size ≤ q.w.heap.size := (bw_below B3 q).size
  have k_p := bka hW4 (k_p.below q.h)
  have k_y := bka hW4 (k_y.below q.h)
  have k_t := bka hW4 (k_t.below q.h)
  have k_b := bkn hW4
  rw [← hW4]
  clear hW4
  clear B3
  clear c_p_0 c_p_1 c_p_2 c_p_3 c_p_4 c_p_5 c_p_6 c_p_7 c_p_8 c_p_9 c_p_10 c_p_11 c_y_0 c_y_1 c_y_2 c_y_3 c_y_4 c_y_5 c_y_6 c_t_0 c_t_1
  generalize q.w.heap.size = g_b at *
  obtain ⟨c_p_0, c_p_1, c_p_2, c_p_3, c_p_4, c_p_5, c_p_6, c_p_7, c_p_8, c_p_9, c_p_10, c_p_11⟩ := bwc12 (k_p)
  obtain ⟨c_y_0, c_y_1, c_y_2, c_y_3, c_y_4, c_y_5, c_y_6⟩ := bwc7 (k_y)
  obtain ⟨c_t_0, c_t_1⟩ := bwc2 (k_t)
  obtain ⟨c_b_0, c_b_1, c_b_2, c_b_3, c_b_4, c_b_5⟩ := bwc6 (k_b)
  obtain ⟨p4, hp4⟩ : ∃ p : BW W4, p.w = W4 := ⟨BW.start W4, rfl⟩
  rw [← hp4]
  clear hp4
  go_upto_region 9 with (first
    | (go_at_call 10; (first | (with_reducible refine (bw_call KBR.out _).mono ?_)); rintro e w' ⟨rfl, q, rfl⟩)
    | (go_at_call 12; (first | (with_reducible refine (bw_call KNo.out _).mono ?_)); rintro e w' ⟨rfl, q, rfl⟩))
  obtain ⟨W5, hW5⟩ : ∃ W, W = q.w.alloc (.cells #[.int .i64 n1, .int .i64 n2, .int .i64 n3] 23) := ⟨_, rfl⟩
  have B5 : Below w.heap.size w W5 := by rw [hW5]; exact (bw_below B4 q).alloc (bw_below B4 q).size _
  have l_n : g_b < q.w.heap.size := (k_b.below q.h).lt
  have o_n : w.heap.size ≤ q.w.heap.size := (bw_below B4 q).size
  have k_p := bka hW5 (k_p.below q.h)
  have k_y := bka hW5 (k_y.below q.h)
  have k_t := bka hW5 (k_t.below q.h)
  have k_b := bka hW5 (k_b.below q.h)
  have k_n := bkn hW5
  rw [← hW5]
  clear hW5
  clear B4
  clear c_p_0 c_p_1 c_p_2 c_p_3 c_p_4 c_p_5 c_p_6 c_p_7 c_p_8 c_p_9 c_p_10 c_p_11 c_y_0 c_y_1 c_y_2 c_y_3 c_y_4 c_y_5 c_y_6 c_t_0 c_t_1 c_b_0 c_b_1 c_b_2 c_b_3 c_b_4 c_b_5
  generalize q.w.heap.size = g_n at *
  obtain ⟨c_p_0, c_p_1, c_p_2, c_p_3, c_p_4, c_p_5, c_p_6, c_p_7, c_p_8, c_p_9, c_p_10, c_p_11⟩ := bwc12 (k_p)
  obtain ⟨c_y_0, c_y_1, c_y_2, c_y_3, c_y_4, c_y_5, c_y_6⟩ := bwc7 (k_y)
  obtain ⟨c_t_0, c_t_1⟩ := bwc2 (k_t)
  obtain ⟨c_b_0, c_b_1, c_b_2, c_b_3, c_b_4, c_b_5⟩ := bwc6 (k_b)
  obtain ⟨c_n_0, c_n_1, c_n_2⟩ := bwc3 (k_n)
  obtain ⟨p5, hp5⟩ : ∃ p : BW W5, p.w = W5 := ⟨BW.start W5, rfl⟩
  rw [← hp5]
  clear hp5
  refine wp_region_bw (by kernel_rfl) (by kernel_rfl) ?_
  repeat (go_big_quiet_step (first
    | (go_at_call 13; (first | (with_reducible exact bw_call KL.out _)))
    | (go_at_call 7; (first | (with_reducible exact bw_call HA.out _)))))
  refine wpQuiet_nil ?_
  intro _ hw'
  obtain ⟨q, rfl⟩ := hw'
  go_wp2
  go_ret
  exact ⟨rfl, bw_below B5 _⟩

set_option maxRecDepth 100000 in
set_option maxHeartbeats 8000000 in
theorem pb_m11 (a1 a2 a3 b1 b2 b3 c1 c2 c3 r m o1 o2 o3 d1 d2 d3 fr hn hd l1 l2 l3 h1 h2 h3 n1 n2 n3 L : Int) (w : World) 
    (KR : Hid (∀ w, Calls Tryz.prog 4 #[.agg #[.int .i64 2, .int .i64 a1, .int .i64 a2, .int .i64 a3, .int .i64 b1, .int .i64 b2, .int .i64 b3, .int .i64 c1, .int .i64 c2, .int .i64 c3, .int .i64 r, .int .i64 m]] w fun en w' => en = .returned (.bool true) ∧ Below w.heap.size w w'))
    (KP : Hid (∀ w, Calls Tryz.prog 5 #[.agg #[.int .i64 o1, .int .i64 o2, .int .i64 o3]] w fun en w' => en = .returned (.bool true) ∧ Below w.heap.size w w'))
    (KN : Hid (∀ w, Calls Tryz.prog 6 #[.agg #[.int .i64 d1, .int .i64 d2, .int .i64 d3]] w fun en w' => en = .returned (.bool true) ∧ Below w.heap.size w w'))
    (KH : Hid (∀ w, Calls Tryz.prog 8 #[.agg #[.int .i64 2, .int .i64 a1, .int .i64 a2, .int .i64 a3, .int .i64 b1, .int .i64 b2, .int .i64 b3, .int .i64 c1, .int .i64 c2, .int .i64 c3, .int .i64 r, .int .i64 m], .int .i64 0, .agg #[.int .i64 o1, .int .i64 o2, .int .i64 o3, .int .i64 d1, .int .i64 d2, .int .i64 d3, .int .i64 (-1)]] w fun en w' => en = .returned (.tuple #[.agg #[.int .i64 hn, .int .i64 hd], .bool true]) ∧ Below w.heap.size w w'))
    (KB : Hid (∀ w, Calls Tryz.prog 9 #[.agg #[.int .i64 2, .int .i64 a1, .int .i64 a2, .int .i64 a3, .int .i64 b1, .int .i64 b2, .int .i64 b3, .int .i64 c1, .int .i64 c2, .int .i64 c3, .int .i64 r, .int .i64 m]] w fun en w' => en = .returned (.agg #[.int .i64 l1, .int .i64 l2, .int .i64 l3, .int .i64 h1, .int .i64 h2, .int .i64 h3]) ∧ Below w.heap.size w w'))
    (KBR : Hid (∀ w, Calls Tryz.prog 10 #[.agg #[.int .i64 l1, .int .i64 l2, .int .i64 l3, .int .i64 h1, .int .i64 h2, .int .i64 h3]] w fun en w' => en = .returned (.bool true) ∧ Below w.heap.size w w'))
    (t1 : decide (hn < 1) = false) (t2 : decide (hd < 1) = false)
    (KBH : Hid (∀ w, Calls Tryz.prog 11 #[.agg #[.int .i64 l1, .int .i64 l2, .int .i64 l3, .int .i64 h1, .int .i64 h2, .int .i64 h3], .agg #[.int .i64 o1, .int .i64 o2, .int .i64 o3, .int .i64 d1, .int .i64 d2, .int .i64 d3, .int .i64 (-1)], .agg #[.int .i64 hn, .int .i64 hd]] w fun en w' => en = .returned (.bool true) ∧ Below w.heap.size w w'))
    (KNo : Hid (∀ w, Calls Tryz.prog 12 #[.agg #[.int .i64 2, .int .i64 a1, .int .i64 a2, .int .i64 a3, .int .i64 b1, .int .i64 b2, .int .i64 b3, .int .i64 c1, .int .i64 c2, .int .i64 c3, .int .i64 r, .int .i64 m], .agg #[.int .i64 o1, .int .i64 o2, .int .i64 o3]] w fun en w' => en = .returned (.agg #[.int .i64 n1, .int .i64 n2, .int .i64 n3]) ∧ Below w.heap.size w w'))
    (KL : Hid (∀ w, Calls Tryz.prog 13 #[.agg #[.int .i64 n1, .int .i64 n2, .int .i64 n3]] w fun en w' => en = .returned (.int .i64 L) ∧ Below w.heap.size w w'))
    (t3 : decide (16382 ≤ L) = true) (t4 : decide (L ≤ 16384) = true) :
    Calls Tryz.prog 3 #[.agg #[.int .i64 2, .int .i64 a1, .int .i64 a2, .int .i64 a3, .int .i64 b1, .int .i64 b2, .int .i64 b3, .int .i64 c1, .int .i64 c2, .int .i64 c3, .int .i64 r, .int .i64 m], .agg #[.int .i64 o1, .int .i64 o2, .int .i64 o3, .int .i64 d1, .int .i64 d2, .int .i64 d3, .int .i64 fr]] w fun en w' => en = .returned (.bool true) ∧ Below w.heap.size w w' := by
  have HA := Lib.hid (fun w => awake13 w)
  go_enter Tryz.func3, Tryz.ntmps3
  go_upto_region 1 with (fail)
  obtain ⟨W1, hW1⟩ : ∃ W, W = (w.alloc (.cells #[.int .i64 2, .int .i64 a1, .int .i64 a2, .int .i64 a3, .int .i64 b1, .int .i64 b2, .int .i64 b3, .int .i64 c1, .int .i64 c2, .int .i64 c3, .int .i64 r, .int .i64 m] 25)).alloc (.cells #[.int .i64 o1, .int .i64 o2, .int .i64 o3, .int .i64 d1, .int .i64 d2, .int .i64 d3, .int .i64 fr] 27) := ⟨_, rfl⟩
  obtain ⟨k_p, k_y, B1⟩ := st2 hW1
  rw [← hW1]
  clear hW1
  have l_y : w.heap.size < w.heap.size + 1 := by omega
  generalize w.heap.size + 1 = g_y at *
  obtain ⟨c_p_0, c_p_1, c_p_2, c_p_3, c_p_4, c_p_5, c_p_6, c_p_7, c_p_8, c_p_9, c_p_10, c_p_11⟩ := bwc12 (k_p)
  obtain ⟨c_y_0, c_y_1, c_y_2, c_y_3, c_y_4, c_y_5, c_y_6⟩ := bwc7 (k_y)
  obtain ⟨f_y_0, f_y_1, f_y_2, f_y_3, f_y_4, f_y_5, f_y_6⟩ := bwf7 (k_y)
  obtain ⟨p1, hp1⟩ : ∃ p : BW W1, p.w = W1 := ⟨BW.start W1, rfl⟩
  rw [← hp1]
  clear hp1
  go_upto_region 4 with (first
    | (go_at_call 4; (first | (with_reducible refine (bw_call KR.out _).mono ?_)); rintro e w' ⟨rfl, q, rfl⟩)
    | (go_at_call 7; (first | (with_reducible refine (bw_call HA.out _).mono ?_)); rintro e w' ⟨rfl, q, rfl⟩)
    | (go_at_call 5; (first | (with_reducible refine (bw_call KP.out _).mono ?_)); rintro e w' ⟨rfl, q, rfl⟩)
    | (go_at_call 6; (first | (with_reducible refine (bw_call KN.out _).mono ?_)); rintro e w' ⟨rfl, q, rfl⟩))
  obtain ⟨W2, hW2⟩ : ∃ W, W = q.w.setCell ⟨g_y, 6, none⟩ (.int .i64 (-1)) := ⟨_, rfl⟩
  have B2 : Below w.heap.size w W2 := by rw [hW2]; exact ((bw_below B1 q).setCell (p := ⟨g_y, 6, none⟩) (by show w.heap.size ≤ g_y; omega) _)
  have k_p : Bk W2 (w.heap.size) 25 #[.int .i64 2, .int .i64 a1, .int .i64 a2, .int .i64 a3, .int .i64 b1, .int .i64 b2, .int .i64 b3, .int .i64 c1, .int .i64 c2, .int .i64 c3, .int .i64 r, .int .i64 m] := by rw [hW2]; exact ((k_p.below q.h).other (a := ⟨g_y, 6, none⟩) (by show ¬ w.heap.size = g_y; omega) (.int .i64 (-1)))
  have k_y : Bk W2 (g_y) 27 #[.int .i64 o1, .int .i64 o2, .int .i64 o3, .int .i64 d1, .int .i64 d2, .int .i64 d3, .int .i64 (-1)] := by rw [hW2]; exact ((k_y.below q.h).set 6 (.int .i64 (-1))).cast (by simp)
  rw [← hW2]
  clear hW2
  clear B1
  clear c_p_0 c_p_1 c_p_2 c_p_3 c_p_4 c_p_5 c_p_6 c_p_7 c_p_8 c_p_9 c_p_10 c_p_11 c_y_0 c_y_1 c_y_2 c_y_3 c_y_4 c_y_5 c_y_6 f_y_0 f_y_1 f_y_2 f_y_3 f_y_4 f_y_5 f_y_6
  obtain ⟨c_p_0, c_p_1, c_p_2, c_p_3, c_p_4, c_p_5, c_p_6, c_p_7, c_p_8, c_p_9, c_p_10, c_p_11⟩ := bwc12 (k_p)
  obtain ⟨c_y_0, c_y_1, c_y_2, c_y_3, c_y_4, c_y_5, c_y_6⟩ := bwc7 (k_y)
  obtain ⟨p2, hp2⟩ : ∃ p : BW W2, p.w = W2 := ⟨BW.start W2, rfl⟩
  rw [← hp2]
  clear hp2
  go_upto_region 5 with (first
    | (go_at_call 8; (first | (with_reducible refine (bw_call KH.out _).mono ?_)); rintro e w' ⟨rfl, q, rfl⟩))
  obtain ⟨W3, hW3⟩ : ∃ W, W = q.w.alloc (.cells #[.int .i64 hn, .int .i64 hd] 32) := ⟨_, rfl⟩
  have B3 : Below w.heap.size w W3 := by rw [hW3]; exact (bw_below B2 q).alloc (bw_below B2 q).size _
  have l_t : g_y < q.w.heap.size := (k_y.below q.h).lt
  have o_t : w.heap.size ≤ q.w.heap.size := (bw_below B2 q).size
  have k_p := bka hW3 (k_p.below q.h)
  have k_y := bka hW3 (k_y.below q.h)
  have k_t := bkn hW3
  rw [← hW3]
  clear hW3
  clear B2
  clear c_p_0 c_p_1 c_p_2 c_p_3 c_p_4 c_p_5 c_p_6 c_p_7 c_p_8 c_p_9 c_p_10 c_p_11 c_y_0 c_y_1 c_y_2 c_y_3 c_y_4 c_y_5 c_y_6
  generalize q.w.heap.size = g_t at *
  obtain ⟨c_p_0, c_p_1, c_p_2, c_p_3, c_p_4, c_p_5, c_p_6, c_p_7, c_p_8, c_p_9, c_p_10, c_p_11⟩ := bwc12 (k_p)
  obtain ⟨c_y_0, c_y_1, c_y_2, c_y_3, c_y_4, c_y_5, c_y_6⟩ := bwc7 (k_y)
  obtain ⟨c_t_0, c_t_1⟩ := bwc2 (k_t)
  obtain ⟨p3, hp3⟩ : ∃ p : BW W3, p.w = W3 := ⟨BW.start W3, rfl⟩
  rw [← hp3]
  clear hp3
  go_upto_region 6 with (first
    | (go_at_call 9; (first | (with_reducible refine (bw_call KB.out _).mono ?_)); rintro e w' ⟨rfl, q, rfl⟩))
  obtain ⟨W4, hW4⟩ : ∃ W, W = q.w.alloc (.cells #[.int .i64 l1, .int .i64 l2, .int .i64 l3, .int .i64 h1, .int .i64 h2, .int .i64 h3] 36) := ⟨_, rfl⟩
  have B4 : Below w.heap.size w W4 := by rw [hW4]; exact (bw_below B3 q).alloc (bw_below B3 q).size _
  have l_b : g_t < q.w.heap.size := (k_t.below q.h).lt
  have o_b : w.heap.size ≤ q.w.heap.size := (bw_below B3 q).size
  have k_p := bka hW4 (k_p.below q.h)
  have k_y := bka hW4 (k_y.below q.h)
  have k_t := bka hW4 (k_t.below q.h)
  have k_b := bkn hW4
  rw [← hW4]
  clear hW4
  clear B3
  clear c_p_0 c_p_1 c_p_2 c_p_3 c_p_4 c_p_5 c_p_6 c_p_7 c_p_8 c_p_9 c_p_10 c_p_11 c_y_0 c_y_1 c_y_2 c_y_3 c_y_4 c_y_5 c_y_6 c_t_0 c_t_1
  generalize q.w.heap.size = g_b at *
  obtain ⟨c_p_0, c_p_1, c_p_2, c_p_3, c_p_4, c_p_5, c_p_6, c_p_7, c_p_8, c_p_9, c_p_10, c_p_11⟩ := bwc12 (k_p)
  obtain ⟨c_y_0, c_y_1, c_y_2, c_y_3, c_y_4, c_y_5, c_y_6⟩ := bwc7 (k_y)
  obtain ⟨c_t_0, c_t_1⟩ := bwc2 (k_t)
  obtain ⟨c_b_0, c_b_1, c_b_2, c_b_3, c_b_4, c_b_5⟩ := bwc6 (k_b)
  obtain ⟨p4, hp4⟩ : ∃ p : BW W4, p.w = W4 := ⟨BW.start W4, rfl⟩
  rw [← hp4]
  clear hp4
  go_upto_region 9 with (first
    | (go_at_call 10; (first | (with_reducible refine (bw_call KBR.out _).mono ?_)); rintro e w' ⟨rfl, q, rfl⟩)
    | (go_at_call 12; (first | (with_reducible refine (bw_call KNo.out _).mono ?_)); rintro e w' ⟨rfl, q, rfl⟩)
    | (go_at_call 11; (first | (with_reducible refine (bw_call KBH.out _).mono ?_)); rintro e w' ⟨rfl, q, rfl⟩))
  obtain ⟨W5, hW5⟩ : ∃ W, W = q.w.alloc (.cells #[.int .i64 n1, .int .i64 n2, .int .i64 n3] 23) := ⟨_, rfl⟩
  have B5 : Below w.heap.size w W5 := by rw [hW5]; exact (bw_below B4 q).alloc (bw_below B4 q).size _
  have l_n : g_b < q.w.heap.size := (k_b.below q.h).lt
  have o_n : w.heap.size ≤ q.w.heap.size := (bw_below B4 q).size
  have k_p := bka hW5 (k_p.below q.h)
  have k_y := bka hW5 (k_y.below q.h)
  have k_t := bka hW5 (k_t.below q.h)
  have k_b := bka hW5 (k_b.below q.h)
  have k_n := bkn hW5
  rw [← hW5]
  clear hW5
  clear B4
  clear c_p_0 c_p_1 c_p_2 c_p_3 c_p_4 c_p_5 c_p_6 c_p_7 c_p_8 c_p_9 c_p_10 c_p_11 c_y_0 c_y_1 c_y_2 c_y_3 c_y_4 c_y_5 c_y_6 c_t_0 c_t_1 c_b_0 c_b_1 c_b_2 c_b_3 c_b_4 c_b_5
  generalize q.w.heap.size = g_n at *
  obtain ⟨c_p_0, c_p_1, c_p_2, c_p_3, c_p_4, c_p_5, c_p_6, c_p_7, c_p_8, c_p_9, c_p_10, c_p_11⟩ := bwc12 (k_p)
  obtain ⟨c_y_0, c_y_1, c_y_2, c_y_3, c_y_4, c_y_5, c_y_6⟩ := bwc7 (k_y)
  obtain ⟨c_t_0, c_t_1⟩ := bwc2 (k_t)
  obtain ⟨c_b_0, c_b_1, c_b_2, c_b_3, c_b_4, c_b_5⟩ := bwc6 (k_b)
  obtain ⟨c_n_0, c_n_1, c_n_2⟩ := bwc3 (k_n)
  obtain ⟨p5, hp5⟩ : ∃ p : BW W5, p.w = W5 := ⟨BW.start W5, rfl⟩
  rw [← hp5]
  clear hp5
  refine wp_region_bw (by kernel_rfl) (by kernel_rfl) ?_
  repeat (go_big_quiet_step (first
    | (go_at_call 13; (first | (with_reducible exact bw_call KL.out _)))
    | (go_at_call 7; (first | (with_reducible exact bw_call HA.out _)))))
  refine wpQuiet_nil ?_
  intro _ hw'
  obtain ⟨q, rfl⟩ := hw'
  go_wp2
  go_ret
  exact ⟨rfl, bw_below B5 _⟩

theorem law_PrimBox (k a1 a2 a3 b1 b2 b3 c1 c2 c3 r m o1 o2 o3 d1 d2 d3 fr : Int) (w : World) (hp : Pr.I (Pr.mk k (a1, a2, a3) (b1, b2, b3) (c1, c2, c3) r m)) (ho : I3 (o1, o2, o3)) (hd : I3 (d1, d2, d3)) :
    Calls Tryz.prog 3 #[.agg #[.int .i64 k, .int .i64 a1, .int .i64 a2, .int .i64 a3, .int .i64 b1, .int .i64 b2, .int .i64 b3, .int .i64 c1, .int .i64 c2, .int .i64 c3, .int .i64 r, .int .i64 m], .agg #[.int .i64 o1, .int .i64 o2, .int .i64 o3, .int .i64 d1, .int .i64 d2, .int .i64 d3, .int .i64 fr]] w fun en w' => en = .returned (.bool true) ∧ Below w.heap.size w w' := by
  have KR := Lib.hid (fun w => ref13_Right k a1 a2 a3 b1 b2 b3 c1 c2 c3 r m w)
  have KP := Lib.hid (fun w => ref11_Place o1 o2 o3 w)
  have KN := Lib.hid (fun w => ref6_Near d1 d2 d3 w)
  cases hr : pRight (Pr.mk k (a1, a2, a3) (b1, b2, b3) (c1, c2, c3) r m) with
  | false => rw [hr] at KR; exact pb_r k a1 a2 a3 b1 b2 b3 c1 c2 c3 r m o1 o2 o3 d1 d2 d3 fr w KR
  | true =>
    rw [hr] at KR
    cases hpl : plc (o1, o2, o3) with
    | false => rw [hpl] at KP; exact pb_p k a1 a2 a3 b1 b2 b3 c1 c2 c3 r m o1 o2 o3 d1 d2 d3 fr w KR KP
    | true =>
      rw [hpl] at KP
      cases hn : vnear d1 d2 d3 with
      | false => rw [hn] at KN; exact pb_n k a1 a2 a3 b1 b2 b3 c1 c2 c3 r m o1 o2 o3 d1 d2 d3 fr w KR KP KN
      | true =>
        rw [hn] at KN
        have KH := Lib.hid (fun w => prim_Hit k a1 a2 a3 b1 b2 b3 c1 c2 c3 r m 0 o1 o2 o3 d1 d2 d3 (-1) w hp (by unfold I64; omega) ho hd (by unfold I64; omega))
        have KB := Lib.hid (fun w => prim_Box k a1 a2 a3 b1 b2 b3 c1 c2 c3 r m w hp)
        unfold bx6 at KB
        have hbr := box_right hr
        have KBR := Lib.hid (fun w => box_Right (pBox (Pr.mk k (a1, a2, a3) (b1, b2, b3) (c1, c2, c3) r m)).1.1 (pBox (Pr.mk k (a1, a2, a3) (b1, b2, b3) (c1, c2, c3) r m)).1.2.1 (pBox (Pr.mk k (a1, a2, a3) (b1, b2, b3) (c1, c2, c3) r m)).1.2.2 (pBox (Pr.mk k (a1, a2, a3) (b1, b2, b3) (c1, c2, c3) r m)).2.1 (pBox (Pr.mk k (a1, a2, a3) (b1, b2, b3) (c1, c2, c3) r m)).2.2.1 (pBox (Pr.mk k (a1, a2, a3) (b1, b2, b3) (c1, c2, c3) r m)).2.2.2 w)
        rw [show bRight (((pBox (Pr.mk k (a1, a2, a3) (b1, b2, b3) (c1, c2, c3) r m)).1.1, (pBox (Pr.mk k (a1, a2, a3) (b1, b2, b3) (c1, c2, c3) r m)).1.2.1, (pBox (Pr.mk k (a1, a2, a3) (b1, b2, b3) (c1, c2, c3) r m)).1.2.2), ((pBox (Pr.mk k (a1, a2, a3) (b1, b2, b3) (c1, c2, c3) r m)).2.1, (pBox (Pr.mk k (a1, a2, a3) (b1, b2, b3) (c1, c2, c3) r m)).2.2.1, (pBox (Pr.mk k (a1, a2, a3) (b1, b2, b3) (c1, c2, c3) r m)).2.2.2)) = true from hbr] at KBR
        have KNo := Lib.hid (fun w => prim_Normal k a1 a2 a3 b1 b2 b3 c1 c2 c3 r m o1 o2 o3 w hp ho)
        have hl := normal_len (t := (o1, o2, o3)) hr
        have KL := Lib.hid (fun w => ref6_Len (pNormal (Pr.mk k (a1, a2, a3) (b1, b2, b3) (c1, c2, c3) r m) (o1, o2, o3)).1 (pNormal (Pr.mk k (a1, a2, a3) (b1, b2, b3) (c1, c2, c3) r m) (o1, o2, o3)).2.1 (pNormal (Pr.mk k (a1, a2, a3) (b1, b2, b3) (c1, c2, c3) r m) (o1, o2, o3)).2.2 w)
        have KQ := Lib.hid (fun w => prim_Point k a1 a2 a3 b1 b2 b3 c1 c2 c3 r m 20000 30000 w hp (by unfold I64; omega) (by unfold I64; omega))
        have KHs := Lib.hid (fun w => box_Has (pBox (Pr.mk k (a1, a2, a3) (b1, b2, b3) (c1, c2, c3) r m)).1.1 (pBox (Pr.mk k (a1, a2, a3) (b1, b2, b3) (c1, c2, c3) r m)).1.2.1 (pBox (Pr.mk k (a1, a2, a3) (b1, b2, b3) (c1, c2, c3) r m)).1.2.2 (pBox (Pr.mk k (a1, a2, a3) (b1, b2, b3) (c1, c2, c3) r m)).2.1 (pBox (Pr.mk k (a1, a2, a3) (b1, b2, b3) (c1, c2, c3) r m)).2.2.1 (pBox (Pr.mk k (a1, a2, a3) (b1, b2, b3) (c1, c2, c3) r m)).2.2.2 (pPoint (Pr.mk k (a1, a2, a3) (b1, b2, b3) (c1, c2, c3) r m) 20000 30000).1 (pPoint (Pr.mk k (a1, a2, a3) (b1, b2, b3) (c1, c2, c3) r m) 20000 30000).2.1 (pPoint (Pr.mk k (a1, a2, a3) (b1, b2, b3) (c1, c2, c3) r m) 20000 30000).2.2 w)
        cases hok : (pHit (Pr.mk k (a1, a2, a3) (b1, b2, b3) (c1, c2, c3) r m) 0 (o1, o2, o3) (d1, d2, d3) (-1)).2 with
        | false =>
          rw [hok] at KH
          by_cases k2 : k = 2
          · subst k2
            exact pb_m10 a1 a2 a3 b1 b2 b3 c1 c2 c3 r m o1 o2 o3 d1 d2 d3 fr _ _ _ _ _ _ _ _ _ _ _ _ w KR KP KN KH KB KBR KNo KL (decide_eq_true hl.1) (decide_eq_true hl.2)
          · have hh := point_in hr k2
            rw [show bHas (((pBox (Pr.mk k (a1, a2, a3) (b1, b2, b3) (c1, c2, c3) r m)).1.1, (pBox (Pr.mk k (a1, a2, a3) (b1, b2, b3) (c1, c2, c3) r m)).1.2.1, (pBox (Pr.mk k (a1, a2, a3) (b1, b2, b3) (c1, c2, c3) r m)).1.2.2), ((pBox (Pr.mk k (a1, a2, a3) (b1, b2, b3) (c1, c2, c3) r m)).2.1, (pBox (Pr.mk k (a1, a2, a3) (b1, b2, b3) (c1, c2, c3) r m)).2.2.1, (pBox (Pr.mk k (a1, a2, a3) (b1, b2, b3) (c1, c2, c3) r m)).2.2.2)) ((pPoint (Pr.mk k (a1, a2, a3) (b1, b2, b3) (c1, c2, c3) r m) 20000 30000).1, (pPoint (Pr.mk k (a1, a2, a3) (b1, b2, b3) (c1, c2, c3) r m) 20000 30000).2.1, (pPoint (Pr.mk k (a1, a2, a3) (b1, b2, b3) (c1, c2, c3) r m) 20000 30000).2.2) = true from hh] at KHs
            exact pb_m00 k a1 a2 a3 b1 b2 b3 c1 c2 c3 r m o1 o2 o3 d1 d2 d3 fr _ _ _ _ _ _ _ _ _ _ _ _ _ _ _ w KR KP KN KH KB KBR KNo KL (decide_eq_true hl.1) (decide_eq_true hl.2) k2 (by simpa using k2) KQ KHs
        | true =>
          rw [hok] at KH
          obtain ⟨m1, m2, m3⟩ := prim_met (by omega) hok
          have i1 : I64 (pHit (Pr.mk k (a1, a2, a3) (b1, b2, b3) (c1, c2, c3) r m) 0 (o1, o2, o3) (d1, d2, d3) (-1)).1.1 ∧ I64 (pHit (Pr.mk k (a1, a2, a3) (b1, b2, b3) (c1, c2, c3) r m) 0 (o1, o2, o3) (d1, d2, d3) (-1)).1.2 := pHit_I64 _ _ _ _ _
          have KBH := Lib.hid (fun w => box_Hit (pBox (Pr.mk k (a1, a2, a3) (b1, b2, b3) (c1, c2, c3) r m)).1.1 (pBox (Pr.mk k (a1, a2, a3) (b1, b2, b3) (c1, c2, c3) r m)).1.2.1 (pBox (Pr.mk k (a1, a2, a3) (b1, b2, b3) (c1, c2, c3) r m)).1.2.2 (pBox (Pr.mk k (a1, a2, a3) (b1, b2, b3) (c1, c2, c3) r m)).2.1 (pBox (Pr.mk k (a1, a2, a3) (b1, b2, b3) (c1, c2, c3) r m)).2.2.1 (pBox (Pr.mk k (a1, a2, a3) (b1, b2, b3) (c1, c2, c3) r m)).2.2.2 o1 o2 o3 d1 d2 d3 (-1) (pHit (Pr.mk k (a1, a2, a3) (b1, b2, b3) (c1, c2, c3) r m) 0 (o1, o2, o3) (d1, d2, d3) (-1)).1.1 (pHit (Pr.mk k (a1, a2, a3) (b1, b2, b3) (c1, c2, c3) r m) 0 (o1, o2, o3) (d1, d2, d3) (-1)).1.2 w i1.1 i1.2)
          rw [show bHit (((pBox (Pr.mk k (a1, a2, a3) (b1, b2, b3) (c1, c2, c3) r m)).1.1, (pBox (Pr.mk k (a1, a2, a3) (b1, b2, b3) (c1, c2, c3) r m)).1.2.1, (pBox (Pr.mk k (a1, a2, a3) (b1, b2, b3) (c1, c2, c3) r m)).1.2.2), ((pBox (Pr.mk k (a1, a2, a3) (b1, b2, b3) (c1, c2, c3) r m)).2.1, (pBox (Pr.mk k (a1, a2, a3) (b1, b2, b3) (c1, c2, c3) r m)).2.2.1, (pBox (Pr.mk k (a1, a2, a3) (b1, b2, b3) (c1, c2, c3) r m)).2.2.2)) (o1, o2, o3) (d1, d2, d3) (pHit (Pr.mk k (a1, a2, a3) (b1, b2, b3) (c1, c2, c3) r m) 0 (o1, o2, o3) (d1, d2, d3) (-1)).1.1 (pHit (Pr.mk k (a1, a2, a3) (b1, b2, b3) (c1, c2, c3) r m) 0 (o1, o2, o3) (d1, d2, d3) (-1)).1.2 = true from m3] at KBH
          by_cases k2 : k = 2
          · subst k2
            exact pb_m11 a1 a2 a3 b1 b2 b3 c1 c2 c3 r m o1 o2 o3 d1 d2 d3 fr _ _ _ _ _ _ _ _ _ _ _ _ w KR KP KN KH KB KBR (decide_eq_false (by omega)) (decide_eq_false (by omega)) KBH KNo KL (decide_eq_true hl.1) (decide_eq_true hl.2)
          · have hh := point_in hr k2
            rw [show bHas (((pBox (Pr.mk k (a1, a2, a3) (b1, b2, b3) (c1, c2, c3) r m)).1.1, (pBox (Pr.mk k (a1, a2, a3) (b1, b2, b3) (c1, c2, c3) r m)).1.2.1, (pBox (Pr.mk k (a1, a2, a3) (b1, b2, b3) (c1, c2, c3) r m)).1.2.2), ((pBox (Pr.mk k (a1, a2, a3) (b1, b2, b3) (c1, c2, c3) r m)).2.1, (pBox (Pr.mk k (a1, a2, a3) (b1, b2, b3) (c1, c2, c3) r m)).2.2.1, (pBox (Pr.mk k (a1, a2, a3) (b1, b2, b3) (c1, c2, c3) r m)).2.2.2)) ((pPoint (Pr.mk k (a1, a2, a3) (b1, b2, b3) (c1, c2, c3) r m) 20000 30000).1, (pPoint (Pr.mk k (a1, a2, a3) (b1, b2, b3) (c1, c2, c3) r m) 20000 30000).2.1, (pPoint (Pr.mk k (a1, a2, a3) (b1, b2, b3) (c1, c2, c3) r m) 20000 30000).2.2) = true from hh] at KHs
            exact pb_m01 k a1 a2 a3 b1 b2 b3 c1 c2 c3 r m o1 o2 o3 d1 d2 d3 fr _ _ _ _ _ _ _ _ _ _ _ _ _ _ _ w KR KP KN KH KB KBR (decide_eq_false (by omega)) (decide_eq_false (by omega)) KBH KNo KL (decide_eq_true hl.1) (decide_eq_true hl.2) k2 (by simpa using k2) KQ KHs

end Go.Proofs.YtdmfmdekcojjbaaGreat
