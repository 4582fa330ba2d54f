/- The walk of the statement BallMet. -/
import Derived.Test.YtppejnfiphkmnaaBallMet
namespace Go.Proofs.Ytppejnfiphkmnaa
open Go.RowKit Go.Proofs.Sky
set_option linter.unusedVariables false

set_option maxRecDepth 100000 in
set_option maxHeartbeats 8000000 in
theorem law12_small (x y z : Int) (w : World) :
    Calls Try.prog 17 #[.agg #[.int .i64 x, .int .i64 y, .int .i64 z]] w fun en w' => en = .returned (.agg #[.int .i64 (x.tmod 2000), .int .i64 (y.tmod 2000), .int .i64 (z.tmod 2000)]) ∧ Below w.heap.size w w' := by
  generalize hx : x.tmod 2000 = xx
  generalize hy : y.tmod 2000 = yy
  generalize hz : z.tmod 2000 = zz
  go_enter Try.func17, Try.ntmps17
  go_upto_region 1 with (fail)
  obtain ⟨W1, hW1⟩ : ∃ W, W = (w.alloc (.cells #[.int .i64 x, .int .i64 y, .int .i64 z] 23)).alloc (.cells #[.int .i64 0, .int .i64 0, .int .i64 0] 23) := ⟨_, rfl⟩
  obtain ⟨k_v, k_r, B1⟩ := st2 hW1
  rw [← hW1]
  clear hW1
  have l_r : w.heap.size < w.heap.size + 1 := by omega
  generalize w.heap.size + 1 = g_r at *
  obtain ⟨c_v_0, c_v_1, c_v_2⟩ := bwc3 (k_v)
  obtain ⟨c_r_0, c_r_1, c_r_2⟩ := bwc3 (k_r)
  obtain ⟨f_r_0, f_r_1, f_r_2⟩ := bwf3 (k_r)
  obtain ⟨p1, hp1⟩ : ∃ p : BW W1, p.w = W1 := ⟨BW.start W1, rfl⟩
  rw [← hp1]
  clear hp1
  go_wp2
  have kr := bkp3 (k_r.below p1.h) (.int .i64 xx) (.int .i64 yy) (.int .i64 zz)
  obtain ⟨rc0, rc1, rc2⟩ := rwc3 kr
  exact bodyPost_ret (v := .agg #[.int .i64 xx, .int .i64 yy, .int .i64 zz]) (by simp [results, Try.results17, go_sem, rc0, rc1, rc2]) rfl ⟨rfl, blp3 (bw_below B1 p1) (by omega)⟩

set_option maxRecDepth 100000 in
set_option maxHeartbeats 8000000 in
theorem met_no (c1 c2 c3 ru o1 o2 o3 d1 d2 d3 fr cc1 cc2 cc3 oo1 oo2 oo3 dd1 dd2 dd3 km k  : Int) (w : World) (hru : ru.tmod 2000 = km) (wru : wrap64 ru = ru) (hk : 4 + km = k) (wk : wrap64 k = k)
    (KSc : Hid (∀ w, Calls Try.prog 17 #[.agg #[.int .i64 c1, .int .i64 c2, .int .i64 c3]] w fun en w' => en = .returned (.agg #[.int .i64 cc1, .int .i64 cc2, .int .i64 cc3]) ∧ Below w.heap.size w w'))
    (KSo : Hid (∀ w, Calls Try.prog 17 #[.agg #[.int .i64 o1, .int .i64 o2, .int .i64 o3]] w fun en w' => en = .returned (.agg #[.int .i64 oo1, .int .i64 oo2, .int .i64 oo3]) ∧ Below w.heap.size w w'))
    (KSd : Hid (∀ w, Calls Try.prog 17 #[.agg #[.int .i64 d1, .int .i64 d2, .int .i64 d3]] w fun en w' => en = .returned (.agg #[.int .i64 dd1, .int .i64 dd2, .int .i64 dd3]) ∧ Below w.heap.size w w')) (KH : Hid (∀ w, Calls Try.prog 6 #[.agg #[.int .i64 cc1, .int .i64 cc2, .int .i64 cc3], .int .i64 k, .agg #[.int .i64 oo1, .int .i64 oo2, .int .i64 oo3, .int .i64 dd1, .int .i64 dd2, .int .i64 dd3, .int .i64 (-1)]] w fun en w' => en = .returned (.tuple #[.agg #[.int .i64 0, .int .i64 0], .bool false]) ∧ Below w.heap.size w w')) :
    Calls Try.prog 4 #[.agg #[.int .i64 c1, .int .i64 c2, .int .i64 c3], .int .u16 ru, .agg #[.int .i64 o1, .int .i64 o2, .int .i64 o3, .int .i64 d1, .int .i64 d2, .int .i64 d3, .int .i64 fr]] w fun en w' => en = .returned (.bool true) ∧ Below w.heap.size w w' := by
  have HA := Lib.hid (fun w => awake12 w)
  go_enter Try.func4, Try.ntmps4
  go_upto_region 1 with (fail)
  obtain ⟨W1, hW1⟩ : ∃ W, W = (w.alloc (.cells #[.int .i64 c1, .int .i64 c2, .int .i64 c3] 23)).alloc (.cells #[.int .i64 o1, .int .i64 o2, .int .i64 o3, .int .i64 d1, .int .i64 d2, .int .i64 d3, .int .i64 fr] 25) := ⟨_, rfl⟩
  obtain ⟨k_c, k_y, B1⟩ := st2 hW1
  rw [← hW1]
  clear hW1
  have l_y : w.heap.size < w.heap.size + 1 := by omega
  generalize w.heap.size + 1 = g_y at *
  obtain ⟨c_c_0, c_c_1, c_c_2⟩ := bwc3 (k_c)
  obtain ⟨f_c_0, f_c_1, f_c_2⟩ := bwf3 (k_c)
  obtain ⟨c_y_0, c_y_1, c_y_2, c_y_3, c_y_4, c_y_5, c_y_6⟩ := bwc7 (k_y)
  obtain ⟨p1, hp1⟩ : ∃ p : BW W1, p.w = W1 := ⟨BW.start W1, rfl⟩
  rw [← hp1]
  clear hp1
  go_upto_region 2 with (fail)
  go_upto_region 3 with (first
    | (go_at_call 17; (first | (with_reducible refine (bw_call KSc.out _).mono ?_)); rintro e w' ⟨rfl, q, rfl⟩))
  obtain ⟨W2, hW2⟩ : ∃ W, W = ((q.w.setCell ⟨w.heap.size, 0, none⟩ (.int .i64 cc1)).setCell ⟨w.heap.size, 1, none⟩ (.int .i64 cc2)).setCell ⟨w.heap.size, 2, none⟩ (.int .i64 cc3) := ⟨_, rfl⟩
  have B2 : Below w.heap.size w W2 := by rw [hW2]; exact blp3 (bw_below B1 q) (by omega)
  have k_c := bkpe3 hW2 (k_c.below q.h)
  have k_y := bkoe3 hW2 (k_y.below q.h) (by omega)
  rw [← hW2]
  clear hW2
  clear B1
  clear c_c_0 c_c_1 c_c_2 f_c_0 f_c_1 f_c_2 c_y_0 c_y_1 c_y_2 c_y_3 c_y_4 c_y_5 c_y_6
  obtain ⟨c_c_0, c_c_1, c_c_2⟩ := bwc3 (k_c)
  obtain ⟨c_y_0, c_y_1, c_y_2, c_y_3, c_y_4, c_y_5, c_y_6⟩ := bwc7 (k_y)
  obtain ⟨f_y_0, f_y_1, f_y_2, f_y_3, f_y_4, f_y_5, f_y_6⟩ := bwf7 (k_y)
  obtain ⟨p2, hp2⟩ : ∃ p : BW W2, p.w = W2 := ⟨BW.start W2, rfl⟩
  rw [← hp2]
  clear hp2
  refine wp_region_bw_tail 6 (by kernel_rfl) (by kernel_rfl) (by kernel_rfl) ?_
  simp only [List.take_succ_cons, List.take_zero, List.drop_succ_cons, List.drop_zero]
  repeat (go_big_quiet_step (first
    | (go_at_call 17; (first | (with_reducible exact bw_call KSo.out _) | (with_reducible exact bw_call KSd.out _)))))
  refine wpQuiet_nil ?_
  intro _ hw'
  obtain ⟨q, rfl⟩ := hw'
  go_upto_region 4 with (fail)
  obtain ⟨W3, hW3⟩ : ∃ W, W = ((((((q.w.setCell ⟨g_y, 0, none⟩ (.int .i64 oo1)).setCell ⟨g_y, 1, none⟩ (.int .i64 oo2)).setCell ⟨g_y, 2, none⟩ (.int .i64 oo3)).setCell ⟨g_y, 3, none⟩ (.int .i64 dd1)).setCell ⟨g_y, 4, none⟩ (.int .i64 dd2)).setCell ⟨g_y, 5, none⟩ (.int .i64 dd3)).setCell ⟨g_y, 6, none⟩ (.int .i64 (-1)) := ⟨_, rfl⟩
  have B3 : Below w.heap.size w W3 := by rw [hW3]; exact blp7 (bw_below B2 q) (by omega)
  have k_c := bkoe7 hW3 (k_c.below q.h) (by omega)
  have k_y := bkpe7 hW3 (k_y.below q.h)
  rw [← hW3]
  clear hW3
  clear B2
  clear c_c_0 c_c_1 c_c_2 c_y_0 c_y_1 c_y_2 c_y_3 c_y_4 c_y_5 c_y_6 f_y_0 f_y_1 f_y_2 f_y_3 f_y_4 f_y_5 f_y_6
  obtain ⟨c_c_0, c_c_1, c_c_2⟩ := bwc3 (k_c)
  obtain ⟨c_y_0, c_y_1, c_y_2, c_y_3, c_y_4, c_y_5, c_y_6⟩ := bwc7 (k_y)
  obtain ⟨p3, hp3⟩ : ∃ p : BW W3, p.w = W3 := ⟨BW.start W3, rfl⟩
  rw [← hp3]
  clear hp3
  go_upto_region 5 with (first
    | (go_at_call 6; (first | (with_reducible refine (bw_call KH.out _).mono ?_)); rintro e w' ⟨rfl, q, rfl⟩))
  obtain ⟨W4, hW4⟩ : ∃ W, W = q.w.alloc (.cells #[.int .i64 0, .int .i64 0] 27) := ⟨_, rfl⟩
  have B4 : Below w.heap.size w W4 := by rw [hW4]; exact (bw_below B3 q).alloc (bw_below B3 q).size _
  have l_t : g_y < q.w.heap.size := (k_y.below q.h).lt
  have o_t : w.heap.size ≤ q.w.heap.size := (bw_below B3 q).size
  have k_c := bka hW4 (k_c.below q.h)
  have k_y := bka hW4 (k_y.below q.h)
  have k_t := bkn hW4
  rw [← hW4]
  clear hW4
  clear B3
  clear c_c_0 c_c_1 c_c_2 c_y_0 c_y_1 c_y_2 c_y_3 c_y_4 c_y_5 c_y_6
  generalize q.w.heap.size = g_t at *
  obtain ⟨c_c_0, c_c_1, c_c_2⟩ := bwc3 (k_c)
  obtain ⟨c_y_0, c_y_1, c_y_2, c_y_3, c_y_4, c_y_5, c_y_6⟩ := bwc7 (k_y)
  obtain ⟨c_t_0, c_t_1⟩ := bwc2 (k_t)
  obtain ⟨p4, hp4⟩ : ∃ p : BW W4, p.w = W4 := ⟨BW.start W4, rfl⟩
  rw [← hp4]
  clear hp4
  go_wp2_with (first
    | (go_at_call 16; (first | (with_reducible refine (bw_call HA.out _).mono ?_)); rintro e w' ⟨rfl, q, rfl⟩))
  go_ret
  exact ⟨rfl, bw_below B4 _⟩

set_option maxRecDepth 100000 in
set_option maxHeartbeats 8000000 in
theorem met_in (c1 c2 c3 ru o1 o2 o3 d1 d2 d3 fr cc1 cc2 cc3 oo1 oo2 oo3 dd1 dd2 dd3 km k n n2 a v1 v2 s1 s2 : Int) (w : World) (hru : ru.tmod 2000 = km) (wru : wrap64 ru = ru) (hk : 4 + km = k) (wk : wrap64 k = k)
    (KSc : Hid (∀ w, Calls Try.prog 17 #[.agg #[.int .i64 c1, .int .i64 c2, .int .i64 c3]] w fun en w' => en = .returned (.agg #[.int .i64 cc1, .int .i64 cc2, .int .i64 cc3]) ∧ Below w.heap.size w w'))
    (KSo : Hid (∀ w, Calls Try.prog 17 #[.agg #[.int .i64 o1, .int .i64 o2, .int .i64 o3]] w fun en w' => en = .returned (.agg #[.int .i64 oo1, .int .i64 oo2, .int .i64 oo3]) ∧ Below w.heap.size w w'))
    (KSd : Hid (∀ w, Calls Try.prog 17 #[.agg #[.int .i64 d1, .int .i64 d2, .int .i64 d3]] w fun en w' => en = .returned (.agg #[.int .i64 dd1, .int .i64 dd2, .int .i64 dd3]) ∧ Below w.heap.size w w')) (t1 : decide (n < 1) = false) (t2 : decide (a < 1) = false) (t3 : decide (s1 ≤ 0) = true) (t4 : decide (0 < s2) = true) (e2 : n + 1 = n2) (w2 : wrap64 n2 = n2) (w3 : IntKind.i64.wrap n2 = n2) (KH : Hid (∀ w, Calls Try.prog 6 #[.agg #[.int .i64 cc1, .int .i64 cc2, .int .i64 cc3], .int .i64 k, .agg #[.int .i64 oo1, .int .i64 oo2, .int .i64 oo3, .int .i64 dd1, .int .i64 dd2, .int .i64 dd3, .int .i64 (-1)]] w fun en w' => en = .returned (.tuple #[.agg #[.int .i64 n, .int .i64 a], .bool true]) ∧ Below w.heap.size w w')) (KI : Hid (∀ w, Calls Try.prog 14 #[.agg #[.int .i64 cc1, .int .i64 cc2, .int .i64 cc3], .int .i64 k, .agg #[.int .i64 oo1, .int .i64 oo2, .int .i64 oo3]] w fun en w' => en = .returned (.bool true) ∧ Below w.heap.size w w')) (KV1 : Hid (∀ w, Calls Try.prog 18 #[.agg #[.int .i64 cc1, .int .i64 cc2, .int .i64 cc3], .int .i64 k, .agg #[.int .i64 oo1, .int .i64 oo2, .int .i64 oo3, .int .i64 dd1, .int .i64 dd2, .int .i64 dd3, .int .i64 (-1)], .int .i64 n, .int .i64 a] w fun en w' => en = .returned (.agg #[.int .i64 (hii (v1)), .int .u64 (lon (v1) : Int)]) ∧ Below w.heap.size w w')) (KV2 : Hid (∀ w, Calls Try.prog 18 #[.agg #[.int .i64 cc1, .int .i64 cc2, .int .i64 cc3], .int .i64 k, .agg #[.int .i64 oo1, .int .i64 oo2, .int .i64 oo3, .int .i64 dd1, .int .i64 dd2, .int .i64 dd3, .int .i64 (-1)], .int .i64 n2, .int .i64 a] w fun en w' => en = .returned (.agg #[.int .i64 (hii (v2)), .int .u64 (lon (v2) : Int)]) ∧ Below w.heap.size w w')) (KC1 : Hid (∀ w, Calls Try.prog 19 #[.agg #[.int .i64 (hii (v1)), .int .u64 (lon (v1) : Int)], .agg #[.int .i64 0, .int .u64 0]] w fun en w' => en = .returned (.int .i64 s1) ∧ Below w.heap.size w w')) (KC2 : Hid (∀ w, Calls Try.prog 19 #[.agg #[.int .i64 (hii (v2)), .int .u64 (lon (v2) : Int)], .agg #[.int .i64 0, .int .u64 0]] w fun en w' => en = .returned (.int .i64 s2) ∧ Below w.heap.size w w')) :
    Calls Try.prog 4 #[.agg #[.int .i64 c1, .int .i64 c2, .int .i64 c3], .int .u16 ru, .agg #[.int .i64 o1, .int .i64 o2, .int .i64 o3, .int .i64 d1, .int .i64 d2, .int .i64 d3, .int .i64 fr]] w fun en w' => en = .returned (.bool true) ∧ Below w.heap.size w w' := by
  have HA := Lib.hid (fun w => awake12 w)
  generalize hii v1 = v1h at *
  generalize lon v1 = v1l at *
  generalize hii v2 = v2h at *
  generalize lon v2 = v2l at *
  go_enter Try.func4, Try.ntmps4
  go_upto_region 1 with (fail)
  obtain ⟨W1, hW1⟩ : ∃ W, W = (w.alloc (.cells #[.int .i64 c1, .int .i64 c2, .int .i64 c3] 23)).alloc (.cells #[.int .i64 o1, .int .i64 o2, .int .i64 o3, .int .i64 d1, .int .i64 d2, .int .i64 d3, .int .i64 fr] 25) := ⟨_, rfl⟩
  obtain ⟨k_c, k_y, B1⟩ := st2 hW1
  rw [← hW1]
  clear hW1
  have l_y : w.heap.size < w.heap.size + 1 := by omega
  generalize w.heap.size + 1 = g_y at *
  obtain ⟨c_c_0, c_c_1, c_c_2⟩ := bwc3 (k_c)
  obtain ⟨f_c_0, f_c_1, f_c_2⟩ := bwf3 (k_c)
  obtain ⟨c_y_0, c_y_1, c_y_2, c_y_3, c_y_4, c_y_5, c_y_6⟩ := bwc7 (k_y)
  obtain ⟨p1, hp1⟩ : ∃ p : BW W1, p.w = W1 := ⟨BW.start W1, rfl⟩
  rw [← hp1]
  clear hp1
  go_upto_region 2 with (fail)
  go_upto_region 3 with (first
    | (go_at_call 17; (first | (with_reducible refine (bw_call KSc.out _).mono ?_)); rintro e w' ⟨rfl, q, rfl⟩))
  obtain ⟨W2, hW2⟩ : ∃ W, W = ((q.w.setCell ⟨w.heap.size, 0, none⟩ (.int .i64 cc1)).setCell ⟨w.heap.size, 1, none⟩ (.int .i64 cc2)).setCell ⟨w.heap.size, 2, none⟩ (.int .i64 cc3) := ⟨_, rfl⟩
  have B2 : Below w.heap.size w W2 := by rw [hW2]; exact blp3 (bw_below B1 q) (by omega)
  have k_c := bkpe3 hW2 (k_c.below q.h)
  have k_y := bkoe3 hW2 (k_y.below q.h) (by omega)
  rw [← hW2]
  clear hW2
  clear B1
  clear c_c_0 c_c_1 c_c_2 f_c_0 f_c_1 f_c_2 c_y_0 c_y_1 c_y_2 c_y_3 c_y_4 c_y_5 c_y_6
  obtain ⟨c_c_0, c_c_1, c_c_2⟩ := bwc3 (k_c)
  obtain ⟨c_y_0, c_y_1, c_y_2, c_y_3, c_y_4, c_y_5, c_y_6⟩ := bwc7 (k_y)
  obtain ⟨f_y_0, f_y_1, f_y_2, f_y_3, f_y_4, f_y_5, f_y_6⟩ := bwf7 (k_y)
  obtain ⟨p2, hp2⟩ : ∃ p : BW W2, p.w = W2 := ⟨BW.start W2, rfl⟩
  rw [← hp2]
  clear hp2
  refine wp_region_bw_tail 6 (by kernel_rfl) (by kernel_rfl) (by kernel_rfl) ?_
  simp only [List.take_succ_cons, List.take_zero, List.drop_succ_cons, List.drop_zero]
  repeat (go_big_quiet_step (first
    | (go_at_call 17; (first | (with_reducible exact bw_call KSo.out _) | (with_reducible exact bw_call KSd.out _)))))
  refine wpQuiet_nil ?_
  intro _ hw'
  obtain ⟨q, rfl⟩ := hw'
  go_upto_region 4 with (fail)
  obtain ⟨W3, hW3⟩ : ∃ W, W = ((((((q.w.setCell ⟨g_y, 0, none⟩ (.int .i64 oo1)).setCell ⟨g_y, 1, none⟩ (.int .i64 oo2)).setCell ⟨g_y, 2, none⟩ (.int .i64 oo3)).setCell ⟨g_y, 3, none⟩ (.int .i64 dd1)).setCell ⟨g_y, 4, none⟩ (.int .i64 dd2)).setCell ⟨g_y, 5, none⟩ (.int .i64 dd3)).setCell ⟨g_y, 6, none⟩ (.int .i64 (-1)) := ⟨_, rfl⟩
  have B3 : Below w.heap.size w W3 := by rw [hW3]; exact blp7 (bw_below B2 q) (by omega)
  have k_c := bkoe7 hW3 (k_c.below q.h) (by omega)
  have k_y := bkpe7 hW3 (k_y.below q.h)
  rw [← hW3]
  clear hW3
  clear B2
  clear c_c_0 c_c_1 c_c_2 c_y_0 c_y_1 c_y_2 c_y_3 c_y_4 c_y_5 c_y_6 f_y_0 f_y_1 f_y_2 f_y_3 f_y_4 f_y_5 f_y_6
  obtain ⟨c_c_0, c_c_1, c_c_2⟩ := bwc3 (k_c)
  obtain ⟨c_y_0, c_y_1, c_y_2, c_y_3, c_y_4, c_y_5, c_y_6⟩ := bwc7 (k_y)
  obtain ⟨p3, hp3⟩ : ∃ p : BW W3, p.w = W3 := ⟨BW.start W3, rfl⟩
  rw [← hp3]
  clear hp3
  go_upto_region 5 with (first
    | (go_at_call 6; (first | (with_reducible refine (bw_call KH.out _).mono ?_)); rintro e w' ⟨rfl, q, rfl⟩))
  obtain ⟨W4, hW4⟩ : ∃ W, W = q.w.alloc (.cells #[.int .i64 n, .int .i64 a] 27) := ⟨_, rfl⟩
  have B4 : Below w.heap.size w W4 := by rw [hW4]; exact (bw_below B3 q).alloc (bw_below B3 q).size _
  have l_t : g_y < q.w.heap.size := (k_y.below q.h).lt
  have o_t : w.heap.size ≤ q.w.heap.size := (bw_below B3 q).size
  have k_c := bka hW4 (k_c.below q.h)
  have k_y := bka hW4 (k_y.below q.h)
  have k_t := bkn hW4
  rw [← hW4]
  clear hW4
  clear B3
  clear c_c_0 c_c_1 c_c_2 c_y_0 c_y_1 c_y_2 c_y_3 c_y_4 c_y_5 c_y_6
  generalize q.w.heap.size = g_t at *
  obtain ⟨c_c_0, c_c_1, c_c_2⟩ := bwc3 (k_c)
  obtain ⟨c_y_0, c_y_1, c_y_2, c_y_3, c_y_4, c_y_5, c_y_6⟩ := bwc7 (k_y)
  obtain ⟨c_t_0, c_t_1⟩ := bwc2 (k_t)
  obtain ⟨p4, hp4⟩ : ∃ p : BW W4, p.w = W4 := ⟨BW.start W4, rfl⟩
  rw [← hp4]
  clear hp4
  go_upto_region 10 with (first
    | (go_at_call 18; (first | (with_reducible refine (bw_call KV1.out _).mono ?_)); rintro e w' ⟨rfl, q, rfl⟩))
  obtain ⟨W5, hW5⟩ : ∃ W, W = q.w.alloc (.cells #[.int .i64 v1h, .int .u64 (v1l : Int)] 39) := ⟨_, rfl⟩
  have B5 : Below w.heap.size w W5 := by rw [hW5]; exact (bw_below B4 q).alloc (bw_below B4 q).size _
  have l_v : g_t < q.w.heap.size := (k_t.below q.h).lt
  have o_v : w.heap.size ≤ q.w.heap.size := (bw_below B4 q).size
  have k_c := bka hW5 (k_c.below q.h)
  have k_y := bka hW5 (k_y.below q.h)
  have k_t := bka hW5 (k_t.below q.h)
  have k_v := bkn hW5
  rw [← hW5]
  clear hW5
  clear B4
  clear c_c_0 c_c_1 c_c_2 c_y_0 c_y_1 c_y_2 c_y_3 c_y_4 c_y_5 c_y_6 c_t_0 c_t_1
  generalize q.w.heap.size = g_v at *
  obtain ⟨c_c_0, c_c_1, c_c_2⟩ := bwc3 (k_c)
  obtain ⟨c_y_0, c_y_1, c_y_2, c_y_3, c_y_4, c_y_5, c_y_6⟩ := bwc7 (k_y)
  obtain ⟨c_t_0, c_t_1⟩ := bwc2 (k_t)
  obtain ⟨c_v_0, c_v_1⟩ := bwc2 (k_v)
  obtain ⟨p5, hp5⟩ : ∃ p : BW W5, p.w = W5 := ⟨BW.start W5, rfl⟩
  rw [← hp5]
  clear hp5
  go_upto_region 11 with (fail)
  obtain ⟨W6, hW6⟩ : ∃ W, W = p5.w.alloc (.cells #[.int .i64 0, .int .u64 0] 39) := ⟨_, rfl⟩
  have B6 : Below w.heap.size w W6 := by rw [hW6]; exact (bw_below B5 p5).alloc (bw_below B5 p5).size _
  have l_z : g_v < p5.w.heap.size := (k_v.below p5.h).lt
  have o_z : w.heap.size ≤ p5.w.heap.size := (bw_below B5 p5).size
  have k_c := bka hW6 (k_c.below p5.h)
  have k_y := bka hW6 (k_y.below p5.h)
  have k_t := bka hW6 (k_t.below p5.h)
  have k_v := bka hW6 (k_v.below p5.h)
  have k_z := bkn hW6
  rw [← hW6]
  clear hW6
  clear B5
  clear c_c_0 c_c_1 c_c_2 c_y_0 c_y_1 c_y_2 c_y_3 c_y_4 c_y_5 c_y_6 c_t_0 c_t_1 c_v_0 c_v_1
  generalize p5.w.heap.size = g_z at *
  obtain ⟨c_c_0, c_c_1, c_c_2⟩ := bwc3 (k_c)
  obtain ⟨c_y_0, c_y_1, c_y_2, c_y_3, c_y_4, c_y_5, c_y_6⟩ := bwc7 (k_y)
  obtain ⟨c_t_0, c_t_1⟩ := bwc2 (k_t)
  obtain ⟨c_v_0, c_v_1⟩ := bwc2 (k_v)
  obtain ⟨c_z_0, c_z_1⟩ := bwc2 (k_z)
  obtain ⟨p6, hp6⟩ : ∃ p : BW W6, p.w = W6 := ⟨BW.start W6, rfl⟩
  rw [← hp6]
  clear hp6
  go_upto_region 12 with (first
    | (go_at_call 14; (first | (with_reducible refine (bw_call KI.out _).mono ?_)); rintro e w' ⟨rfl, q, rfl⟩))
  refine wp_region_bw (by kernel_rfl) (by kernel_rfl) ?_
  repeat (go_big_quiet_step (first
    | (go_at_call 19; (first | (with_reducible exact bw_call KC1.out _) | (with_reducible exact bw_call KC2.out _)))
    | (go_at_call 18; (first | (with_reducible exact bw_call KV2.out _)))
    | (go_at_call 16; (first | (with_reducible exact bw_call HA.out _)))))
  refine wpQuiet_nil ?_
  intro _ hw'
  obtain ⟨q, rfl⟩ := hw'
  go_wp2
  go_ret
  exact ⟨rfl, bw_below B6 _⟩

set_option maxRecDepth 100000 in
set_option maxHeartbeats 8000000 in
theorem met_out (c1 c2 c3 ru o1 o2 o3 d1 d2 d3 fr cc1 cc2 cc3 oo1 oo2 oo3 dd1 dd2 dd3 km k n n2 a v1 v2 s1 s2 : Int) (w : World) (hru : ru.tmod 2000 = km) (wru : wrap64 ru = ru) (hk : 4 + km = k) (wk : wrap64 k = k)
    (KSc : Hid (∀ w, Calls Try.prog 17 #[.agg #[.int .i64 c1, .int .i64 c2, .int .i64 c3]] w fun en w' => en = .returned (.agg #[.int .i64 cc1, .int .i64 cc2, .int .i64 cc3]) ∧ Below w.heap.size w w'))
    (KSo : Hid (∀ w, Calls Try.prog 17 #[.agg #[.int .i64 o1, .int .i64 o2, .int .i64 o3]] w fun en w' => en = .returned (.agg #[.int .i64 oo1, .int .i64 oo2, .int .i64 oo3]) ∧ Below w.heap.size w w'))
    (KSd : Hid (∀ w, Calls Try.prog 17 #[.agg #[.int .i64 d1, .int .i64 d2, .int .i64 d3]] w fun en w' => en = .returned (.agg #[.int .i64 dd1, .int .i64 dd2, .int .i64 dd3]) ∧ Below w.heap.size w w')) (t1 : decide (n < 1) = false) (t2 : decide (a < 1) = false) (t3 : decide (s1 ≤ 0) = true) (t4 : decide (0 < s2) = true) (e2 : n - 1 = n2) (w2 : wrap64 n2 = n2) (w3 : IntKind.i64.wrap n2 = n2) (KH : Hid (∀ w, Calls Try.prog 6 #[.agg #[.int .i64 cc1, .int .i64 cc2, .int .i64 cc3], .int .i64 k, .agg #[.int .i64 oo1, .int .i64 oo2, .int .i64 oo3, .int .i64 dd1, .int .i64 dd2, .int .i64 dd3, .int .i64 (-1)]] w fun en w' => en = .returned (.tuple #[.agg #[.int .i64 n, .int .i64 a], .bool true]) ∧ Below w.heap.size w w')) (KI : Hid (∀ w, Calls Try.prog 14 #[.agg #[.int .i64 cc1, .int .i64 cc2, .int .i64 cc3], .int .i64 k, .agg #[.int .i64 oo1, .int .i64 oo2, .int .i64 oo3]] w fun en w' => en = .returned (.bool false) ∧ Below w.heap.size w w')) (KV1 : Hid (∀ w, Calls Try.prog 18 #[.agg #[.int .i64 cc1, .int .i64 cc2, .int .i64 cc3], .int .i64 k, .agg #[.int .i64 oo1, .int .i64 oo2, .int .i64 oo3, .int .i64 dd1, .int .i64 dd2, .int .i64 dd3, .int .i64 (-1)], .int .i64 n, .int .i64 a] w fun en w' => en = .returned (.agg #[.int .i64 (hii (v1)), .int .u64 (lon (v1) : Int)]) ∧ Below w.heap.size w w')) (KV2 : Hid (∀ w, Calls Try.prog 18 #[.agg #[.int .i64 cc1, .int .i64 cc2, .int .i64 cc3], .int .i64 k, .agg #[.int .i64 oo1, .int .i64 oo2, .int .i64 oo3, .int .i64 dd1, .int .i64 dd2, .int .i64 dd3, .int .i64 (-1)], .int .i64 n2, .int .i64 a] w fun en w' => en = .returned (.agg #[.int .i64 (hii (v2)), .int .u64 (lon (v2) : Int)]) ∧ Below w.heap.size w w')) (KC1 : Hid (∀ w, Calls Try.prog 19 #[.agg #[.int .i64 (hii (v1)), .int .u64 (lon (v1) : Int)], .agg #[.int .i64 0, .int .u64 0]] w fun en w' => en = .returned (.int .i64 s1) ∧ Below w.heap.size w w')) (KC2 : Hid (∀ w, Calls Try.prog 19 #[.agg #[.int .i64 (hii (v2)), .int .u64 (lon (v2) : Int)], .agg #[.int .i64 0, .int .u64 0]] w fun en w' => en = .returned (.int .i64 s2) ∧ Below w.heap.size w w')) :
    Calls Try.prog 4 #[.agg #[.int .i64 c1, .int .i64 c2, .int .i64 c3], .int .u16 ru, .agg #[.int .i64 o1, .int .i64 o2, .int .i64 o3, .int .i64 d1, .int .i64 d2, .int .i64 d3, .int .i64 fr]] w fun en w' => en = .returned (.bool true) ∧ Below w.heap.size w w' := by
  have HA := Lib.hid (fun w => awake12 w)
  generalize hii v1 = v1h at *
  generalize lon v1 = v1l at *
  generalize hii v2 = v2h at *
  generalize lon v2 = v2l at *
  go_enter Try.func4, Try.ntmps4
  go_upto_region 1 with (fail)
  obtain ⟨W1, hW1⟩ : ∃ W, W = (w.alloc (.cells #[.int .i64 c1, .int .i64 c2, .int .i64 c3] 23)).alloc (.cells #[.int .i64 o1, .int .i64 o2, .int .i64 o3, .int .i64 d1, .int .i64 d2, .int .i64 d3, .int .i64 fr] 25) := ⟨_, rfl⟩
  obtain ⟨k_c, k_y, B1⟩ := st2 hW1
  rw [← hW1]
  clear hW1
  have l_y : w.heap.size < w.heap.size + 1 := by omega
  generalize w.heap.size + 1 = g_y at *
  obtain ⟨c_c_0, c_c_1, c_c_2⟩ := bwc3 (k_c)
  obtain ⟨f_c_0, f_c_1, f_c_2⟩ := bwf3 (k_c)
  obtain ⟨c_y_0, c_y_1, c_y_2, c_y_3, c_y_4, c_y_5, c_y_6⟩ := bwc7 (k_y)
  obtain ⟨p1, hp1⟩ : ∃ p : BW W1, p.w = W1 := ⟨BW.start W1, rfl⟩
  rw [← hp1]
  clear hp1
  go_upto_region 2 with (fail)
  go_upto_region 3 with (first
    | (go_at_call 17; (first | (with_reducible refine (bw_call KSc.out _).mono ?_)); rintro e w' ⟨rfl, q, rfl⟩))
  obtain ⟨W2, hW2⟩ : ∃ W, W = ((q.w.setCell ⟨w.heap.size, 0, none⟩ (.int .i64 cc1)).setCell ⟨w.heap.size, 1, none⟩ (.int .i64 cc2)).setCell ⟨w.heap.size, 2, none⟩ (.int .i64 cc3) := ⟨_, rfl⟩
  have B2 : Below w.heap.size w W2 := by rw [hW2]; exact blp3 (bw_below B1 q) (by omega)
  have k_c := bkpe3 hW2 (k_c.below q.h)
  have k_y := bkoe3 hW2 (k_y.below q.h) (by omega)
  rw [← hW2]
  clear hW2
  clear B1
  clear c_c_0 c_c_1 c_c_2 f_c_0 f_c_1 f_c_2 c_y_0 c_y_1 c_y_2 c_y_3 c_y_4 c_y_5 c_y_6
  obtain ⟨c_c_0, c_c_1, c_c_2⟩ := bwc3 (k_c)
  obtain ⟨c_y_0, c_y_1, c_y_2, c_y_3, c_y_4, c_y_5, c_y_6⟩ := bwc7 (k_y)
  obtain ⟨f_y_0, f_y_1, f_y_2, f_y_3, f_y_4, f_y_5, f_y_6⟩ := bwf7 (k_y)
  obtain ⟨p2, hp2⟩ : ∃ p : BW W2, p.w = W2 := ⟨BW.start W2, rfl⟩
  rw [← hp2]
  clear hp2
  refine wp_region_bw_tail 6 (by kernel_rfl) (by kernel_rfl) (by kernel_rfl) ?_
  simp only [List.take_succ_cons, List.take_zero, List.drop_succ_cons, List.drop_zero]
  repeat (go_big_quiet_step (first
    | (go_at_call 17; (first | (with_reducible exact bw_call KSo.out _) | (with_reducible exact bw_call KSd.out _)))))
  refine wpQuiet_nil ?_
  intro _ hw'
  obtain ⟨q, rfl⟩ := hw'
  go_upto_region 4 with (fail)
  obtain ⟨W3, hW3⟩ : ∃ W, W = ((((((q.w.setCell ⟨g_y, 0, none⟩ (.int .i64 oo1)).setCell ⟨g_y, 1, none⟩ (.int .i64 oo2)).setCell ⟨g_y, 2, none⟩ (.int .i64 oo3)).setCell ⟨g_y, 3, none⟩ (.int .i64 dd1)).setCell ⟨g_y, 4, none⟩ (.int .i64 dd2)).setCell ⟨g_y, 5, none⟩ (.int .i64 dd3)).setCell ⟨g_y, 6, none⟩ (.int .i64 (-1)) := ⟨_, rfl⟩
  have B3 : Below w.heap.size w W3 := by rw [hW3]; exact blp7 (bw_below B2 q) (by omega)
  have k_c := bkoe7 hW3 (k_c.below q.h) (by omega)
  have k_y := bkpe7 hW3 (k_y.below q.h)
  rw [← hW3]
  clear hW3
  clear B2
  clear c_c_0 c_c_1 c_c_2 c_y_0 c_y_1 c_y_2 c_y_3 c_y_4 c_y_5 c_y_6 f_y_0 f_y_1 f_y_2 f_y_3 f_y_4 f_y_5 f_y_6
  obtain ⟨c_c_0, c_c_1, c_c_2⟩ := bwc3 (k_c)
  obtain ⟨c_y_0, c_y_1, c_y_2, c_y_3, c_y_4, c_y_5, c_y_6⟩ := bwc7 (k_y)
  obtain ⟨p3, hp3⟩ : ∃ p : BW W3, p.w = W3 := ⟨BW.start W3, rfl⟩
  rw [← hp3]
  clear hp3
  go_upto_region 5 with (first
    | (go_at_call 6; (first | (with_reducible refine (bw_call KH.out _).mono ?_)); rintro e w' ⟨rfl, q, rfl⟩))
  obtain ⟨W4, hW4⟩ : ∃ W, W = q.w.alloc (.cells #[.int .i64 n, .int .i64 a] 27) := ⟨_, rfl⟩
  have B4 : Below w.heap.size w W4 := by rw [hW4]; exact (bw_below B3 q).alloc (bw_below B3 q).size _
  have l_t : g_y < q.w.heap.size := (k_y.below q.h).lt
  have o_t : w.heap.size ≤ q.w.heap.size := (bw_below B3 q).size
  have k_c := bka hW4 (k_c.below q.h)
  have k_y := bka hW4 (k_y.below q.h)
  have k_t := bkn hW4
  rw [← hW4]
  clear hW4
  clear B3
  clear c_c_0 c_c_1 c_c_2 c_y_0 c_y_1 c_y_2 c_y_3 c_y_4 c_y_5 c_y_6
  generalize q.w.heap.size = g_t at *
  obtain ⟨c_c_0, c_c_1, c_c_2⟩ := bwc3 (k_c)
  obtain ⟨c_y_0, c_y_1, c_y_2, c_y_3, c_y_4, c_y_5, c_y_6⟩ := bwc7 (k_y)
  obtain ⟨c_t_0, c_t_1⟩ := bwc2 (k_t)
  obtain ⟨p4, hp4⟩ : ∃ p : BW W4, p.w = W4 := ⟨BW.start W4, rfl⟩
  rw [← hp4]
  clear hp4
  go_upto_region 10 with (first
    | (go_at_call 18; (first | (with_reducible refine (bw_call KV1.out _).mono ?_)); rintro e w' ⟨rfl, q, rfl⟩))
  obtain ⟨W5, hW5⟩ : ∃ W, W = q.w.alloc (.cells #[.int .i64 v1h, .int .u64 (v1l : Int)] 39) := ⟨_, rfl⟩
  have B5 : Below w.heap.size w W5 := by rw [hW5]; exact (bw_below B4 q).alloc (bw_below B4 q).size _
  have l_v : g_t < q.w.heap.size := (k_t.below q.h).lt
  have o_v : w.heap.size ≤ q.w.heap.size := (bw_below B4 q).size
  have k_c := bka hW5 (k_c.below q.h)
  have k_y := bka hW5 (k_y.below q.h)
  have k_t := bka hW5 (k_t.below q.h)
  have k_v := bkn hW5
  rw [← hW5]
  clear hW5
  clear B4
  clear c_c_0 c_c_1 c_c_2 c_y_0 c_y_1 c_y_2 c_y_3 c_y_4 c_y_5 c_y_6 c_t_0 c_t_1
  generalize q.w.heap.size = g_v at *
  obtain ⟨c_c_0, c_c_1, c_c_2⟩ := bwc3 (k_c)
  obtain ⟨c_y_0, c_y_1, c_y_2, c_y_3, c_y_4, c_y_5, c_y_6⟩ := bwc7 (k_y)
  obtain ⟨c_t_0, c_t_1⟩ := bwc2 (k_t)
  obtain ⟨c_v_0, c_v_1⟩ := bwc2 (k_v)
  obtain ⟨p5, hp5⟩ : ∃ p : BW W5, p.w = W5 := ⟨BW.start W5, rfl⟩
  rw [← hp5]
  clear hp5
  go_upto_region 11 with (fail)
  obtain ⟨W6, hW6⟩ : ∃ W, W = p5.w.alloc (.cells #[.int .i64 0, .int .u64 0] 39) := ⟨_, rfl⟩
  have B6 : Below w.heap.size w W6 := by rw [hW6]; exact (bw_below B5 p5).alloc (bw_below B5 p5).size _
  have l_z : g_v < p5.w.heap.size := (k_v.below p5.h).lt
  have o_z : w.heap.size ≤ p5.w.heap.size := (bw_below B5 p5).size
  have k_c := bka hW6 (k_c.below p5.h)
  have k_y := bka hW6 (k_y.below p5.h)
  have k_t := bka hW6 (k_t.below p5.h)
  have k_v := bka hW6 (k_v.below p5.h)
  have k_z := bkn hW6
  rw [← hW6]
  clear hW6
  clear B5
  clear c_c_0 c_c_1 c_c_2 c_y_0 c_y_1 c_y_2 c_y_3 c_y_4 c_y_5 c_y_6 c_t_0 c_t_1 c_v_0 c_v_1
  generalize p5.w.heap.size = g_z at *
  obtain ⟨c_c_0, c_c_1, c_c_2⟩ := bwc3 (k_c)
  obtain ⟨c_y_0, c_y_1, c_y_2, c_y_3, c_y_4, c_y_5, c_y_6⟩ := bwc7 (k_y)
  obtain ⟨c_t_0, c_t_1⟩ := bwc2 (k_t)
  obtain ⟨c_v_0, c_v_1⟩ := bwc2 (k_v)
  obtain ⟨c_z_0, c_z_1⟩ := bwc2 (k_z)
  obtain ⟨p6, hp6⟩ : ∃ p : BW W6, p.w = W6 := ⟨BW.start W6, rfl⟩
  rw [← hp6]
  clear hp6
  go_upto_region 13 with (first
    | (go_at_call 14; (first | (with_reducible refine (bw_call KI.out _).mono ?_)); rintro e w' ⟨rfl, q, rfl⟩))
  refine wp_region_bw (by kernel_rfl) (by kernel_rfl) ?_
  repeat (go_big_quiet_step (first
    | (go_at_call 19; (first | (with_reducible exact bw_call KC1.out _) | (with_reducible exact bw_call KC2.out _)))
    | (go_at_call 18; (first | (with_reducible exact bw_call KV2.out _)))
    | (go_at_call 16; (first | (with_reducible exact bw_call HA.out _)))))
  refine wpQuiet_nil ?_
  intro _ hw'
  obtain ⟨q, rfl⟩ := hw'
  go_wp2
  go_ret
  exact ⟨rfl, bw_below B6 _⟩

set_option maxRecDepth 100000 in
set_option maxHeartbeats 8000000 in
theorem law_BallMet (c1 c2 c3 ru o1 o2 o3 d1 d2 d3 fr : Int) (w : World) (hru : 0 ≤ ru ∧ ru ≤ 65535) :
    Calls Try.prog 4 #[.agg #[.int .i64 c1, .int .i64 c2, .int .i64 c3], .int .u16 ru, .agg #[.int .i64 o1, .int .i64 o2, .int .i64 o3, .int .i64 d1, .int .i64 d2, .int .i64 d3, .int .i64 fr]] w fun en w' => en = .returned (.bool true) ∧ Below w.heap.size w w' := by
  have tm : ∀ u : Int, -1999 ≤ u.tmod 2000 ∧ u.tmod 2000 ≤ 1999 := fun u => by
    have a := Int.tmod_lt_of_pos u (show (0 : Int) < 2000 by omega)
    have b := Int.lt_tmod_of_pos u (show (0 : Int) < 2000 by omega)
    omega
  have KSc := Lib.hid (fun w => law12_small c1 c2 c3 w)
  have icc1 := tm c1
  generalize c1.tmod 2000 = cc1 at *
  have icc2 := tm c2
  generalize c2.tmod 2000 = cc2 at *
  have icc3 := tm c3
  generalize c3.tmod 2000 = cc3 at *
  have KSo := Lib.hid (fun w => law12_small o1 o2 o3 w)
  have ioo1 := tm o1
  generalize o1.tmod 2000 = oo1 at *
  have ioo2 := tm o2
  generalize o2.tmod 2000 = oo2 at *
  have ioo3 := tm o3
  generalize o3.tmod 2000 = oo3 at *
  have KSd := Lib.hid (fun w => law12_small d1 d2 d3 w)
  have idd1 := tm d1
  generalize d1.tmod 2000 = dd1 at *
  have idd2 := tm d2
  generalize d2.tmod 2000 = dd2 at *
  have idd3 := tm d3
  generalize d3.tmod 2000 = dd3 at *
  obtain ⟨km, hkm⟩ : ∃ t, ru.tmod 2000 = t := ⟨_, rfl⟩
  have ikm : 0 ≤ km ∧ km ≤ 1999 := by rw [← hkm, Int.tmod_eq_emod_of_nonneg (by omega)]; omega
  have wru : wrap64 ru = ru := IntWalk.wrap64_in _ (by omega)
  obtain ⟨k, hk⟩ : ∃ t, 4 + km = t := ⟨_, rfl⟩
  have wk : wrap64 k = k := IntWalk.wrap64_in _ (by omega)
  have ik : 4 ≤ k ∧ k ≤ 2003 := by omega
  have ipc : plc (cc1, cc2, cc3) = true := plc_iff.2 (by dsimp only; omega)
  have ipo : plc (oo1, oo2, oo3) = true := plc_iff.2 (by dsimp only; omega)
  have ind : nrT (dd1, dd2, dd3) = true := by unfold nrT; rw [vnear_iff]; dsimp only; omega
  have KH := Lib.hid (fun w => ball_Hit cc1 cc2 cc3 k oo1 oo2 oo3 dd1 dd2 dd3 (-1) w (plc_I3 ipc) (by unfold I64; omega) (plc_I3 ipo) (nrT_I3 ind))
  cases hok : (ballH (cc1, cc2, cc3) k (oo1, oo2, oo3) (dd1, dd2, dd3)).2 with
  | false =>
    have e := ballH_none hok
    rw [hok, e] at KH
    exact met_no c1 c2 c3 ru o1 o2 o3 d1 d2 d3 fr cc1 cc2 cc3 oo1 oo2 oo3 dd1 dd2 dd3 km k w hkm wru hk wk KSc KSo KSd KH
  | true =>
    obtain ⟨n, e1, e2, e3, e4, e5, e6, e7, e8, e9, e10⟩ := ballH_met ik (c := (cc1, cc2, cc3)) (o := (oo1, oo2, oo3)) (d := (dd1, dd2, dd3)) ⟨icc1, icc2, icc3⟩ ⟨ioo1, ioo2, ioo3⟩ ⟨idd1, idd2, idd3⟩ hok
    rw [hok, e1] at KH
    dsimp only at KH
    have KI := Lib.hid (fun w => ball_Inside cc1 cc2 cc3 k oo1 oo2 oo3 w (plc_I3 ipc) (by unfold I64; omega) (plc_I3 ipo))
    have ei : ballI (cc1, cc2, cc3) k (oo1, oo2, oo3) = decide (ballQ (cc1, cc2, cc3) k (oo1, oo2, oo3) ≤ 0) := by
      unfold ballI ballR ballQ
      rw [ipc, ipo, Bool.true_and, Bool.true_and, decide_eq_true (show 4 ≤ k ∧ k ≤ 262144 by omega), Bool.true_and, decide_eq_decide]
      omega
    rw [ei] at KI
    have V1 : ∀ m : Nat, (m : Int) ≤ 50000001 → ∀ w, Calls Try.prog 18 #[.agg #[.int .i64 cc1, .int .i64 cc2, .int .i64 cc3], .int .i64 k, .agg #[.int .i64 oo1, .int .i64 oo2, .int .i64 oo3, .int .i64 dd1, .int .i64 dd2, .int .i64 dd3, .int .i64 (-1)], .int .i64 (m : Int), .int .i64 (dtT (dd1, dd2, dd3) (dd1, dd2, dd3))] w fun en w' => en = .returned (.agg #[.int .i64 (hii (ballV (dtT (dd1, dd2, dd3) (dd1, dd2, dd3)) (dtT (sbT (oo1, oo2, oo3) (cc1, cc2, cc3)) (dd1, dd2, dd3)) (ballQ (cc1, cc2, cc3) k (oo1, oo2, oo3)) (m : Int) (dtT (dd1, dd2, dd3) (dd1, dd2, dd3)))), .int .u64 (lon (ballV (dtT (dd1, dd2, dd3) (dd1, dd2, dd3)) (dtT (sbT (oo1, oo2, oo3) (cc1, cc2, cc3)) (dd1, dd2, dd3)) (ballQ (cc1, cc2, cc3) k (oo1, oo2, oo3)) (m : Int) (dtT (dd1, dd2, dd3) (dd1, dd2, dd3))) : Int)]) ∧ Below w.heap.size w w' := fun m hm w => by
      have h := ref12_Value cc1 cc2 cc3 k oo1 oo2 oo3 dd1 dd2 dd3 (-1) m (dtT (dd1, dd2, dd3) (dd1, dd2, dd3)).toNat w ipc ipo ind (by omega) (by omega) (by omega)
      rw [Int.toNat_of_nonneg (by omega)] at h
      exact h
    have C1 := fun (v : Int) (hv : W128 v) => fun w => ref2_Cmp v 0 w hv (by unfold W128; omega)
    rw [show hii 0 = 0 from rfl, show lon 0 = 0 from rfl] at C1
    generalize dtT (dd1, dd2, dd3) (dd1, dd2, dd3) = a at *
    generalize dtT (sbT (oo1, oo2, oo3) (cc1, cc2, cc3)) (dd1, dd2, dd3) = b at *
    generalize ballQ (cc1, cc2, cc3) k (oo1, oo2, oo3) = q at *
    obtain ⟨m, rfl⟩ := Int.eq_ofNat_of_zero_le (show 0 ≤ n by omega)
    have VA := Lib.hid (V1 m (by omega))
    have w1 := ballV_in (n := (m : Int)) ⟨by omega, e5⟩ e6 e7 (by omega)
    have CA := Lib.hid (C1 _ w1)
    have t1 : decide ((m : Int) < 1) = false := decide_eq_false (by omega)
    have t2 : decide (a < 1) = false := decide_eq_false (by omega)
    by_cases hq : q ≤ 0
    · have VB := Lib.hid (V1 (m + 1) (by omega))
      have w2 := ballV_in (n := ((m + 1 : Nat) : Int)) ⟨by omega, e5⟩ e6 e7 (by omega)
      have CB := Lib.hid (C1 _ w2)
      rw [decide_eq_true hq] at KI
      exact met_in c1 c2 c3 ru o1 o2 o3 d1 d2 d3 fr cc1 cc2 cc3 oo1 oo2 oo3 dd1 dd2 dd3 km k m (m + 1 : Nat) a _ _ _ _ w hkm wru hk wk KSc KSo KSd t1 t2 (cmp_le e8) (cmp_gt (by have := e9 hq; push_cast; exact this)) (by push_cast; rfl) (IntWalk.wrap64_in _ (by omega)) (by rw [i64w]; omega) KH KI VA VB CA CB
    · obtain ⟨j, rfl⟩ : ∃ j, m = j + 1 := ⟨m - 1, by omega⟩
      have VB := Lib.hid (V1 j (by omega))
      have w2 := ballV_in (n := (j : Int)) ⟨by omega, e5⟩ e6 e7 (by omega)
      have CB := Lib.hid (C1 _ w2)
      rw [decide_eq_false hq] at KI
      exact met_out c1 c2 c3 ru o1 o2 o3 d1 d2 d3 fr cc1 cc2 cc3 oo1 oo2 oo3 dd1 dd2 dd3 km k (j + 1 : Nat) j a _ _ _ _ w hkm wru hk wk KSc KSo KSd t1 t2 (cmp_le e8) (cmp_gt (by have := e10 hq; rw [show ((j + 1 : Nat) : Int) - 1 = (j : Int) by omega] at this; exact this)) (by omega) (IntWalk.wrap64_in _ (by omega)) (by rw [i64w]; omega) KH KI VA VB CA CB

end Go.Proofs.Ytppejnfiphkmnaa
