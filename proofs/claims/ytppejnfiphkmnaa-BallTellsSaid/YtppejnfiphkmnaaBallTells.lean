/- The walk of the statement BallTells. -/
import Derived.Test.YtppejnfiphkmnaaAwake12
import Derived.Test.YtppejnfiphkmnaaRefc12
import Derived.Test.YtppejnfiphkmnaaTail
import Derived.Deep.DeepCutAuto
namespace Go.Proofs.Ytppejnfiphkmnaa
open Go.RowKit Go.Proofs.Sky
set_option linter.unusedVariables false

set_option maxRecDepth 100000 in
set_option maxHeartbeats 8000000 in
theorem law_BallTells (c1 c2 c3 r o1 o2 o3 d1 d2 d3 fr t1 t2 t3 : Int) (w : World) (hc : I3 (c1, c2, c3)) (hr : I64 r) (ho : I3 (o1, o2, o3)) (hd : I3 (d1, d2, d3)) (ht : I3 (t1, t2, t3)) :
    Calls Try.prog 3 #[.agg #[.int .i64 c1, .int .i64 c2, .int .i64 c3], .int .i64 r, .agg #[.int .i64 o1, .int .i64 o2, .int .i64 o3, .int .i64 d1, .int .i64 d2, .int .i64 d3, .int .i64 fr], .agg #[.int .i64 t1, .int .i64 t2, .int .i64 t3]] w fun en w' => en = .returned (.bool true) ∧ Below w.heap.size w w' := by
  have KR := Lib.hid (fun w => ball_Right c1 c2 c3 r w hc hr)
  have RR := Lib.hid (fun w => ref12_Right c1 c2 c3 r w)
  have KH := Lib.hid (fun w => ball_Hit c1 c2 c3 r o1 o2 o3 d1 d2 d3 fr w hc hr ho hd)
  have RH := Lib.hid (fun w => ref12_Hit c1 c2 c3 r o1 o2 o3 d1 d2 d3 fr w hc hr ho hd)
  have KT := Lib.hid (fun w => ball_Through c1 c2 c3 r o1 o2 o3 d1 d2 d3 fr w hc hr ho hd)
  have RT := Lib.hid (fun w => ref12_Through c1 c2 c3 r o1 o2 o3 d1 d2 d3 fr w hc hr ho hd)
  have KN := Lib.hid (fun w => ball_Normal c1 c2 c3 t1 t2 t3 w hc ht)
  have RN := Lib.hid (fun w => ref12_Normal c1 c2 c3 t1 t2 t3 w hc ht)
  have KI := Lib.hid (fun w => ball_Inside c1 c2 c3 r t1 t2 t3 w hc hr ht)
  have RI := Lib.hid (fun w => ref12_Inside c1 c2 c3 r t1 t2 t3 w hc hr ht)
  have HA := Lib.hid (fun w => awake12 w)
  generalize ballR (c1, c2, c3) r = b1 at *
  generalize ballH (c1, c2, c3) r (o1, o2, o3) (d1, d2, d3) = hi at *
  generalize ballT (c1, c2, c3) r (o1, o2, o3) (d1, d2, d3) = th at *
  generalize ballN (c1, c2, c3) (t1, t2, t3) = no at *
  generalize ballI (c1, c2, c3) r (t1, t2, t3) = b2 at *
  obtain ⟨⟨i1, i2⟩, ik⟩ := hi
  obtain ⟨⟨j1, j2⟩, jk⟩ := th
  obtain ⟨n1, n2, n3⟩ := no
  dsimp only at KH RH KT RT KN RN
  clear hc hr ho hd ht
  go_enter Try.func3, Try.ntmps3
  go_upto_region 1 with (fail)
  obtain ⟨W1, hW1⟩ : ∃ W, W = ((w.alloc (.cells #[.int .i64 c1, .int .i64 c2, .int .i64 c3] 23)).alloc (.cells #[.int .i64 o1, .int .i64 o2, .int .i64 o3, .int .i64 d1, .int .i64 d2, .int .i64 d3, .int .i64 fr] 25)).alloc (.cells #[.int .i64 t1, .int .i64 t2, .int .i64 t3] 23) := ⟨_, rfl⟩
  obtain ⟨k_c, k_y, k_a, B1⟩ := st3 hW1
  rw [← hW1]
  clear hW1
  have l_y : w.heap.size < w.heap.size + 1 := by omega
  have l_a : w.heap.size + 1 < w.heap.size + 1 + 1 := by omega
  generalize w.heap.size + 1 + 1 = g_a at *
  generalize w.heap.size + 1 = g_y at *
  obtain ⟨c_c_0, c_c_1, c_c_2⟩ := bwc3 (k_c)
  obtain ⟨c_y_0, c_y_1, c_y_2, c_y_3, c_y_4, c_y_5, c_y_6⟩ := bwc7 (k_y)
  obtain ⟨c_a_0, c_a_1, c_a_2⟩ := bwc3 (k_a)
  obtain ⟨p1, hp1⟩ : ∃ p : BW W1, p.w = W1 := ⟨BW.start W1, rfl⟩
  rw [← hp1]
  clear hp1
  go_upto_region 2 with (first
    | (go_at_call 6; (first | (with_reducible refine (bw_call KH.out _).mono ?_)); rintro e w' ⟨rfl, q, rfl⟩))
  obtain ⟨W2, hW2⟩ : ∃ W, W = q.w.alloc (.cells #[.int .i64 i1, .int .i64 i2] 27) := ⟨_, rfl⟩
  have B2 : Below w.heap.size w W2 := by rw [hW2]; exact (bw_below B1 q).alloc (bw_below B1 q).size _
  have l_s : g_a < q.w.heap.size := (k_a.below q.h).lt
  have o_s : w.heap.size ≤ q.w.heap.size := (bw_below B1 q).size
  have k_c := bka hW2 (k_c.below q.h)
  have k_y := bka hW2 (k_y.below q.h)
  have k_a := bka hW2 (k_a.below q.h)
  have k_s := bkn hW2
  rw [← hW2]
  clear hW2
  clear B1
  clear c_c_0 c_c_1 c_c_2 c_y_0 c_y_1 c_y_2 c_y_3 c_y_4 c_y_5 c_y_6 c_a_0 c_a_1 c_a_2
  generalize q.w.heap.size = g_s at *
  obtain ⟨c_c_0, c_c_1, c_c_2⟩ := bwc3 (k_c)
  obtain ⟨c_y_0, c_y_1, c_y_2, c_y_3, c_y_4, c_y_5, c_y_6⟩ := bwc7 (k_y)
  obtain ⟨c_a_0, c_a_1, c_a_2⟩ := bwc3 (k_a)
  obtain ⟨c_s_0, c_s_1⟩ := bwc2 (k_s)
  obtain ⟨p2, hp2⟩ : ∃ p : BW W2, p.w = W2 := ⟨BW.start W2, rfl⟩
  rw [← hp2]
  clear hp2
  go_upto_region 3 with (first
    | (go_at_call 7; (first | (with_reducible refine (bw_call RH.out _).mono ?_)); rintro e w' ⟨rfl, q, rfl⟩))
  obtain ⟨W3, hW3⟩ : ∃ W, W = q.w.alloc (.cells #[.int .i64 i1, .int .i64 i2] 27) := ⟨_, rfl⟩
  have B3 : Below w.heap.size w W3 := by rw [hW3]; exact (bw_below B2 q).alloc (bw_below B2 q).size _
  have l_u : g_s < q.w.heap.size := (k_s.below q.h).lt
  have o_u : w.heap.size ≤ q.w.heap.size := (bw_below B2 q).size
  have k_c := bka hW3 (k_c.below q.h)
  have k_y := bka hW3 (k_y.below q.h)
  have k_a := bka hW3 (k_a.below q.h)
  have k_s := bka hW3 (k_s.below q.h)
  have k_u := bkn hW3
  rw [← hW3]
  clear hW3
  clear B2
  clear c_c_0 c_c_1 c_c_2 c_y_0 c_y_1 c_y_2 c_y_3 c_y_4 c_y_5 c_y_6 c_a_0 c_a_1 c_a_2 c_s_0 c_s_1
  generalize q.w.heap.size = g_u at *
  obtain ⟨c_c_0, c_c_1, c_c_2⟩ := bwc3 (k_c)
  obtain ⟨c_y_0, c_y_1, c_y_2, c_y_3, c_y_4, c_y_5, c_y_6⟩ := bwc7 (k_y)
  obtain ⟨c_a_0, c_a_1, c_a_2⟩ := bwc3 (k_a)
  obtain ⟨c_s_0, c_s_1⟩ := bwc2 (k_s)
  obtain ⟨c_u_0, c_u_1⟩ := bwc2 (k_u)
  obtain ⟨p3, hp3⟩ : ∃ p : BW W3, p.w = W3 := ⟨BW.start W3, rfl⟩
  rw [← hp3]
  clear hp3
  go_upto_region 4 with (first
    | (go_at_call 8; (first | (with_reducible refine (bw_call KT.out _).mono ?_)); rintro e w' ⟨rfl, q, rfl⟩))
  obtain ⟨W4, hW4⟩ : ∃ W, W = q.w.alloc (.cells #[.int .i64 j1, .int .i64 j2] 27) := ⟨_, rfl⟩
  have B4 : Below w.heap.size w W4 := by rw [hW4]; exact (bw_below B3 q).alloc (bw_below B3 q).size _
  have l_v : g_u < q.w.heap.size := (k_u.below q.h).lt
  have o_v : w.heap.size ≤ q.w.heap.size := (bw_below B3 q).size
  have k_c := bka hW4 (k_c.below q.h)
  have k_y := bka hW4 (k_y.below q.h)
  have k_a := bka hW4 (k_a.below q.h)
  have k_s := bka hW4 (k_s.below q.h)
  have k_u := bka hW4 (k_u.below q.h)
  have k_v := bkn hW4
  rw [← hW4]
  clear hW4
  clear B3
  clear c_c_0 c_c_1 c_c_2 c_y_0 c_y_1 c_y_2 c_y_3 c_y_4 c_y_5 c_y_6 c_a_0 c_a_1 c_a_2 c_s_0 c_s_1 c_u_0 c_u_1
  generalize q.w.heap.size = g_v at *
  obtain ⟨c_c_0, c_c_1, c_c_2⟩ := bwc3 (k_c)
  obtain ⟨c_y_0, c_y_1, c_y_2, c_y_3, c_y_4, c_y_5, c_y_6⟩ := bwc7 (k_y)
  obtain ⟨c_a_0, c_a_1, c_a_2⟩ := bwc3 (k_a)
  obtain ⟨c_s_0, c_s_1⟩ := bwc2 (k_s)
  obtain ⟨c_u_0, c_u_1⟩ := bwc2 (k_u)
  obtain ⟨c_v_0, c_v_1⟩ := bwc2 (k_v)
  obtain ⟨p4, hp4⟩ : ∃ p : BW W4, p.w = W4 := ⟨BW.start W4, rfl⟩
  rw [← hp4]
  clear hp4
  go_upto_region 5 with (first
    | (go_at_call 9; (first | (with_reducible refine (bw_call RT.out _).mono ?_)); rintro e w' ⟨rfl, q, rfl⟩))
  obtain ⟨W5, hW5⟩ : ∃ W, W = q.w.alloc (.cells #[.int .i64 j1, .int .i64 j2] 27) := ⟨_, rfl⟩
  have B5 : Below w.heap.size w W5 := by rw [hW5]; exact (bw_below B4 q).alloc (bw_below B4 q).size _
  have l_z : g_v < q.w.heap.size := (k_v.below q.h).lt
  have o_z : w.heap.size ≤ q.w.heap.size := (bw_below B4 q).size
  have k_c := bka hW5 (k_c.below q.h)
  have k_y := bka hW5 (k_y.below q.h)
  have k_a := bka hW5 (k_a.below q.h)
  have k_s := bka hW5 (k_s.below q.h)
  have k_u := bka hW5 (k_u.below q.h)
  have k_v := bka hW5 (k_v.below q.h)
  have k_z := bkn hW5
  rw [← hW5]
  clear hW5
  clear B4
  clear c_c_0 c_c_1 c_c_2 c_y_0 c_y_1 c_y_2 c_y_3 c_y_4 c_y_5 c_y_6 c_a_0 c_a_1 c_a_2 c_s_0 c_s_1 c_u_0 c_u_1 c_v_0 c_v_1
  generalize q.w.heap.size = g_z at *
  obtain ⟨c_c_0, c_c_1, c_c_2⟩ := bwc3 (k_c)
  obtain ⟨c_y_0, c_y_1, c_y_2, c_y_3, c_y_4, c_y_5, c_y_6⟩ := bwc7 (k_y)
  obtain ⟨c_a_0, c_a_1, c_a_2⟩ := bwc3 (k_a)
  obtain ⟨c_s_0, c_s_1⟩ := bwc2 (k_s)
  obtain ⟨c_u_0, c_u_1⟩ := bwc2 (k_u)
  obtain ⟨c_v_0, c_v_1⟩ := bwc2 (k_v)
  obtain ⟨c_z_0, c_z_1⟩ := bwc2 (k_z)
  obtain ⟨p5, hp5⟩ : ∃ p : BW W5, p.w = W5 := ⟨BW.start W5, rfl⟩
  rw [← hp5]
  clear hp5
  refine wp_region_bw (by kernel_rfl) (by kernel_rfl) ?_
  repeat (go_big_quiet_step (first
    | (go_at_call 10; (first | (with_reducible exact bw_call KR.out _)))
    | (go_at_call 11; (first | (with_reducible exact bw_call RR.out _)))
    | (go_at_call 12; (first | (with_reducible exact bw_call KN.out _)))
    | (go_at_call 13; (first | (with_reducible exact bw_call RN.out _)))
    | (go_at_call 14; (first | (with_reducible exact bw_call KI.out _)))
    | (go_at_call 15; (first | (with_reducible exact bw_call RI.out _)))
    | (go_at_call 16; (first | (with_reducible exact bw_call HA.out _)))))
  refine wpQuiet_nil ?_
  intro _ hw'
  obtain ⟨q, rfl⟩ := hw'
  go_wp2
  go_ret
  exact ⟨rfl, bw_below B5 _⟩

end Go.Proofs.Ytppejnfiphkmnaa
