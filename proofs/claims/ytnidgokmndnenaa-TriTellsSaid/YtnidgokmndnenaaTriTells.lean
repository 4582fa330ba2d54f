/- The walk of the statement TriTells. -/
import Derived.Test.YtnidgokmndnenaaAwake11
import Derived.Test.YtnidgokmndnenaaRefb11
import Derived.Test.YtnidgokmndnenaaRefc11
import Derived.Test.YtnidgokmndnenaaTail
import Derived.Deep.DeepCutAuto
namespace Go.Proofs.Ytnidgokmndnenaa
open Go.RowKit Go.Proofs.Sky
set_option linter.unusedVariables false

set_option maxRecDepth 100000 in
set_option maxHeartbeats 8000000 in
theorem law_TriTells (a1 a2 a3 b1 b2 b3 c1 c2 c3 o1 o2 o3 d1 d2 d3 fr u v : Int) (w : World) (ha : I3 (a1, a2, a3)) (hb : I3 (b1, b2, b3)) (hc : I3 (c1, c2, c3)) (ho : I3 (o1, o2, o3)) (hd : I3 (d1, d2, d3)) (hu : I64 u) (hv : I64 v) :
    Calls Try.prog 3 #[.agg #[.int .i64 a1, .int .i64 a2, .int .i64 a3], .agg #[.int .i64 b1, .int .i64 b2, .int .i64 b3], .agg #[.int .i64 c1, .int .i64 c2, .int .i64 c3], .agg #[.int .i64 o1, .int .i64 o2, .int .i64 o3, .int .i64 d1, .int .i64 d2, .int .i64 d3, .int .i64 fr], .int .i64 u, .int .i64 v] w fun en w' => en = .returned (.bool true) ∧ Below w.heap.size w w' := by
  have KP := Lib.hid (fun w => tri_Place a1 a2 a3 w)
  have RP := Lib.hid (fun w => ref11_Place a1 a2 a3 w)
  have KF := Lib.hid (fun w => tri_Flat a1 a2 a3 b1 b2 b3 c1 c2 c3 w ha hb hc)
  have RF := Lib.hid (fun w => ref11_Flat a1 a2 a3 b1 b2 b3 c1 c2 c3 w)
  have KN := Lib.hid (fun w => tri_Normal a1 a2 a3 b1 b2 b3 c1 c2 c3 w ha hb hc)
  have RN := Lib.hid (fun w => ref11_Normal a1 a2 a3 b1 b2 b3 c1 c2 c3 w)
  have KA := Lib.hid (fun w => tri_Area a1 a2 a3 b1 b2 b3 c1 c2 c3 w ha hb hc)
  have RA := Lib.hid (fun w => ref11_Area a1 a2 a3 b1 b2 b3 c1 c2 c3 w)
  have KH := Lib.hid (fun w => tri_Hit a1 a2 a3 b1 b2 b3 c1 c2 c3 o1 o2 o3 d1 d2 d3 fr w ha hb hc ho hd)
  have RH := Lib.hid (fun w => ref11_Hit a1 a2 a3 b1 b2 b3 c1 c2 c3 o1 o2 o3 d1 d2 d3 fr w)
  have KT := Lib.hid (fun w => tri_At a1 a2 a3 b1 b2 b3 c1 c2 c3 u v w ha hb hc hu hv)
  have RT := Lib.hid (fun w => ref11_At a1 a2 a3 b1 b2 b3 c1 c2 c3 u v w)
  have HA := Lib.hid (fun w => awake11 w)
  generalize plc (a1, a2, a3) = pl at *
  generalize tFlat (a1, a2, a3) (b1, b2, b3) (c1, c2, c3) = fl at *
  generalize tNorm (a1, a2, a3) (b1, b2, b3) (c1, c2, c3) = no at *
  generalize tArea (a1, a2, a3) (b1, b2, b3) (c1, c2, c3) = ar at *
  generalize tHit (a1, a2, a3) (b1, b2, b3) (c1, c2, c3) (o1, o2, o3) (d1, d2, d3) = hi at *
  generalize tAt (a1, a2, a3) (b1, b2, b3) (c1, c2, c3) u v = at' at *
  obtain ⟨⟨n1, n2, n3⟩, nk⟩ := no
  obtain ⟨⟨i1, i2⟩, ik⟩ := hi
  obtain ⟨t1, t2, t3⟩ := at'
  dsimp only at KN RN KH RH KT RT
  clear ha hb hc ho hd hu hv
  go_enter Try.func3, Try.ntmps3
  go_upto_region 1 with (fail)
  obtain ⟨W1, hW1⟩ : ∃ W, W = (((w.alloc (.cells #[.int .i64 a1, .int .i64 a2, .int .i64 a3] 23)).alloc (.cells #[.int .i64 b1, .int .i64 b2, .int .i64 b3] 23)).alloc (.cells #[.int .i64 c1, .int .i64 c2, .int .i64 c3] 23)).alloc (.cells #[.int .i64 o1, .int .i64 o2, .int .i64 o3, .int .i64 d1, .int .i64 d2, .int .i64 d3, .int .i64 fr] 25) := ⟨_, rfl⟩
  obtain ⟨k_a, k_b, k_c, k_y, B1⟩ := st4 hW1
  rw [← hW1]
  clear hW1
  have l_b : w.heap.size < w.heap.size + 1 := by omega
  have l_c : w.heap.size + 1 < w.heap.size + 1 + 1 := by omega
  have l_y : w.heap.size + 1 + 1 < w.heap.size + 1 + 1 + 1 := by omega
  generalize w.heap.size + 1 + 1 + 1 = g_y at *
  generalize w.heap.size + 1 + 1 = g_c at *
  generalize w.heap.size + 1 = g_b at *
  obtain ⟨c_a_0, c_a_1, c_a_2⟩ := bwc3 (k_a)
  obtain ⟨c_b_0, c_b_1, c_b_2⟩ := bwc3 (k_b)
  obtain ⟨c_c_0, c_c_1, c_c_2⟩ := bwc3 (k_c)
  obtain ⟨c_y_0, c_y_1, c_y_2, c_y_3, c_y_4, c_y_5, c_y_6⟩ := bwc7 (k_y)
  obtain ⟨p1, hp1⟩ : ∃ p : BW W1, p.w = W1 := ⟨BW.start W1, rfl⟩
  rw [← hp1]
  clear hp1
  go_upto_region 2 with (first
    | (go_at_call 6; (first | (with_reducible refine (bw_call KN.out _).mono ?_)); rintro e w' ⟨rfl, q, rfl⟩)
    | (go_at_call 7; (first | (with_reducible refine (bw_call RN.out _).mono ?_)); rintro e w' ⟨rfl, q, rfl⟩))
  obtain ⟨W2, hW2⟩ : ∃ W, W = q.w.alloc (.cells #[.int .i64 n1, .int .i64 n2, .int .i64 n3] 23) := ⟨_, rfl⟩
  have B2 : Below w.heap.size w W2 := by rw [hW2]; exact (bw_below B1 q).alloc (bw_below B1 q).size _
  have l_n : g_y < q.w.heap.size := (k_y.below q.h).lt
  have o_n : w.heap.size ≤ q.w.heap.size := (bw_below B1 q).size
  have k_a := bka hW2 (k_a.below q.h)
  have k_b := bka hW2 (k_b.below q.h)
  have k_c := bka hW2 (k_c.below q.h)
  have k_y := bka hW2 (k_y.below q.h)
  have k_n := bkn hW2
  rw [← hW2]
  clear hW2
  clear B1
  clear c_a_0 c_a_1 c_a_2 c_b_0 c_b_1 c_b_2 c_c_0 c_c_1 c_c_2 c_y_0 c_y_1 c_y_2 c_y_3 c_y_4 c_y_5 c_y_6
  generalize q.w.heap.size = g_n at *
  obtain ⟨c_a_0, c_a_1, c_a_2⟩ := bwc3 (k_a)
  obtain ⟨c_b_0, c_b_1, c_b_2⟩ := bwc3 (k_b)
  obtain ⟨c_c_0, c_c_1, c_c_2⟩ := bwc3 (k_c)
  obtain ⟨c_y_0, c_y_1, c_y_2, c_y_3, c_y_4, c_y_5, c_y_6⟩ := bwc7 (k_y)
  obtain ⟨c_n_0, c_n_1, c_n_2⟩ := bwc3 (k_n)
  obtain ⟨p2, hp2⟩ : ∃ p : BW W2, p.w = W2 := ⟨BW.start W2, rfl⟩
  rw [← hp2]
  clear hp2
  go_upto_region 3 with (first
    | (go_at_call 6; (first | (with_reducible refine (bw_call KN.out _).mono ?_)); rintro e w' ⟨rfl, q, rfl⟩)
    | (go_at_call 7; (first | (with_reducible refine (bw_call RN.out _).mono ?_)); rintro e w' ⟨rfl, q, rfl⟩))
  obtain ⟨W3, hW3⟩ : ∃ W, W = q.w.alloc (.cells #[.int .i64 n1, .int .i64 n2, .int .i64 n3] 23) := ⟨_, rfl⟩
  have B3 : Below w.heap.size w W3 := by rw [hW3]; exact (bw_below B2 q).alloc (bw_below B2 q).size _
  have l_m : g_n < q.w.heap.size := (k_n.below q.h).lt
  have o_m : w.heap.size ≤ q.w.heap.size := (bw_below B2 q).size
  have k_a := bka hW3 (k_a.below q.h)
  have k_b := bka hW3 (k_b.below q.h)
  have k_c := bka hW3 (k_c.below q.h)
  have k_y := bka hW3 (k_y.below q.h)
  have k_n := bka hW3 (k_n.below q.h)
  have k_m := bkn hW3
  rw [← hW3]
  clear hW3
  clear B2
  clear c_a_0 c_a_1 c_a_2 c_b_0 c_b_1 c_b_2 c_c_0 c_c_1 c_c_2 c_y_0 c_y_1 c_y_2 c_y_3 c_y_4 c_y_5 c_y_6 c_n_0 c_n_1 c_n_2
  generalize q.w.heap.size = g_m at *
  obtain ⟨c_a_0, c_a_1, c_a_2⟩ := bwc3 (k_a)
  obtain ⟨c_b_0, c_b_1, c_b_2⟩ := bwc3 (k_b)
  obtain ⟨c_c_0, c_c_1, c_c_2⟩ := bwc3 (k_c)
  obtain ⟨c_y_0, c_y_1, c_y_2, c_y_3, c_y_4, c_y_5, c_y_6⟩ := bwc7 (k_y)
  obtain ⟨c_n_0, c_n_1, c_n_2⟩ := bwc3 (k_n)
  obtain ⟨c_m_0, c_m_1, c_m_2⟩ := bwc3 (k_m)
  obtain ⟨p3, hp3⟩ : ∃ p : BW W3, p.w = W3 := ⟨BW.start W3, rfl⟩
  rw [← hp3]
  clear hp3
  go_upto_region 4 with (first
    | (go_at_call 8; (first | (with_reducible refine (bw_call KH.out _).mono ?_)); rintro e w' ⟨rfl, q, rfl⟩)
    | (go_at_call 9; (first | (with_reducible refine (bw_call RH.out _).mono ?_)); rintro e w' ⟨rfl, q, rfl⟩))
  obtain ⟨W4, hW4⟩ : ∃ W, W = q.w.alloc (.cells #[.int .i64 i1, .int .i64 i2] 29) := ⟨_, rfl⟩
  have B4 : Below w.heap.size w W4 := by rw [hW4]; exact (bw_below B3 q).alloc (bw_below B3 q).size _
  have l_t : g_m < q.w.heap.size := (k_m.below q.h).lt
  have o_t : w.heap.size ≤ q.w.heap.size := (bw_below B3 q).size
  have k_a := bka hW4 (k_a.below q.h)
  have k_b := bka hW4 (k_b.below q.h)
  have k_c := bka hW4 (k_c.below q.h)
  have k_y := bka hW4 (k_y.below q.h)
  have k_n := bka hW4 (k_n.below q.h)
  have k_m := bka hW4 (k_m.below q.h)
  have k_t := bkn hW4
  rw [← hW4]
  clear hW4
  clear B3
  clear c_a_0 c_a_1 c_a_2 c_b_0 c_b_1 c_b_2 c_c_0 c_c_1 c_c_2 c_y_0 c_y_1 c_y_2 c_y_3 c_y_4 c_y_5 c_y_6 c_n_0 c_n_1 c_n_2 c_m_0 c_m_1 c_m_2
  generalize q.w.heap.size = g_t at *
  obtain ⟨c_a_0, c_a_1, c_a_2⟩ := bwc3 (k_a)
  obtain ⟨c_b_0, c_b_1, c_b_2⟩ := bwc3 (k_b)
  obtain ⟨c_c_0, c_c_1, c_c_2⟩ := bwc3 (k_c)
  obtain ⟨c_y_0, c_y_1, c_y_2, c_y_3, c_y_4, c_y_5, c_y_6⟩ := bwc7 (k_y)
  obtain ⟨c_n_0, c_n_1, c_n_2⟩ := bwc3 (k_n)
  obtain ⟨c_m_0, c_m_1, c_m_2⟩ := bwc3 (k_m)
  obtain ⟨c_t_0, c_t_1⟩ := bwc2 (k_t)
  obtain ⟨p4, hp4⟩ : ∃ p : BW W4, p.w = W4 := ⟨BW.start W4, rfl⟩
  rw [← hp4]
  clear hp4
  go_upto_region 5 with (first
    | (go_at_call 8; (first | (with_reducible refine (bw_call KH.out _).mono ?_)); rintro e w' ⟨rfl, q, rfl⟩)
    | (go_at_call 9; (first | (with_reducible refine (bw_call RH.out _).mono ?_)); rintro e w' ⟨rfl, q, rfl⟩))
  obtain ⟨W5, hW5⟩ : ∃ W, W = q.w.alloc (.cells #[.int .i64 i1, .int .i64 i2] 29) := ⟨_, rfl⟩
  have B5 : Below w.heap.size w W5 := by rw [hW5]; exact (bw_below B4 q).alloc (bw_below B4 q).size _
  have l_w : g_t < q.w.heap.size := (k_t.below q.h).lt
  have o_w : w.heap.size ≤ q.w.heap.size := (bw_below B4 q).size
  have k_a := bka hW5 (k_a.below q.h)
  have k_b := bka hW5 (k_b.below q.h)
  have k_c := bka hW5 (k_c.below q.h)
  have k_y := bka hW5 (k_y.below q.h)
  have k_n := bka hW5 (k_n.below q.h)
  have k_m := bka hW5 (k_m.below q.h)
  have k_t := bka hW5 (k_t.below q.h)
  have k_w := bkn hW5
  rw [← hW5]
  clear hW5
  clear B4
  clear c_a_0 c_a_1 c_a_2 c_b_0 c_b_1 c_b_2 c_c_0 c_c_1 c_c_2 c_y_0 c_y_1 c_y_2 c_y_3 c_y_4 c_y_5 c_y_6 c_n_0 c_n_1 c_n_2 c_m_0 c_m_1 c_m_2 c_t_0 c_t_1
  generalize q.w.heap.size = g_w at *
  obtain ⟨c_a_0, c_a_1, c_a_2⟩ := bwc3 (k_a)
  obtain ⟨c_b_0, c_b_1, c_b_2⟩ := bwc3 (k_b)
  obtain ⟨c_c_0, c_c_1, c_c_2⟩ := bwc3 (k_c)
  obtain ⟨c_y_0, c_y_1, c_y_2, c_y_3, c_y_4, c_y_5, c_y_6⟩ := bwc7 (k_y)
  obtain ⟨c_n_0, c_n_1, c_n_2⟩ := bwc3 (k_n)
  obtain ⟨c_m_0, c_m_1, c_m_2⟩ := bwc3 (k_m)
  obtain ⟨c_t_0, c_t_1⟩ := bwc2 (k_t)
  obtain ⟨c_w_0, c_w_1⟩ := bwc2 (k_w)
  obtain ⟨p5, hp5⟩ : ∃ p : BW W5, p.w = W5 := ⟨BW.start W5, rfl⟩
  rw [← hp5]
  clear hp5
  simp only [List.append]
  refine wp_region_bw (by kernel_rfl) (by kernel_rfl) ?_
  repeat (go_big_quiet_step (first
    | (go_at_call 10; (first | (with_reducible exact bw_call KP.out _)))
    | (go_at_call 11; (first | (with_reducible exact bw_call RP.out _)))
    | (go_at_call 12; (first | (with_reducible exact bw_call KF.out _)))
    | (go_at_call 13; (first | (with_reducible exact bw_call RF.out _)))
    | (go_at_call 14; (first | (with_reducible exact bw_call KA.out _)))
    | (go_at_call 15; (first | (with_reducible exact bw_call RA.out _)))
    | (go_at_call 16; (first | (with_reducible exact bw_call KT.out _)))
    | (go_at_call 17; (first | (with_reducible exact bw_call RT.out _)))
    | (go_at_call 18; (first | (with_reducible exact bw_call HA.out _)))))
  refine wpQuiet_nil ?_
  intro _ hw'
  obtain ⟨q, rfl⟩ := hw'
  go_wp2
  go_ret
  exact ⟨rfl, bw_below B5 _⟩

end Go.Proofs.Ytnidgokmndnenaa
