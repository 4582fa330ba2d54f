/- Contracts below package prim: box.Of of three; the shapes, named, shapeOf. -/
import Derived.Test.YtomlcglnkdfemaaGreatTb31
import Derived.Test.YtomlcglnkdfemaaGreatTb33
import Derived.Test.YtomlcglnkdfemaaGreatTb30
import Derived.Test.YtomlcglnkdfemaaGreatTb10
import Derived.Handy


namespace Go.Proofs.YtomlcglnkdfemaaGreat
section

open Go.RowKit Go.Proofs.Sky

set_option linter.unusedVariables false

set_option linter.unusedSimpArgs false

set_option maxRecDepth 100000 in
set_option maxHeartbeats 4000000 in
theorem box_Of3 (a1 a2 a3 b1 b2 b3 c1 c2 c3 : Int) (w : World) (b cap : Nat) (kb : Bk w b 37 #[.int .i64 a1, .int .i64 a2, .int .i64 a3, .int .i64 b1, .int .i64 b2, .int .i64 b3, .int .i64 c1, .int .i64 c2, .int .i64 c3]) (h1 : vnear a1 a2 a3 = true) (h2 : vnear b1 b2 b3 = true) (h3 : vnear c1 c2 c3 = true) :
    Calls Tryz.prog 40 #[.slice (some ⟨b, 0, none⟩) 3 cap] w fun en w' => en = .returned (.tuple #[.agg #[.int .i64 (min (min a1 b1) c1), .int .i64 (min (min a2 b2) c2), .int .i64 (min (min a3 b3) c3), .int .i64 (max (max a1 b1) c1), .int .i64 (max (max a2 b2) c2), .int .i64 (max (max a3 b3) c3)], .bool true]) ∧ Below w.heap.size w w' := by
  have n1 := h1
  have n2 := h2
  have n3 := h3
  have N0 := Lib.hid (fun w => vec_Near a1 a2 a3 w)
  rw [h1] at N0
  have N1 := Lib.hid (fun w => vec_Near b1 b2 b3 w)
  rw [h2] at N1
  have N2 := Lib.hid (fun w => vec_Near c1 c2 c3 w)
  rw [h3] at N2
  have L0 := Lib.hid (fun w => box_lowest a1 a2 a3 a1 a2 a3 w)
  rw [Int.min_self a1, Int.min_self a2, Int.min_self a3] at L0
  have L1 := Lib.hid (fun w => box_lowest a1 a2 a3 b1 b2 b3 w)
  generalize min a1 b1 = x1 at *
  generalize min a2 b2 = x2 at *
  generalize min a3 b3 = x3 at *
  have L2 := Lib.hid (fun w => box_lowest x1 x2 x3 c1 c2 c3 w)
  generalize min x1 c1 = u1 at *
  generalize min x2 c2 = u2 at *
  generalize min x3 c3 = u3 at *
  have H0 := Lib.hid (fun w => box_highest a1 a2 a3 a1 a2 a3 w)
  rw [Int.max_self a1, Int.max_self a2, Int.max_self a3] at H0
  have H1 := Lib.hid (fun w => box_highest a1 a2 a3 b1 b2 b3 w)
  generalize max a1 b1 = y1 at *
  generalize max a2 b2 = y2 at *
  generalize max a3 b3 = y3 at *
  have H2 := Lib.hid (fun w => box_highest y1 y2 y3 c1 c2 c3 w)
  generalize max y1 c1 = v1 at *
  generalize max y2 c2 = v2 at *
  generalize max y3 c3 = v3 at *
  clear n1 n2 n3 h1 h2 h3
  go_enter Tryz.func40, Tryz.ntmps40
  go_upto_region 1 with (fail)
  obtain ⟨W1, hW1⟩ : ∃ W, W = w.alloc (.cells #[.int .i64 0, .int .i64 0, .int .i64 0, .int .i64 0, .int .i64 0, .int .i64 0] 41) := ⟨_, rfl⟩
  obtain ⟨k_r, B1⟩ := st1 hW1
  rw [← hW1]
  clear hW1
  have hbl := kb.lt
  have k_e := kb.below B1
  clear kb
  obtain ⟨c_e_0, c_e_1, c_e_2, c_e_3, c_e_4, c_e_5, c_e_6, c_e_7, c_e_8⟩ := bwc9 (k_e)
  obtain ⟨c_r_0, c_r_1, c_r_2, c_r_3, c_r_4, c_r_5⟩ := bwc6 (k_r)
  obtain ⟨p1, hp1⟩ : ∃ p : BW W1, p.w = W1 := ⟨BW.start W1, rfl⟩
  rw [← hp1]
  clear hp1
  go_upto_region 3 with (fail)
  refine wp_region_float (t := 41) (zs := #[.int .i64 0, .int .i64 0, .int .i64 0, .int .i64 0, .int .i64 0, .int .i64 0]) 8 7 4 39 (by kernel_rfl) (by kernel_rfl) (by kernel_rfl) (by kernel_rfl) (by kernel_rfl) rfl ?_ ?_
  · intro ev wx
    simp [execOp, go_sem]
  apply Exists.intro
  refine ⟨?_, ?_⟩
  · intro wb' hwb'
    obtain ⟨d_e_0, d_e_1, d_e_2, d_e_3, d_e_4, d_e_5, d_e_6, d_e_7, d_e_8⟩ := bwc9 (k_e.below hwb')
    obtain ⟨d_r_0, d_r_1, d_r_2, d_r_3, d_r_4, d_r_5⟩ := bwc6 (k_r.below hwb')
    simp only [maskAt, List.take_succ_cons, List.take_zero]
    repeat (go_big_quiet_step (first
      | fail))
    refine wpQuiet_nil ?_
    exact rfl
  intro W2 g_t hW hg k_t
  have B2 : Below w.heap.size w W2 := B1.trans (hW.mono B1.size)
  have o_t : w.heap.size ≤ g_t := Nat.le_trans B1.size hg
  have l_t : w.heap.size < g_t := Nat.lt_of_lt_of_le k_r.lt hg
  have k_e := k_e.below hW
  have k_r := k_r.below hW
  clear hW hg B1
  clear c_e_0 c_e_1 c_e_2 c_e_3 c_e_4 c_e_5 c_e_6 c_e_7 c_e_8 c_r_0 c_r_1 c_r_2 c_r_3 c_r_4 c_r_5
  simp only [List.drop_succ_cons, List.drop_zero, Act.put, List.setIfInBounds_toArray, List.set_cons_zero, List.set_cons_succ]
  obtain ⟨c_e_0, c_e_1, c_e_2, c_e_3, c_e_4, c_e_5, c_e_6, c_e_7, c_e_8⟩ := bwc9 (k_e)
  obtain ⟨c_r_0, c_r_1, c_r_2, c_r_3, c_r_4, c_r_5⟩ := bwc6 (k_r)
  obtain ⟨c_t_0, c_t_1, c_t_2, c_t_3, c_t_4, c_t_5⟩ := bwc6 (k_t)
  obtain ⟨f_t_0, f_t_1, f_t_2, f_t_3, f_t_4, f_t_5⟩ := bwf6 (k_t)
  obtain ⟨p2, hp2⟩ : ∃ p : BW W2, p.w = W2 := ⟨BW.start W2, rfl⟩
  rw [← hp2]
  clear hp2
  go_upto_region 4 with (fail)
  obtain ⟨W3, hW3⟩ : ∃ W, W = (((((p2.w.setCell ⟨g_t, 0, none⟩ (.int .i64 a1)).setCell ⟨g_t, 1, none⟩ (.int .i64 a2)).setCell ⟨g_t, 2, none⟩ (.int .i64 a3)).setCell ⟨g_t, 3, none⟩ (.int .i64 a1)).setCell ⟨g_t, 4, none⟩ (.int .i64 a2)).setCell ⟨g_t, 5, none⟩ (.int .i64 a3) := ⟨_, rfl⟩
  have B3 : Below w.heap.size w W3 := by rw [hW3]; exact blp6 (bw_below B2 p2) (by omega)
  have k_e := bkoe6 hW3 (k_e.below p2.h) (by omega)
  have k_r := bkoe6 hW3 (k_r.below p2.h) (by omega)
  have k_t := bkpe6 hW3 (k_t.below p2.h)
  rw [← hW3]
  clear hW3
  clear B2
  clear c_e_0 c_e_1 c_e_2 c_e_3 c_e_4 c_e_5 c_e_6 c_e_7 c_e_8 c_r_0 c_r_1 c_r_2 c_r_3 c_r_4 c_r_5 c_t_0 c_t_1 c_t_2 c_t_3 c_t_4 c_t_5 f_t_0 f_t_1 f_t_2 f_t_3 f_t_4 f_t_5
  obtain ⟨c_e_0, c_e_1, c_e_2, c_e_3, c_e_4, c_e_5, c_e_6, c_e_7, c_e_8⟩ := bwc9 (k_e)
  obtain ⟨c_r_0, c_r_1, c_r_2, c_r_3, c_r_4, c_r_5⟩ := bwc6 (k_r)
  obtain ⟨c_t_0, c_t_1, c_t_2, c_t_3, c_t_4, c_t_5⟩ := bwc6 (k_t)
  obtain ⟨p3, hp3⟩ : ∃ p : BW W3, p.w = W3 := ⟨BW.start W3, rfl⟩
  rw [← hp3]
  clear hp3
  go_upto_region 5 with (fail)
  refine wp_loop_rounds 4 ?_
  rw [rounds_succ]
  go_upto_region 7 with (fail)
  obtain ⟨W4, hW4⟩ : ∃ W, W = p3.w.alloc (.cells #[.int .i64 a1, .int .i64 a2, .int .i64 a3] 37) := ⟨_, rfl⟩
  have B4 : Below w.heap.size w W4 := by rw [hW4]; exact (bw_below B3 p3).alloc (bw_below B3 p3).size _
  have l_d0 : g_t < p3.w.heap.size := (k_t.below p3.h).lt
  have o_d0 : w.heap.size ≤ p3.w.heap.size := (bw_below B3 p3).size
  have k_e := bka hW4 (k_e.below p3.h)
  have k_r := bka hW4 (k_r.below p3.h)
  have k_t := bka hW4 (k_t.below p3.h)
  have k_d0 := bkn hW4
  rw [← hW4]
  clear hW4
  clear B3
  clear c_e_0 c_e_1 c_e_2 c_e_3 c_e_4 c_e_5 c_e_6 c_e_7 c_e_8 c_r_0 c_r_1 c_r_2 c_r_3 c_r_4 c_r_5 c_t_0 c_t_1 c_t_2 c_t_3 c_t_4 c_t_5
  generalize p3.w.heap.size = g_d0 at *
  obtain ⟨c_e_0, c_e_1, c_e_2, c_e_3, c_e_4, c_e_5, c_e_6, c_e_7, c_e_8⟩ := bwc9 (k_e)
  obtain ⟨c_r_0, c_r_1, c_r_2, c_r_3, c_r_4, c_r_5⟩ := bwc6 (k_r)
  obtain ⟨c_t_0, c_t_1, c_t_2, c_t_3, c_t_4, c_t_5⟩ := bwc6 (k_t)
  obtain ⟨f_t_0, f_t_1, f_t_2, f_t_3, f_t_4, f_t_5⟩ := bwf6 (k_t)
  obtain ⟨c_d0_0, c_d0_1, c_d0_2⟩ := bwc3 (k_d0)
  obtain ⟨p4, hp4⟩ : ∃ p : BW W4, p.w = W4 := ⟨BW.start W4, rfl⟩
  rw [← hp4]
  clear hp4
  go_upto_region 9 with (first
    | (go_at_call 60; (first | (with_reducible refine (bw_call N0.out _).mono ?_)); rintro e w' ⟨rfl, q, rfl⟩))
  refine wp_region_bw_tail 8 (by kernel_rfl) (by kernel_rfl) (by kernel_rfl) ?_
  simp only [List.take_succ_cons, List.take_zero, List.drop_succ_cons, List.drop_zero]
  repeat (go_big_quiet_step (first
    | (go_at_call 49; (first | (with_reducible exact bw_call L0.out _)))
    | (go_at_call 50; (first | (with_reducible exact bw_call H0.out _)))))
  refine wpQuiet_nil ?_
  intro _ hw'
  obtain ⟨q, rfl⟩ := hw'
  go_upto_region 10 with (fail)
  obtain ⟨W5, hW5⟩ : ∃ W, W = (((((q.w.setCell ⟨g_t, 0, none⟩ (.int .i64 a1)).setCell ⟨g_t, 1, none⟩ (.int .i64 a2)).setCell ⟨g_t, 2, none⟩ (.int .i64 a3)).setCell ⟨g_t, 3, none⟩ (.int .i64 a1)).setCell ⟨g_t, 4, none⟩ (.int .i64 a2)).setCell ⟨g_t, 5, none⟩ (.int .i64 a3) := ⟨_, rfl⟩
  have B5 : Below w.heap.size w W5 := by rw [hW5]; exact blp6 (bw_below B4 q) (by omega)
  have k_e := bkoe6 hW5 (k_e.below q.h) (by omega)
  have k_r := bkoe6 hW5 (k_r.below q.h) (by omega)
  have k_t := bkpe6 hW5 (k_t.below q.h)
  have k_d0 := bkoe6 hW5 (k_d0.below q.h) (by omega)
  rw [← hW5]
  clear hW5
  clear B4
  clear c_e_0 c_e_1 c_e_2 c_e_3 c_e_4 c_e_5 c_e_6 c_e_7 c_e_8 c_r_0 c_r_1 c_r_2 c_r_3 c_r_4 c_r_5 c_t_0 c_t_1 c_t_2 c_t_3 c_t_4 c_t_5 f_t_0 f_t_1 f_t_2 f_t_3 f_t_4 f_t_5 c_d0_0 c_d0_1 c_d0_2
  obtain ⟨c_e_0, c_e_1, c_e_2, c_e_3, c_e_4, c_e_5, c_e_6, c_e_7, c_e_8⟩ := bwc9 (k_e)
  obtain ⟨c_r_0, c_r_1, c_r_2, c_r_3, c_r_4, c_r_5⟩ := bwc6 (k_r)
  obtain ⟨c_t_0, c_t_1, c_t_2, c_t_3, c_t_4, c_t_5⟩ := bwc6 (k_t)
  obtain ⟨c_d0_0, c_d0_1, c_d0_2⟩ := bwc3 (k_d0)
  obtain ⟨p5, hp5⟩ : ∃ p : BW W5, p.w = W5 := ⟨BW.start W5, rfl⟩
  rw [← hp5]
  clear hp5
  go_wp2
  rw [rounds_succ]
  go_upto_region 7 with (fail)
  obtain ⟨W6, hW6⟩ : ∃ W, W = p5.w.alloc (.cells #[.int .i64 b1, .int .i64 b2, .int .i64 b3] 37) := ⟨_, rfl⟩
  have B6 : Below w.heap.size w W6 := by rw [hW6]; exact (bw_below B5 p5).alloc (bw_below B5 p5).size _
  have l_d1 : g_d0 < p5.w.heap.size := (k_d0.below p5.h).lt
  have o_d1 : w.heap.size ≤ p5.w.heap.size := (bw_below B5 p5).size
  have l_d1_t : g_t < p5.w.heap.size := (k_t.below p5.h).lt
  have k_e := bka hW6 (k_e.below p5.h)
  have k_r := bka hW6 (k_r.below p5.h)
  have k_t := bka hW6 (k_t.below p5.h)
  have k_d0 := bka hW6 (k_d0.below p5.h)
  have k_d1 := bkn hW6
  rw [← hW6]
  clear hW6
  clear B5
  clear c_e_0 c_e_1 c_e_2 c_e_3 c_e_4 c_e_5 c_e_6 c_e_7 c_e_8 c_r_0 c_r_1 c_r_2 c_r_3 c_r_4 c_r_5 c_t_0 c_t_1 c_t_2 c_t_3 c_t_4 c_t_5 c_d0_0 c_d0_1 c_d0_2
  generalize p5.w.heap.size = g_d1 at *
  obtain ⟨c_e_0, c_e_1, c_e_2, c_e_3, c_e_4, c_e_5, c_e_6, c_e_7, c_e_8⟩ := bwc9 (k_e)
  obtain ⟨c_r_0, c_r_1, c_r_2, c_r_3, c_r_4, c_r_5⟩ := bwc6 (k_r)
  obtain ⟨c_t_0, c_t_1, c_t_2, c_t_3, c_t_4, c_t_5⟩ := bwc6 (k_t)
  obtain ⟨f_t_0, f_t_1, f_t_2, f_t_3, f_t_4, f_t_5⟩ := bwf6 (k_t)
  obtain ⟨c_d0_0, c_d0_1, c_d0_2⟩ := bwc3 (k_d0)
  obtain ⟨c_d1_0, c_d1_1, c_d1_2⟩ := bwc3 (k_d1)
  obtain ⟨p6, hp6⟩ : ∃ p : BW W6, p.w = W6 := ⟨BW.start W6, rfl⟩
  rw [← hp6]
  clear hp6
  go_upto_region 9 with (first
    | (go_at_call 60; (first | (with_reducible refine (bw_call N1.out _).mono ?_)); rintro e w' ⟨rfl, q, rfl⟩))
  refine wp_region_bw_tail 8 (by kernel_rfl) (by kernel_rfl) (by kernel_rfl) ?_
  simp only [List.take_succ_cons, List.take_zero, List.drop_succ_cons, List.drop_zero]
  repeat (go_big_quiet_step (first
    | (go_at_call 49; (first | (with_reducible exact bw_call L1.out _)))
    | (go_at_call 50; (first | (with_reducible exact bw_call H1.out _)))))
  refine wpQuiet_nil ?_
  intro _ hw'
  obtain ⟨q, rfl⟩ := hw'
  go_upto_region 10 with (fail)
  obtain ⟨W7, hW7⟩ : ∃ W, W = (((((q.w.setCell ⟨g_t, 0, none⟩ (.int .i64 x1)).setCell ⟨g_t, 1, none⟩ (.int .i64 x2)).setCell ⟨g_t, 2, none⟩ (.int .i64 x3)).setCell ⟨g_t, 3, none⟩ (.int .i64 y1)).setCell ⟨g_t, 4, none⟩ (.int .i64 y2)).setCell ⟨g_t, 5, none⟩ (.int .i64 y3) := ⟨_, rfl⟩
  have B7 : Below w.heap.size w W7 := by rw [hW7]; exact blp6 (bw_below B6 q) (by omega)
  have k_e := bkoe6 hW7 (k_e.below q.h) (by omega)
  have k_r := bkoe6 hW7 (k_r.below q.h) (by omega)
  have k_t := bkpe6 hW7 (k_t.below q.h)
  have k_d0 := bkoe6 hW7 (k_d0.below q.h) (by omega)
  have k_d1 := bkoe6 hW7 (k_d1.below q.h) (by omega)
  rw [← hW7]
  clear hW7
  clear B6
  clear c_e_0 c_e_1 c_e_2 c_e_3 c_e_4 c_e_5 c_e_6 c_e_7 c_e_8 c_r_0 c_r_1 c_r_2 c_r_3 c_r_4 c_r_5 c_t_0 c_t_1 c_t_2 c_t_3 c_t_4 c_t_5 f_t_0 f_t_1 f_t_2 f_t_3 f_t_4 f_t_5 c_d0_0 c_d0_1 c_d0_2 c_d1_0 c_d1_1 c_d1_2
  obtain ⟨c_e_0, c_e_1, c_e_2, c_e_3, c_e_4, c_e_5, c_e_6, c_e_7, c_e_8⟩ := bwc9 (k_e)
  obtain ⟨c_r_0, c_r_1, c_r_2, c_r_3, c_r_4, c_r_5⟩ := bwc6 (k_r)
  obtain ⟨c_t_0, c_t_1, c_t_2, c_t_3, c_t_4, c_t_5⟩ := bwc6 (k_t)
  obtain ⟨c_d0_0, c_d0_1, c_d0_2⟩ := bwc3 (k_d0)
  obtain ⟨c_d1_0, c_d1_1, c_d1_2⟩ := bwc3 (k_d1)
  obtain ⟨p7, hp7⟩ : ∃ p : BW W7, p.w = W7 := ⟨BW.start W7, rfl⟩
  rw [← hp7]
  clear hp7
  go_wp2
  rw [rounds_succ]
  go_upto_region 7 with (fail)
  obtain ⟨W8, hW8⟩ : ∃ W, W = p7.w.alloc (.cells #[.int .i64 c1, .int .i64 c2, .int .i64 c3] 37) := ⟨_, rfl⟩
  have B8 : Below w.heap.size w W8 := by rw [hW8]; exact (bw_below B7 p7).alloc (bw_below B7 p7).size _
  have l_d2 : g_d1 < p7.w.heap.size := (k_d1.below p7.h).lt
  have o_d2 : w.heap.size ≤ p7.w.heap.size := (bw_below B7 p7).size
  have l_d2_t : g_t < p7.w.heap.size := (k_t.below p7.h).lt
  have k_e := bka hW8 (k_e.below p7.h)
  have k_r := bka hW8 (k_r.below p7.h)
  have k_t := bka hW8 (k_t.below p7.h)
  have k_d0 := bka hW8 (k_d0.below p7.h)
  have k_d1 := bka hW8 (k_d1.below p7.h)
  have k_d2 := bkn hW8
  rw [← hW8]
  clear hW8
  clear B7
  clear c_e_0 c_e_1 c_e_2 c_e_3 c_e_4 c_e_5 c_e_6 c_e_7 c_e_8 c_r_0 c_r_1 c_r_2 c_r_3 c_r_4 c_r_5 c_t_0 c_t_1 c_t_2 c_t_3 c_t_4 c_t_5 c_d0_0 c_d0_1 c_d0_2 c_d1_0 c_d1_1 c_d1_2
  generalize p7.w.heap.size = g_d2 at *
  obtain ⟨c_e_0, c_e_1, c_e_2, c_e_3, c_e_4, c_e_5, c_e_6, c_e_7, c_e_8⟩ := bwc9 (k_e)
  obtain ⟨c_r_0, c_r_1, c_r_2, c_r_3, c_r_4, c_r_5⟩ := bwc6 (k_r)
  obtain ⟨c_t_0, c_t_1, c_t_2, c_t_3, c_t_4, c_t_5⟩ := bwc6 (k_t)
  obtain ⟨f_t_0, f_t_1, f_t_2, f_t_3, f_t_4, f_t_5⟩ := bwf6 (k_t)
  obtain ⟨c_d0_0, c_d0_1, c_d0_2⟩ := bwc3 (k_d0)
  obtain ⟨c_d1_0, c_d1_1, c_d1_2⟩ := bwc3 (k_d1)
  obtain ⟨c_d2_0, c_d2_1, c_d2_2⟩ := bwc3 (k_d2)
  obtain ⟨p8, hp8⟩ : ∃ p : BW W8, p.w = W8 := ⟨BW.start W8, rfl⟩
  rw [← hp8]
  clear hp8
  go_upto_region 9 with (first
    | (go_at_call 60; (first | (with_reducible refine (bw_call N2.out _).mono ?_)); rintro e w' ⟨rfl, q, rfl⟩))
  refine wp_region_bw_tail 8 (by kernel_rfl) (by kernel_rfl) (by kernel_rfl) ?_
  simp only [List.take_succ_cons, List.take_zero, List.drop_succ_cons, List.drop_zero]
  repeat (go_big_quiet_step (first
    | (go_at_call 49; (first | (with_reducible exact bw_call L2.out _)))
    | (go_at_call 50; (first | (with_reducible exact bw_call H2.out _)))))
  refine wpQuiet_nil ?_
  intro _ hw'
  obtain ⟨q, rfl⟩ := hw'
  go_upto_region 10 with (fail)
  obtain ⟨W9, hW9⟩ : ∃ W, W = (((((q.w.setCell ⟨g_t, 0, none⟩ (.int .i64 u1)).setCell ⟨g_t, 1, none⟩ (.int .i64 u2)).setCell ⟨g_t, 2, none⟩ (.int .i64 u3)).setCell ⟨g_t, 3, none⟩ (.int .i64 v1)).setCell ⟨g_t, 4, none⟩ (.int .i64 v2)).setCell ⟨g_t, 5, none⟩ (.int .i64 v3) := ⟨_, rfl⟩
  have B9 : Below w.heap.size w W9 := by rw [hW9]; exact blp6 (bw_below B8 q) (by omega)
  have k_e := bkoe6 hW9 (k_e.below q.h) (by omega)
  have k_r := bkoe6 hW9 (k_r.below q.h) (by omega)
  have k_t := bkpe6 hW9 (k_t.below q.h)
  have k_d0 := bkoe6 hW9 (k_d0.below q.h) (by omega)
  have k_d1 := bkoe6 hW9 (k_d1.below q.h) (by omega)
  have k_d2 := bkoe6 hW9 (k_d2.below q.h) (by omega)
  rw [← hW9]
  clear hW9
  clear B8
  clear c_e_0 c_e_1 c_e_2 c_e_3 c_e_4 c_e_5 c_e_6 c_e_7 c_e_8 c_r_0 c_r_1 c_r_2 c_r_3 c_r_4 c_r_5 c_t_0 c_t_1 c_t_2 c_t_3 c_t_4 c_t_5 f_t_0 f_t_1 f_t_2 f_t_3 f_t_4 f_t_5 c_d0_0 c_d0_1 c_d0_2 c_d1_0 c_d1_1 c_d1_2 c_d2_0 c_d2_1 c_d2_2
  obtain ⟨c_e_0, c_e_1, c_e_2, c_e_3, c_e_4, c_e_5, c_e_6, c_e_7, c_e_8⟩ := bwc9 (k_e)
  obtain ⟨c_r_0, c_r_1, c_r_2, c_r_3, c_r_4, c_r_5⟩ := bwc6 (k_r)
  obtain ⟨f_r_0, f_r_1, f_r_2, f_r_3, f_r_4, f_r_5⟩ := bwf6 (k_r)
  obtain ⟨c_t_0, c_t_1, c_t_2, c_t_3, c_t_4, c_t_5⟩ := bwc6 (k_t)
  obtain ⟨c_d0_0, c_d0_1, c_d0_2⟩ := bwc3 (k_d0)
  obtain ⟨c_d1_0, c_d1_1, c_d1_2⟩ := bwc3 (k_d1)
  obtain ⟨c_d2_0, c_d2_1, c_d2_2⟩ := bwc3 (k_d2)
  obtain ⟨p9, hp9⟩ : ∃ p : BW W9, p.w = W9 := ⟨BW.start W9, rfl⟩
  rw [← hp9]
  clear hp9
  go_wp2
  rw [rounds_succ]
  go_wp2
  have kr := bkp6 (k_r.below p9.h) (.int .i64 u1) (.int .i64 u2) (.int .i64 u3) (.int .i64 v1) (.int .i64 v2) (.int .i64 v3)
  obtain ⟨rc0, rc1, rc2, rc3, rc4, rc5⟩ := rwc6 kr
  exact bodyPost_ret (v := .tuple #[.agg #[.int .i64 u1, .int .i64 u2, .int .i64 u3, .int .i64 v1, .int .i64 v2, .int .i64 v3], .bool true]) (by simp [results, Tryz.results40, go_sem, rc0, rc1, rc2, rc3, rc4, rc5]) rfl ⟨rfl, blp6 (bw_below B9 p9) (by omega)⟩

/-- As box_Of3, of the block that was made last. -/
theorem box_Of3_last (cap : Nat) (a1 a2 a3 b1 b2 b3 c1 c2 c3 : Int) (wb w0 w : World) (hw : w = w0.alloc (.cells #[.int .i64 a1, .int .i64 a2, .int .i64 a3, .int .i64 b1, .int .i64 b2, .int .i64 b3, .int .i64 c1, .int .i64 c2, .int .i64 c3] 37)) (hB : Below wb.heap.size wb w0) (h1 : vnear a1 a2 a3 = true) (h2 : vnear b1 b2 b3 = true) (h3 : vnear c1 c2 c3 = true) :
    Calls Tryz.prog 40 #[.slice (some ⟨w0.heap.size, 0, none⟩) 3 cap] w fun e w' => e = .returned (.tuple #[.agg #[.int .i64 (min (min a1 b1) c1), .int .i64 (min (min a2 b2) c2), .int .i64 (min (min a3 b3) c3), .int .i64 (max (max a1 b1) c1), .int .i64 (max (max a2 b2) c2), .int .i64 (max (max a3 b3) c3)], .bool true]) ∧ Below wb.heap.size wb w' := by
  have kb : Bk w w0.heap.size 37 #[.int .i64 a1, .int .i64 a2, .int .i64 a3, .int .i64 b1, .int .i64 b2, .int .i64 b3, .int .i64 c1, .int .i64 c2, .int .i64 c3] := by rw [hw]; exact Bk.new _ _ _
  have B0 : Below wb.heap.size wb w := by rw [hw]; exact hB.alloc hB.size _
  clear hw
  exact (box_Of3 a1 a2 a3 b1 b2 b3 c1 c2 c3 w w0.heap.size cap kb h1 h2 h3).mono (fun e w' h => ⟨h.1, B0.trans (h.2.mono B0.size)⟩)

set_option maxRecDepth 100000 in
set_option maxHeartbeats 4000000 in
theorem prim_tri_right (a1 a2 a3 b1 b2 b3 c1 c2 c3 : Int) (w : World) (ha : I3 (a1, a2, a3)) (hb : I3 (b1, b2, b3)) (hc : I3 (c1, c2, c3)) :
    Calls Tryz.prog 112 #[.agg #[.int .i64 a1, .int .i64 a2, .int .i64 a3, .int .i64 b1, .int .i64 b2, .int .i64 b3, .int .i64 c1, .int .i64 c2, .int .i64 c3]] w fun en w' => en = .returned (.bool (!tFlat (a1, a2, a3) (b1, b2, b3) (c1, c2, c3))) ∧ Below w.heap.size w w' := by
  have K := Lib.hid (fun w => tri_Flat a1 a2 a3 b1 b2 b3 c1 c2 c3 w ha hb hc)
  generalize tFlat (a1, a2, a3) (b1, b2, b3) (c1, c2, c3) = e at *
  clear ha hb hc
  go_enter Tryz.func112, Tryz.ntmps112
  go_upto_region 1 with (fail)
  obtain ⟨W1, hW1⟩ : ∃ W, W = w.alloc (.cells #[.int .i64 a1, .int .i64 a2, .int .i64 a3, .int .i64 b1, .int .i64 b2, .int .i64 b3, .int .i64 c1, .int .i64 c2, .int .i64 c3] 99) := ⟨_, rfl⟩
  obtain ⟨k_s, B1⟩ := st1 hW1
  rw [← hW1]
  clear hW1
  obtain ⟨c_s_0, c_s_1, c_s_2, c_s_3, c_s_4, c_s_5, c_s_6, c_s_7, c_s_8⟩ := bwc9 (k_s)
  obtain ⟨p1, hp1⟩ : ∃ p : BW W1, p.w = W1 := ⟨BW.start W1, rfl⟩
  rw [← hp1]
  clear hp1
  go_wp2_with (first
    | (go_at_call 113; (first | (with_reducible refine (bw_call K.out _).mono ?_)); rintro e w' ⟨rfl, q, rfl⟩))
  go_ret
  exact ⟨rfl, bw_below B1 _⟩

set_option maxRecDepth 100000 in
set_option maxHeartbeats 4000000 in
theorem prim_sph_right (a1 a2 a3 r : Int) (w : World) (ha : I3 (a1, a2, a3)) (hr : I64 r) :
    Calls Tryz.prog 118 #[.agg #[.int .i64 a1, .int .i64 a2, .int .i64 a3, .int .i64 r]] w fun en w' => en = .returned (.bool (ballR (a1, a2, a3) r)) ∧ Below w.heap.size w w' := by
  have K := Lib.hid (fun w => ball_Right a1 a2 a3 r w ha hr)
  generalize ballR (a1, a2, a3) r = e at *
  clear ha hr
  go_enter Tryz.func118, Tryz.ntmps118
  go_upto_region 1 with (fail)
  obtain ⟨W1, hW1⟩ : ∃ W, W = w.alloc (.cells #[.int .i64 a1, .int .i64 a2, .int .i64 a3, .int .i64 r] 104) := ⟨_, rfl⟩
  obtain ⟨k_s, B1⟩ := st1 hW1
  rw [← hW1]
  clear hW1
  obtain ⟨c_s_0, c_s_1, c_s_2, c_s_3⟩ := bwc4 (k_s)
  obtain ⟨p1, hp1⟩ : ∃ p : BW W1, p.w = W1 := ⟨BW.start W1, rfl⟩
  rw [← hp1]
  clear hp1
  go_wp2_with (first
    | (go_at_call 119; (first | (with_reducible refine (bw_call K.out _).mono ?_)); rintro e w' ⟨rfl, q, rfl⟩))
  go_ret
  exact ⟨rfl, bw_below B1 _⟩

set_option maxRecDepth 100000 in
set_option maxHeartbeats 4000000 in
theorem prim_named_tri (a1 a2 a3 b1 b2 b3 c1 c2 c3 m : Int) (w : World) :
    Calls Tryz.prog 59 #[.agg #[.int .i64 1, .int .i64 a1, .int .i64 a2, .int .i64 a3, .int .i64 b1, .int .i64 b2, .int .i64 b3, .int .i64 c1, .int .i64 c2, .int .i64 c3, .int .i64 0, .int .i64 m]] w fun en w' => en = .returned (.iface 99 (.agg #[.int .i64 a1, .int .i64 a2, .int .i64 a3, .int .i64 b1, .int .i64 b2, .int .i64 b3, .int .i64 c1, .int .i64 c2, .int .i64 c3])) ∧ Below w.heap.size w w' := by
  go_enter Tryz.func59, Tryz.ntmps59
  go_upto_region 1 with (fail)
  obtain ⟨W1, hW1⟩ : ∃ W, W = w.alloc (.cells #[.int .i64 1, .int .i64 a1, .int .i64 a2, .int .i64 a3, .int .i64 b1, .int .i64 b2, .int .i64 b3, .int .i64 c1, .int .i64 c2, .int .i64 c3, .int .i64 0, .int .i64 m] 39) := ⟨_, rfl⟩
  obtain ⟨k_p, B1⟩ := st1 hW1
  rw [← hW1]
  clear hW1
  obtain ⟨c_p_0, c_p_1, c_p_2, c_p_3, c_p_4, c_p_5, c_p_6, c_p_7, c_p_8, c_p_9, c_p_10, c_p_11⟩ := bwc12 (k_p)
  obtain ⟨p1, hp1⟩ : ∃ p : BW W1, p.w = W1 := ⟨BW.start W1, rfl⟩
  rw [← hp1]
  clear hp1
  go_upto_region 2 with (fail)
  obtain ⟨W2, hW2⟩ : ∃ W, W = p1.w.alloc (.cells #[.int .i64 0, .int .i64 0, .int .i64 0] 37) := ⟨_, rfl⟩
  have B2 : Below w.heap.size w W2 := by rw [hW2]; exact (bw_below B1 p1).alloc (bw_below B1 p1).size _
  have l_n : w.heap.size < p1.w.heap.size := (k_p.below p1.h).lt
  have o_n : w.heap.size ≤ p1.w.heap.size := (bw_below B1 p1).size
  have k_p := bka hW2 (k_p.below p1.h)
  have k_n := bkn hW2
  rw [← hW2]
  clear hW2
  clear B1
  clear c_p_0 c_p_1 c_p_2 c_p_3 c_p_4 c_p_5 c_p_6 c_p_7 c_p_8 c_p_9 c_p_10 c_p_11
  generalize p1.w.heap.size = g_n at *
  obtain ⟨c_p_0, c_p_1, c_p_2, c_p_3, c_p_4, c_p_5, c_p_6, c_p_7, c_p_8, c_p_9, c_p_10, c_p_11⟩ := bwc12 (k_p)
  obtain ⟨c_n_0, c_n_1, c_n_2⟩ := bwc3 (k_n)
  obtain ⟨p2, hp2⟩ : ∃ p : BW W2, p.w = W2 := ⟨BW.start W2, rfl⟩
  rw [← hp2]
  clear hp2
  go_wp2
  go_ret
  exact ⟨rfl, bw_below B2 _⟩

set_option maxRecDepth 100000 in
set_option maxHeartbeats 4000000 in
theorem prim_named_tri_r (a1 a2 a3 b1 b2 b3 c1 c2 c3 r m : Int) (w : World) (h : ¬ r = 0) :
    Calls Tryz.prog 59 #[.agg #[.int .i64 1, .int .i64 a1, .int .i64 a2, .int .i64 a3, .int .i64 b1, .int .i64 b2, .int .i64 b3, .int .i64 c1, .int .i64 c2, .int .i64 c3, .int .i64 r, .int .i64 m]] w fun en w' => en = .returned (.nilIface) ∧ Below w.heap.size w w' := by
  go_enter Tryz.func59, Tryz.ntmps59
  go_upto_region 1 with (fail)
  obtain ⟨W1, hW1⟩ : ∃ W, W = w.alloc (.cells #[.int .i64 1, .int .i64 a1, .int .i64 a2, .int .i64 a3, .int .i64 b1, .int .i64 b2, .int .i64 b3, .int .i64 c1, .int .i64 c2, .int .i64 c3, .int .i64 r, .int .i64 m] 39) := ⟨_, rfl⟩
  obtain ⟨k_p, B1⟩ := st1 hW1
  rw [← hW1]
  clear hW1
  obtain ⟨c_p_0, c_p_1, c_p_2, c_p_3, c_p_4, c_p_5, c_p_6, c_p_7, c_p_8, c_p_9, c_p_10, c_p_11⟩ := bwc12 (k_p)
  obtain ⟨p1, hp1⟩ : ∃ p : BW W1, p.w = W1 := ⟨BW.start W1, rfl⟩
  rw [← hp1]
  clear hp1
  go_upto_region 2 with (fail)
  obtain ⟨W2, hW2⟩ : ∃ W, W = p1.w.alloc (.cells #[.int .i64 0, .int .i64 0, .int .i64 0] 37) := ⟨_, rfl⟩
  have B2 : Below w.heap.size w W2 := by rw [hW2]; exact (bw_below B1 p1).alloc (bw_below B1 p1).size _
  have l_n : w.heap.size < p1.w.heap.size := (k_p.below p1.h).lt
  have o_n : w.heap.size ≤ p1.w.heap.size := (bw_below B1 p1).size
  have k_p := bka hW2 (k_p.below p1.h)
  have k_n := bkn hW2
  rw [← hW2]
  clear hW2
  clear B1
  clear c_p_0 c_p_1 c_p_2 c_p_3 c_p_4 c_p_5 c_p_6 c_p_7 c_p_8 c_p_9 c_p_10 c_p_11
  generalize p1.w.heap.size = g_n at *
  obtain ⟨c_p_0, c_p_1, c_p_2, c_p_3, c_p_4, c_p_5, c_p_6, c_p_7, c_p_8, c_p_9, c_p_10, c_p_11⟩ := bwc12 (k_p)
  obtain ⟨c_n_0, c_n_1, c_n_2⟩ := bwc3 (k_n)
  obtain ⟨p2, hp2⟩ : ∃ p : BW W2, p.w = W2 := ⟨BW.start W2, rfl⟩
  rw [← hp2]
  clear hp2
  go_wp2
  go_ret
  exact ⟨rfl, bw_below B2 _⟩

set_option maxRecDepth 100000 in
set_option maxHeartbeats 4000000 in
theorem prim_named_sph (a1 a2 a3 r m : Int) (w : World) :
    Calls Tryz.prog 59 #[.agg #[.int .i64 2, .int .i64 a1, .int .i64 a2, .int .i64 a3, .int .i64 0, .int .i64 0, .int .i64 0, .int .i64 0, .int .i64 0, .int .i64 0, .int .i64 r, .int .i64 m]] w fun en w' => en = .returned (.iface 104 (.agg #[.int .i64 a1, .int .i64 a2, .int .i64 a3, .int .i64 r])) ∧ Below w.heap.size w w' := by
  go_enter Tryz.func59, Tryz.ntmps59
  go_upto_region 1 with (fail)
  obtain ⟨W1, hW1⟩ : ∃ W, W = w.alloc (.cells #[.int .i64 2, .int .i64 a1, .int .i64 a2, .int .i64 a3, .int .i64 0, .int .i64 0, .int .i64 0, .int .i64 0, .int .i64 0, .int .i64 0, .int .i64 r, .int .i64 m] 39) := ⟨_, rfl⟩
  obtain ⟨k_p, B1⟩ := st1 hW1
  rw [← hW1]
  clear hW1
  obtain ⟨c_p_0, c_p_1, c_p_2, c_p_3, c_p_4, c_p_5, c_p_6, c_p_7, c_p_8, c_p_9, c_p_10, c_p_11⟩ := bwc12 (k_p)
  obtain ⟨p1, hp1⟩ : ∃ p : BW W1, p.w = W1 := ⟨BW.start W1, rfl⟩
  rw [← hp1]
  clear hp1
  go_upto_region 2 with (fail)
  obtain ⟨W2, hW2⟩ : ∃ W, W = p1.w.alloc (.cells #[.int .i64 0, .int .i64 0, .int .i64 0] 37) := ⟨_, rfl⟩
  have B2 : Below w.heap.size w W2 := by rw [hW2]; exact (bw_below B1 p1).alloc (bw_below B1 p1).size _
  have l_n : w.heap.size < p1.w.heap.size := (k_p.below p1.h).lt
  have o_n : w.heap.size ≤ p1.w.heap.size := (bw_below B1 p1).size
  have k_p := bka hW2 (k_p.below p1.h)
  have k_n := bkn hW2
  rw [← hW2]
  clear hW2
  clear B1
  clear c_p_0 c_p_1 c_p_2 c_p_3 c_p_4 c_p_5 c_p_6 c_p_7 c_p_8 c_p_9 c_p_10 c_p_11
  generalize p1.w.heap.size = g_n at *
  obtain ⟨c_p_0, c_p_1, c_p_2, c_p_3, c_p_4, c_p_5, c_p_6, c_p_7, c_p_8, c_p_9, c_p_10, c_p_11⟩ := bwc12 (k_p)
  obtain ⟨c_n_0, c_n_1, c_n_2⟩ := bwc3 (k_n)
  obtain ⟨p2, hp2⟩ : ∃ p : BW W2, p.w = W2 := ⟨BW.start W2, rfl⟩
  rw [← hp2]
  clear hp2
  go_wp2
  go_ret
  exact ⟨rfl, bw_below B2 _⟩

set_option maxRecDepth 100000 in
set_option maxHeartbeats 4000000 in
theorem prim_named_sph_0 (a1 a2 a3 b1 b2 b3 c1 c2 c3 r m : Int) (w : World) (h : ¬ b1 = 0) :
    Calls Tryz.prog 59 #[.agg #[.int .i64 2, .int .i64 a1, .int .i64 a2, .int .i64 a3, .int .i64 b1, .int .i64 b2, .int .i64 b3, .int .i64 c1, .int .i64 c2, .int .i64 c3, .int .i64 r, .int .i64 m]] w fun en w' => en = .returned (.nilIface) ∧ Below w.heap.size w w' := by
  go_enter Tryz.func59, Tryz.ntmps59
  go_upto_region 1 with (fail)
  obtain ⟨W1, hW1⟩ : ∃ W, W = w.alloc (.cells #[.int .i64 2, .int .i64 a1, .int .i64 a2, .int .i64 a3, .int .i64 b1, .int .i64 b2, .int .i64 b3, .int .i64 c1, .int .i64 c2, .int .i64 c3, .int .i64 r, .int .i64 m] 39) := ⟨_, rfl⟩
  obtain ⟨k_p, B1⟩ := st1 hW1
  rw [← hW1]
  clear hW1
  obtain ⟨c_p_0, c_p_1, c_p_2, c_p_3, c_p_4, c_p_5, c_p_6, c_p_7, c_p_8, c_p_9, c_p_10, c_p_11⟩ := bwc12 (k_p)
  obtain ⟨p1, hp1⟩ : ∃ p : BW W1, p.w = W1 := ⟨BW.start W1, rfl⟩
  rw [← hp1]
  clear hp1
  go_upto_region 2 with (fail)
  obtain ⟨W2, hW2⟩ : ∃ W, W = p1.w.alloc (.cells #[.int .i64 0, .int .i64 0, .int .i64 0] 37) := ⟨_, rfl⟩
  have B2 : Below w.heap.size w W2 := by rw [hW2]; exact (bw_below B1 p1).alloc (bw_below B1 p1).size _
  have l_n : w.heap.size < p1.w.heap.size := (k_p.below p1.h).lt
  have o_n : w.heap.size ≤ p1.w.heap.size := (bw_below B1 p1).size
  have k_p := bka hW2 (k_p.below p1.h)
  have k_n := bkn hW2
  rw [← hW2]
  clear hW2
  clear B1
  clear c_p_0 c_p_1 c_p_2 c_p_3 c_p_4 c_p_5 c_p_6 c_p_7 c_p_8 c_p_9 c_p_10 c_p_11
  generalize p1.w.heap.size = g_n at *
  obtain ⟨c_p_0, c_p_1, c_p_2, c_p_3, c_p_4, c_p_5, c_p_6, c_p_7, c_p_8, c_p_9, c_p_10, c_p_11⟩ := bwc12 (k_p)
  obtain ⟨c_n_0, c_n_1, c_n_2⟩ := bwc3 (k_n)
  obtain ⟨p2, hp2⟩ : ∃ p : BW W2, p.w = W2 := ⟨BW.start W2, rfl⟩
  rw [← hp2]
  clear hp2
  go_wp2
  go_ret
  exact ⟨rfl, bw_below B2 _⟩

set_option maxRecDepth 100000 in
set_option maxHeartbeats 4000000 in
theorem prim_named_sph_1 (a1 a2 a3 b2 b3 c1 c2 c3 r m : Int) (w : World) (h : ¬ b2 = 0) :
    Calls Tryz.prog 59 #[.agg #[.int .i64 2, .int .i64 a1, .int .i64 a2, .int .i64 a3, .int .i64 0, .int .i64 b2, .int .i64 b3, .int .i64 c1, .int .i64 c2, .int .i64 c3, .int .i64 r, .int .i64 m]] w fun en w' => en = .returned (.nilIface) ∧ Below w.heap.size w w' := by
  go_enter Tryz.func59, Tryz.ntmps59
  go_upto_region 1 with (fail)
  obtain ⟨W1, hW1⟩ : ∃ W, W = w.alloc (.cells #[.int .i64 2, .int .i64 a1, .int .i64 a2, .int .i64 a3, .int .i64 0, .int .i64 b2, .int .i64 b3, .int .i64 c1, .int .i64 c2, .int .i64 c3, .int .i64 r, .int .i64 m] 39) := ⟨_, rfl⟩
  obtain ⟨k_p, B1⟩ := st1 hW1
  rw [← hW1]
  clear hW1
  obtain ⟨c_p_0, c_p_1, c_p_2, c_p_3, c_p_4, c_p_5, c_p_6, c_p_7, c_p_8, c_p_9, c_p_10, c_p_11⟩ := bwc12 (k_p)
  obtain ⟨p1, hp1⟩ : ∃ p : BW W1, p.w = W1 := ⟨BW.start W1, rfl⟩
  rw [← hp1]
  clear hp1
  go_upto_region 2 with (fail)
  obtain ⟨W2, hW2⟩ : ∃ W, W = p1.w.alloc (.cells #[.int .i64 0, .int .i64 0, .int .i64 0] 37) := ⟨_, rfl⟩
  have B2 : Below w.heap.size w W2 := by rw [hW2]; exact (bw_below B1 p1).alloc (bw_below B1 p1).size _
  have l_n : w.heap.size < p1.w.heap.size := (k_p.below p1.h).lt
  have o_n : w.heap.size ≤ p1.w.heap.size := (bw_below B1 p1).size
  have k_p := bka hW2 (k_p.below p1.h)
  have k_n := bkn hW2
  rw [← hW2]
  clear hW2
  clear B1
  clear c_p_0 c_p_1 c_p_2 c_p_3 c_p_4 c_p_5 c_p_6 c_p_7 c_p_8 c_p_9 c_p_10 c_p_11
  generalize p1.w.heap.size = g_n at *
  obtain ⟨c_p_0, c_p_1, c_p_2, c_p_3, c_p_4, c_p_5, c_p_6, c_p_7, c_p_8, c_p_9, c_p_10, c_p_11⟩ := bwc12 (k_p)
  obtain ⟨c_n_0, c_n_1, c_n_2⟩ := bwc3 (k_n)
  obtain ⟨p2, hp2⟩ : ∃ p : BW W2, p.w = W2 := ⟨BW.start W2, rfl⟩
  rw [← hp2]
  clear hp2
  go_wp2
  go_ret
  exact ⟨rfl, bw_below B2 _⟩

set_option maxRecDepth 100000 in
set_option maxHeartbeats 4000000 in
theorem prim_named_sph_2 (a1 a2 a3 b3 c1 c2 c3 r m : Int) (w : World) (h : ¬ b3 = 0) :
    Calls Tryz.prog 59 #[.agg #[.int .i64 2, .int .i64 a1, .int .i64 a2, .int .i64 a3, .int .i64 0, .int .i64 0, .int .i64 b3, .int .i64 c1, .int .i64 c2, .int .i64 c3, .int .i64 r, .int .i64 m]] w fun en w' => en = .returned (.nilIface) ∧ Below w.heap.size w w' := by
  go_enter Tryz.func59, Tryz.ntmps59
  go_upto_region 1 with (fail)
  obtain ⟨W1, hW1⟩ : ∃ W, W = w.alloc (.cells #[.int .i64 2, .int .i64 a1, .int .i64 a2, .int .i64 a3, .int .i64 0, .int .i64 0, .int .i64 b3, .int .i64 c1, .int .i64 c2, .int .i64 c3, .int .i64 r, .int .i64 m] 39) := ⟨_, rfl⟩
  obtain ⟨k_p, B1⟩ := st1 hW1
  rw [← hW1]
  clear hW1
  obtain ⟨c_p_0, c_p_1, c_p_2, c_p_3, c_p_4, c_p_5, c_p_6, c_p_7, c_p_8, c_p_9, c_p_10, c_p_11⟩ := bwc12 (k_p)
  obtain ⟨p1, hp1⟩ : ∃ p : BW W1, p.w = W1 := ⟨BW.start W1, rfl⟩
  rw [← hp1]
  clear hp1
  go_upto_region 2 with (fail)
  obtain ⟨W2, hW2⟩ : ∃ W, W = p1.w.alloc (.cells #[.int .i64 0, .int .i64 0, .int .i64 0] 37) := ⟨_, rfl⟩
  have B2 : Below w.heap.size w W2 := by rw [hW2]; exact (bw_below B1 p1).alloc (bw_below B1 p1).size _
  have l_n : w.heap.size < p1.w.heap.size := (k_p.below p1.h).lt
  have o_n : w.heap.size ≤ p1.w.heap.size := (bw_below B1 p1).size
  have k_p := bka hW2 (k_p.below p1.h)
  have k_n := bkn hW2
  rw [← hW2]
  clear hW2
  clear B1
  clear c_p_0 c_p_1 c_p_2 c_p_3 c_p_4 c_p_5 c_p_6 c_p_7 c_p_8 c_p_9 c_p_10 c_p_11
  generalize p1.w.heap.size = g_n at *
  obtain ⟨c_p_0, c_p_1, c_p_2, c_p_3, c_p_4, c_p_5, c_p_6, c_p_7, c_p_8, c_p_9, c_p_10, c_p_11⟩ := bwc12 (k_p)
  obtain ⟨c_n_0, c_n_1, c_n_2⟩ := bwc3 (k_n)
  obtain ⟨p2, hp2⟩ : ∃ p : BW W2, p.w = W2 := ⟨BW.start W2, rfl⟩
  rw [← hp2]
  clear hp2
  go_wp2
  go_ret
  exact ⟨rfl, bw_below B2 _⟩

set_option maxRecDepth 100000 in
set_option maxHeartbeats 4000000 in
theorem prim_named_sph_3 (a1 a2 a3 c1 c2 c3 r m : Int) (w : World) (h : ¬ c1 = 0) :
    Calls Tryz.prog 59 #[.agg #[.int .i64 2, .int .i64 a1, .int .i64 a2, .int .i64 a3, .int .i64 0, .int .i64 0, .int .i64 0, .int .i64 c1, .int .i64 c2, .int .i64 c3, .int .i64 r, .int .i64 m]] w fun en w' => en = .returned (.nilIface) ∧ Below w.heap.size w w' := by
  go_enter Tryz.func59, Tryz.ntmps59
  go_upto_region 1 with (fail)
  obtain ⟨W1, hW1⟩ : ∃ W, W = w.alloc (.cells #[.int .i64 2, .int .i64 a1, .int .i64 a2, .int .i64 a3, .int .i64 0, .int .i64 0, .int .i64 0, .int .i64 c1, .int .i64 c2, .int .i64 c3, .int .i64 r, .int .i64 m] 39) := ⟨_, rfl⟩
  obtain ⟨k_p, B1⟩ := st1 hW1
  rw [← hW1]
  clear hW1
  obtain ⟨c_p_0, c_p_1, c_p_2, c_p_3, c_p_4, c_p_5, c_p_6, c_p_7, c_p_8, c_p_9, c_p_10, c_p_11⟩ := bwc12 (k_p)
  obtain ⟨p1, hp1⟩ : ∃ p : BW W1, p.w = W1 := ⟨BW.start W1, rfl⟩
  rw [← hp1]
  clear hp1
  go_upto_region 2 with (fail)
  obtain ⟨W2, hW2⟩ : ∃ W, W = p1.w.alloc (.cells #[.int .i64 0, .int .i64 0, .int .i64 0] 37) := ⟨_, rfl⟩
  have B2 : Below w.heap.size w W2 := by rw [hW2]; exact (bw_below B1 p1).alloc (bw_below B1 p1).size _
  have l_n : w.heap.size < p1.w.heap.size := (k_p.below p1.h).lt
  have o_n : w.heap.size ≤ p1.w.heap.size := (bw_below B1 p1).size
  have k_p := bka hW2 (k_p.below p1.h)
  have k_n := bkn hW2
  rw [← hW2]
  clear hW2
  clear B1
  clear c_p_0 c_p_1 c_p_2 c_p_3 c_p_4 c_p_5 c_p_6 c_p_7 c_p_8 c_p_9 c_p_10 c_p_11
  generalize p1.w.heap.size = g_n at *
  obtain ⟨c_p_0, c_p_1, c_p_2, c_p_3, c_p_4, c_p_5, c_p_6, c_p_7, c_p_8, c_p_9, c_p_10, c_p_11⟩ := bwc12 (k_p)
  obtain ⟨c_n_0, c_n_1, c_n_2⟩ := bwc3 (k_n)
  obtain ⟨p2, hp2⟩ : ∃ p : BW W2, p.w = W2 := ⟨BW.start W2, rfl⟩
  rw [← hp2]
  clear hp2
  go_wp2
  go_ret
  exact ⟨rfl, bw_below B2 _⟩

set_option maxRecDepth 100000 in
set_option maxHeartbeats 4000000 in
theorem prim_named_sph_4 (a1 a2 a3 c2 c3 r m : Int) (w : World) (h : ¬ c2 = 0) :
    Calls Tryz.prog 59 #[.agg #[.int .i64 2, .int .i64 a1, .int .i64 a2, .int .i64 a3, .int .i64 0, .int .i64 0, .int .i64 0, .int .i64 0, .int .i64 c2, .int .i64 c3, .int .i64 r, .int .i64 m]] w fun en w' => en = .returned (.nilIface) ∧ Below w.heap.size w w' := by
  go_enter Tryz.func59, Tryz.ntmps59
  go_upto_region 1 with (fail)
  obtain ⟨W1, hW1⟩ : ∃ W, W = w.alloc (.cells #[.int .i64 2, .int .i64 a1, .int .i64 a2, .int .i64 a3, .int .i64 0, .int .i64 0, .int .i64 0, .int .i64 0, .int .i64 c2, .int .i64 c3, .int .i64 r, .int .i64 m] 39) := ⟨_, rfl⟩
  obtain ⟨k_p, B1⟩ := st1 hW1
  rw [← hW1]
  clear hW1
  obtain ⟨c_p_0, c_p_1, c_p_2, c_p_3, c_p_4, c_p_5, c_p_6, c_p_7, c_p_8, c_p_9, c_p_10, c_p_11⟩ := bwc12 (k_p)
  obtain ⟨p1, hp1⟩ : ∃ p : BW W1, p.w = W1 := ⟨BW.start W1, rfl⟩
  rw [← hp1]
  clear hp1
  go_upto_region 2 with (fail)
  obtain ⟨W2, hW2⟩ : ∃ W, W = p1.w.alloc (.cells #[.int .i64 0, .int .i64 0, .int .i64 0] 37) := ⟨_, rfl⟩
  have B2 : Below w.heap.size w W2 := by rw [hW2]; exact (bw_below B1 p1).alloc (bw_below B1 p1).size _
  have l_n : w.heap.size < p1.w.heap.size := (k_p.below p1.h).lt
  have o_n : w.heap.size ≤ p1.w.heap.size := (bw_below B1 p1).size
  have k_p := bka hW2 (k_p.below p1.h)
  have k_n := bkn hW2
  rw [← hW2]
  clear hW2
  clear B1
  clear c_p_0 c_p_1 c_p_2 c_p_3 c_p_4 c_p_5 c_p_6 c_p_7 c_p_8 c_p_9 c_p_10 c_p_11
  generalize p1.w.heap.size = g_n at *
  obtain ⟨c_p_0, c_p_1, c_p_2, c_p_3, c_p_4, c_p_5, c_p_6, c_p_7, c_p_8, c_p_9, c_p_10, c_p_11⟩ := bwc12 (k_p)
  obtain ⟨c_n_0, c_n_1, c_n_2⟩ := bwc3 (k_n)
  obtain ⟨p2, hp2⟩ : ∃ p : BW W2, p.w = W2 := ⟨BW.start W2, rfl⟩
  rw [← hp2]
  clear hp2
  go_wp2
  go_ret
  exact ⟨rfl, bw_below B2 _⟩

set_option maxRecDepth 100000 in
set_option maxHeartbeats 4000000 in
theorem prim_named_sph_5 (a1 a2 a3 c3 r m : Int) (w : World) (h : ¬ c3 = 0) :
    Calls Tryz.prog 59 #[.agg #[.int .i64 2, .int .i64 a1, .int .i64 a2, .int .i64 a3, .int .i64 0, .int .i64 0, .int .i64 0, .int .i64 0, .int .i64 0, .int .i64 c3, .int .i64 r, .int .i64 m]] w fun en w' => en = .returned (.nilIface) ∧ Below w.heap.size w w' := by
  go_enter Tryz.func59, Tryz.ntmps59
  go_upto_region 1 with (fail)
  obtain ⟨W1, hW1⟩ : ∃ W, W = w.alloc (.cells #[.int .i64 2, .int .i64 a1, .int .i64 a2, .int .i64 a3, .int .i64 0, .int .i64 0, .int .i64 0, .int .i64 0, .int .i64 0, .int .i64 c3, .int .i64 r, .int .i64 m] 39) := ⟨_, rfl⟩
  obtain ⟨k_p, B1⟩ := st1 hW1
  rw [← hW1]
  clear hW1
  obtain ⟨c_p_0, c_p_1, c_p_2, c_p_3, c_p_4, c_p_5, c_p_6, c_p_7, c_p_8, c_p_9, c_p_10, c_p_11⟩ := bwc12 (k_p)
  obtain ⟨p1, hp1⟩ : ∃ p : BW W1, p.w = W1 := ⟨BW.start W1, rfl⟩
  rw [← hp1]
  clear hp1
  go_upto_region 2 with (fail)
  obtain ⟨W2, hW2⟩ : ∃ W, W = p1.w.alloc (.cells #[.int .i64 0, .int .i64 0, .int .i64 0] 37) := ⟨_, rfl⟩
  have B2 : Below w.heap.size w W2 := by rw [hW2]; exact (bw_below B1 p1).alloc (bw_below B1 p1).size _
  have l_n : w.heap.size < p1.w.heap.size := (k_p.below p1.h).lt
  have o_n : w.heap.size ≤ p1.w.heap.size := (bw_below B1 p1).size
  have k_p := bka hW2 (k_p.below p1.h)
  have k_n := bkn hW2
  rw [← hW2]
  clear hW2
  clear B1
  clear c_p_0 c_p_1 c_p_2 c_p_3 c_p_4 c_p_5 c_p_6 c_p_7 c_p_8 c_p_9 c_p_10 c_p_11
  generalize p1.w.heap.size = g_n at *
  obtain ⟨c_p_0, c_p_1, c_p_2, c_p_3, c_p_4, c_p_5, c_p_6, c_p_7, c_p_8, c_p_9, c_p_10, c_p_11⟩ := bwc12 (k_p)
  obtain ⟨c_n_0, c_n_1, c_n_2⟩ := bwc3 (k_n)
  obtain ⟨p2, hp2⟩ : ∃ p : BW W2, p.w = W2 := ⟨BW.start W2, rfl⟩
  rw [← hp2]
  clear hp2
  go_wp2
  go_ret
  exact ⟨rfl, bw_below B2 _⟩

set_option maxRecDepth 100000 in
set_option maxHeartbeats 4000000 in
theorem prim_named_none (k a1 a2 a3 b1 b2 b3 c1 c2 c3 r m : Int) (w : World) (h1 : ¬ k = 1) (h2 : ¬ k = 2) :
    Calls Tryz.prog 59 #[.agg #[.int .i64 k, .int .i64 a1, .int .i64 a2, .int .i64 a3, .int .i64 b1, .int .i64 b2, .int .i64 b3, .int .i64 c1, .int .i64 c2, .int .i64 c3, .int .i64 r, .int .i64 m]] w fun en w' => en = .returned (.nilIface) ∧ Below w.heap.size w w' := by
  go_enter Tryz.func59, Tryz.ntmps59
  go_upto_region 1 with (fail)
  obtain ⟨W1, hW1⟩ : ∃ W, W = w.alloc (.cells #[.int .i64 k, .int .i64 a1, .int .i64 a2, .int .i64 a3, .int .i64 b1, .int .i64 b2, .int .i64 b3, .int .i64 c1, .int .i64 c2, .int .i64 c3, .int .i64 r, .int .i64 m] 39) := ⟨_, rfl⟩
  obtain ⟨k_p, B1⟩ := st1 hW1
  rw [← hW1]
  clear hW1
  obtain ⟨c_p_0, c_p_1, c_p_2, c_p_3, c_p_4, c_p_5, c_p_6, c_p_7, c_p_8, c_p_9, c_p_10, c_p_11⟩ := bwc12 (k_p)
  obtain ⟨p1, hp1⟩ : ∃ p : BW W1, p.w = W1 := ⟨BW.start W1, rfl⟩
  rw [← hp1]
  clear hp1
  go_upto_region 2 with (fail)
  obtain ⟨W2, hW2⟩ : ∃ W, W = p1.w.alloc (.cells #[.int .i64 0, .int .i64 0, .int .i64 0] 37) := ⟨_, rfl⟩
  have B2 : Below w.heap.size w W2 := by rw [hW2]; exact (bw_below B1 p1).alloc (bw_below B1 p1).size _
  have l_n : w.heap.size < p1.w.heap.size := (k_p.below p1.h).lt
  have o_n : w.heap.size ≤ p1.w.heap.size := (bw_below B1 p1).size
  have k_p := bka hW2 (k_p.below p1.h)
  have k_n := bkn hW2
  rw [← hW2]
  clear hW2
  clear B1
  clear c_p_0 c_p_1 c_p_2 c_p_3 c_p_4 c_p_5 c_p_6 c_p_7 c_p_8 c_p_9 c_p_10 c_p_11
  generalize p1.w.heap.size = g_n at *
  obtain ⟨c_p_0, c_p_1, c_p_2, c_p_3, c_p_4, c_p_5, c_p_6, c_p_7, c_p_8, c_p_9, c_p_10, c_p_11⟩ := bwc12 (k_p)
  obtain ⟨c_n_0, c_n_1, c_n_2⟩ := bwc3 (k_n)
  obtain ⟨p2, hp2⟩ : ∃ p : BW W2, p.w = W2 := ⟨BW.start W2, rfl⟩
  rw [← hp2]
  clear hp2
  go_wp2
  go_ret
  exact ⟨rfl, bw_below B2 _⟩

set_option maxRecDepth 100000 in
set_option maxHeartbeats 4000000 in
theorem prim_shapeOf_nil (k a1 a2 a3 b1 b2 b3 c1 c2 c3 r m : Int) (w : World) (K : Hid (∀ w, Calls Tryz.prog 59 #[.agg #[.int .i64 k, .int .i64 a1, .int .i64 a2, .int .i64 a3, .int .i64 b1, .int .i64 b2, .int .i64 b3, .int .i64 c1, .int .i64 c2, .int .i64 c3, .int .i64 r, .int .i64 m]] w fun en w' => en = .returned (.nilIface) ∧ Below w.heap.size w w'))  :
    Calls Tryz.prog 39 #[.agg #[.int .i64 k, .int .i64 a1, .int .i64 a2, .int .i64 a3, .int .i64 b1, .int .i64 b2, .int .i64 b3, .int .i64 c1, .int .i64 c2, .int .i64 c3, .int .i64 r, .int .i64 m]] w fun en w' => en = .returned (.nilIface) ∧ Below w.heap.size w w' := by
  go_enter Tryz.func39, Tryz.ntmps39
  go_upto_region 1 with (fail)
  obtain ⟨W1, hW1⟩ : ∃ W, W = w.alloc (.cells #[.int .i64 k, .int .i64 a1, .int .i64 a2, .int .i64 a3, .int .i64 b1, .int .i64 b2, .int .i64 b3, .int .i64 c1, .int .i64 c2, .int .i64 c3, .int .i64 r, .int .i64 m] 39) := ⟨_, rfl⟩
  obtain ⟨k_p, B1⟩ := st1 hW1
  rw [← hW1]
  clear hW1
  obtain ⟨c_p_0, c_p_1, c_p_2, c_p_3, c_p_4, c_p_5, c_p_6, c_p_7, c_p_8, c_p_9, c_p_10, c_p_11⟩ := bwc12 (k_p)
  obtain ⟨p1, hp1⟩ : ∃ p : BW W1, p.w = W1 := ⟨BW.start W1, rfl⟩
  rw [← hp1]
  clear hp1
  go_wp2_with (first
    | (go_at_call 59; (first | (with_reducible refine (bw_call K.out _).mono ?_)); rintro e w' ⟨rfl, q, rfl⟩))
  go_ret
  exact ⟨rfl, bw_below B1 _⟩

set_option maxRecDepth 100000 in
set_option maxHeartbeats 4000000 in
theorem prim_shapeOf_tri_bad (k a1 a2 a3 b1 b2 b3 c1 c2 c3 r m : Int) (w : World) (K : Hid (∀ w, Calls Tryz.prog 59 #[.agg #[.int .i64 k, .int .i64 a1, .int .i64 a2, .int .i64 a3, .int .i64 b1, .int .i64 b2, .int .i64 b3, .int .i64 c1, .int .i64 c2, .int .i64 c3, .int .i64 r, .int .i64 m]] w fun en w' => en = .returned (.iface 99 (.agg #[.int .i64 a1, .int .i64 a2, .int .i64 a3, .int .i64 b1, .int .i64 b2, .int .i64 b3, .int .i64 c1, .int .i64 c2, .int .i64 c3])) ∧ Below w.heap.size w w')) (KR : Hid (∀ w, Calls Tryz.prog 112 #[.agg #[.int .i64 a1, .int .i64 a2, .int .i64 a3, .int .i64 b1, .int .i64 b2, .int .i64 b3, .int .i64 c1, .int .i64 c2, .int .i64 c3]] w fun en w' => en = .returned (.bool false) ∧ Below w.heap.size w w')) :
    Calls Tryz.prog 39 #[.agg #[.int .i64 k, .int .i64 a1, .int .i64 a2, .int .i64 a3, .int .i64 b1, .int .i64 b2, .int .i64 b3, .int .i64 c1, .int .i64 c2, .int .i64 c3, .int .i64 r, .int .i64 m]] w fun en w' => en = .returned (.nilIface) ∧ Below w.heap.size w w' := by
  go_enter Tryz.func39, Tryz.ntmps39
  go_upto_region 1 with (fail)
  obtain ⟨W1, hW1⟩ : ∃ W, W = w.alloc (.cells #[.int .i64 k, .int .i64 a1, .int .i64 a2, .int .i64 a3, .int .i64 b1, .int .i64 b2, .int .i64 b3, .int .i64 c1, .int .i64 c2, .int .i64 c3, .int .i64 r, .int .i64 m] 39) := ⟨_, rfl⟩
  obtain ⟨k_p, B1⟩ := st1 hW1
  rw [← hW1]
  clear hW1
  obtain ⟨c_p_0, c_p_1, c_p_2, c_p_3, c_p_4, c_p_5, c_p_6, c_p_7, c_p_8, c_p_9, c_p_10, c_p_11⟩ := bwc12 (k_p)
  obtain ⟨p1, hp1⟩ : ∃ p : BW W1, p.w = W1 := ⟨BW.start W1, rfl⟩
  rw [← hp1]
  clear hp1
  go_wp2_with (first
    | (go_at_call 59; (first | (with_reducible refine (bw_call K.out _).mono ?_)); rintro e w' ⟨rfl, q, rfl⟩)
    | (go_at_call 112; (first | (with_reducible refine (bw_call KR.out _).mono ?_)); rintro e w' ⟨rfl, q, rfl⟩))
  go_ret
  exact ⟨rfl, bw_below B1 _⟩

set_option maxRecDepth 100000 in
set_option maxHeartbeats 4000000 in
theorem prim_shapeOf_tri_neg (k a1 a2 a3 b1 b2 b3 c1 c2 c3 r m : Int) (w : World) (K : Hid (∀ w, Calls Tryz.prog 59 #[.agg #[.int .i64 k, .int .i64 a1, .int .i64 a2, .int .i64 a3, .int .i64 b1, .int .i64 b2, .int .i64 b3, .int .i64 c1, .int .i64 c2, .int .i64 c3, .int .i64 r, .int .i64 m]] w fun en w' => en = .returned (.iface 99 (.agg #[.int .i64 a1, .int .i64 a2, .int .i64 a3, .int .i64 b1, .int .i64 b2, .int .i64 b3, .int .i64 c1, .int .i64 c2, .int .i64 c3])) ∧ Below w.heap.size w w')) (KR : Hid (∀ w, Calls Tryz.prog 112 #[.agg #[.int .i64 a1, .int .i64 a2, .int .i64 a3, .int .i64 b1, .int .i64 b2, .int .i64 b3, .int .i64 c1, .int .i64 c2, .int .i64 c3]] w fun en w' => en = .returned (.bool true) ∧ Below w.heap.size w w')) (h : decide (m < 0) = true) :
    Calls Tryz.prog 39 #[.agg #[.int .i64 k, .int .i64 a1, .int .i64 a2, .int .i64 a3, .int .i64 b1, .int .i64 b2, .int .i64 b3, .int .i64 c1, .int .i64 c2, .int .i64 c3, .int .i64 r, .int .i64 m]] w fun en w' => en = .returned (.nilIface) ∧ Below w.heap.size w w' := by
  go_enter Tryz.func39, Tryz.ntmps39
  go_upto_region 1 with (fail)
  obtain ⟨W1, hW1⟩ : ∃ W, W = w.alloc (.cells #[.int .i64 k, .int .i64 a1, .int .i64 a2, .int .i64 a3, .int .i64 b1, .int .i64 b2, .int .i64 b3, .int .i64 c1, .int .i64 c2, .int .i64 c3, .int .i64 r, .int .i64 m] 39) := ⟨_, rfl⟩
  obtain ⟨k_p, B1⟩ := st1 hW1
  rw [← hW1]
  clear hW1
  obtain ⟨c_p_0, c_p_1, c_p_2, c_p_3, c_p_4, c_p_5, c_p_6, c_p_7, c_p_8, c_p_9, c_p_10, c_p_11⟩ := bwc12 (k_p)
  obtain ⟨p1, hp1⟩ : ∃ p : BW W1, p.w = W1 := ⟨BW.start W1, rfl⟩
  rw [← hp1]
  clear hp1
  go_wp2_with (first
    | (go_at_call 59; (first | (with_reducible refine (bw_call K.out _).mono ?_)); rintro e w' ⟨rfl, q, rfl⟩)
    | (go_at_call 112; (first | (with_reducible refine (bw_call KR.out _).mono ?_)); rintro e w' ⟨rfl, q, rfl⟩))
  go_ret
  exact ⟨rfl, bw_below B1 _⟩

set_option maxRecDepth 100000 in
set_option maxHeartbeats 4000000 in
theorem prim_shapeOf_tri_far (k a1 a2 a3 b1 b2 b3 c1 c2 c3 r m : Int) (w : World) (K : Hid (∀ w, Calls Tryz.prog 59 #[.agg #[.int .i64 k, .int .i64 a1, .int .i64 a2, .int .i64 a3, .int .i64 b1, .int .i64 b2, .int .i64 b3, .int .i64 c1, .int .i64 c2, .int .i64 c3, .int .i64 r, .int .i64 m]] w fun en w' => en = .returned (.iface 99 (.agg #[.int .i64 a1, .int .i64 a2, .int .i64 a3, .int .i64 b1, .int .i64 b2, .int .i64 b3, .int .i64 c1, .int .i64 c2, .int .i64 c3])) ∧ Below w.heap.size w w')) (KR : Hid (∀ w, Calls Tryz.prog 112 #[.agg #[.int .i64 a1, .int .i64 a2, .int .i64 a3, .int .i64 b1, .int .i64 b2, .int .i64 b3, .int .i64 c1, .int .i64 c2, .int .i64 c3]] w fun en w' => en = .returned (.bool true) ∧ Below w.heap.size w w')) (h : decide (m < 0) = false) (h2 : decide (64 ≤ m) = true) :
    Calls Tryz.prog 39 #[.agg #[.int .i64 k, .int .i64 a1, .int .i64 a2, .int .i64 a3, .int .i64 b1, .int .i64 b2, .int .i64 b3, .int .i64 c1, .int .i64 c2, .int .i64 c3, .int .i64 r, .int .i64 m]] w fun en w' => en = .returned (.nilIface) ∧ Below w.heap.size w w' := by
  go_enter Tryz.func39, Tryz.ntmps39
  go_upto_region 1 with (fail)
  obtain ⟨W1, hW1⟩ : ∃ W, W = w.alloc (.cells #[.int .i64 k, .int .i64 a1, .int .i64 a2, .int .i64 a3, .int .i64 b1, .int .i64 b2, .int .i64 b3, .int .i64 c1, .int .i64 c2, .int .i64 c3, .int .i64 r, .int .i64 m] 39) := ⟨_, rfl⟩
  obtain ⟨k_p, B1⟩ := st1 hW1
  rw [← hW1]
  clear hW1
  obtain ⟨c_p_0, c_p_1, c_p_2, c_p_3, c_p_4, c_p_5, c_p_6, c_p_7, c_p_8, c_p_9, c_p_10, c_p_11⟩ := bwc12 (k_p)
  obtain ⟨p1, hp1⟩ : ∃ p : BW W1, p.w = W1 := ⟨BW.start W1, rfl⟩
  rw [← hp1]
  clear hp1
  go_wp2_with (first
    | (go_at_call 59; (first | (with_reducible refine (bw_call K.out _).mono ?_)); rintro e w' ⟨rfl, q, rfl⟩)
    | (go_at_call 112; (first | (with_reducible refine (bw_call KR.out _).mono ?_)); rintro e w' ⟨rfl, q, rfl⟩))
  go_ret
  exact ⟨rfl, bw_below B1 _⟩

set_option maxRecDepth 100000 in
set_option maxHeartbeats 4000000 in
theorem prim_shapeOf_tri_ok (k a1 a2 a3 b1 b2 b3 c1 c2 c3 r m : Int) (w : World) (K : Hid (∀ w, Calls Tryz.prog 59 #[.agg #[.int .i64 k, .int .i64 a1, .int .i64 a2, .int .i64 a3, .int .i64 b1, .int .i64 b2, .int .i64 b3, .int .i64 c1, .int .i64 c2, .int .i64 c3, .int .i64 r, .int .i64 m]] w fun en w' => en = .returned (.iface 99 (.agg #[.int .i64 a1, .int .i64 a2, .int .i64 a3, .int .i64 b1, .int .i64 b2, .int .i64 b3, .int .i64 c1, .int .i64 c2, .int .i64 c3])) ∧ Below w.heap.size w w')) (KR : Hid (∀ w, Calls Tryz.prog 112 #[.agg #[.int .i64 a1, .int .i64 a2, .int .i64 a3, .int .i64 b1, .int .i64 b2, .int .i64 b3, .int .i64 c1, .int .i64 c2, .int .i64 c3]] w fun en w' => en = .returned (.bool true) ∧ Below w.heap.size w w')) (h : decide (m < 0) = false) (h2 : decide (64 ≤ m) = false) :
    Calls Tryz.prog 39 #[.agg #[.int .i64 k, .int .i64 a1, .int .i64 a2, .int .i64 a3, .int .i64 b1, .int .i64 b2, .int .i64 b3, .int .i64 c1, .int .i64 c2, .int .i64 c3, .int .i64 r, .int .i64 m]] w fun en w' => en = .returned (.iface 99 (.agg #[.int .i64 a1, .int .i64 a2, .int .i64 a3, .int .i64 b1, .int .i64 b2, .int .i64 b3, .int .i64 c1, .int .i64 c2, .int .i64 c3])) ∧ Below w.heap.size w w' := by
  go_enter Tryz.func39, Tryz.ntmps39
  go_upto_region 1 with (fail)
  obtain ⟨W1, hW1⟩ : ∃ W, W = w.alloc (.cells #[.int .i64 k, .int .i64 a1, .int .i64 a2, .int .i64 a3, .int .i64 b1, .int .i64 b2, .int .i64 b3, .int .i64 c1, .int .i64 c2, .int .i64 c3, .int .i64 r, .int .i64 m] 39) := ⟨_, rfl⟩
  obtain ⟨k_p, B1⟩ := st1 hW1
  rw [← hW1]
  clear hW1
  obtain ⟨c_p_0, c_p_1, c_p_2, c_p_3, c_p_4, c_p_5, c_p_6, c_p_7, c_p_8, c_p_9, c_p_10, c_p_11⟩ := bwc12 (k_p)
  obtain ⟨p1, hp1⟩ : ∃ p : BW W1, p.w = W1 := ⟨BW.start W1, rfl⟩
  rw [← hp1]
  clear hp1
  go_wp2_with (first
    | (go_at_call 59; (first | (with_reducible refine (bw_call K.out _).mono ?_)); rintro e w' ⟨rfl, q, rfl⟩)
    | (go_at_call 112; (first | (with_reducible refine (bw_call KR.out _).mono ?_)); rintro e w' ⟨rfl, q, rfl⟩))
  go_ret
  exact ⟨rfl, bw_below B1 _⟩

set_option maxRecDepth 100000 in
set_option maxHeartbeats 4000000 in
theorem prim_shapeOf_sph_bad (k a1 a2 a3 b1 b2 b3 c1 c2 c3 r m : Int) (w : World) (K : Hid (∀ w, Calls Tryz.prog 59 #[.agg #[.int .i64 k, .int .i64 a1, .int .i64 a2, .int .i64 a3, .int .i64 b1, .int .i64 b2, .int .i64 b3, .int .i64 c1, .int .i64 c2, .int .i64 c3, .int .i64 r, .int .i64 m]] w fun en w' => en = .returned (.iface 104 (.agg #[.int .i64 a1, .int .i64 a2, .int .i64 a3, .int .i64 r])) ∧ Below w.heap.size w w')) (KR : Hid (∀ w, Calls Tryz.prog 118 #[.agg #[.int .i64 a1, .int .i64 a2, .int .i64 a3, .int .i64 r]] w fun en w' => en = .returned (.bool false) ∧ Below w.heap.size w w')) :
    Calls Tryz.prog 39 #[.agg #[.int .i64 k, .int .i64 a1, .int .i64 a2, .int .i64 a3, .int .i64 b1, .int .i64 b2, .int .i64 b3, .int .i64 c1, .int .i64 c2, .int .i64 c3, .int .i64 r, .int .i64 m]] w fun en w' => en = .returned (.nilIface) ∧ Below w.heap.size w w' := by
  go_enter Tryz.func39, Tryz.ntmps39
  go_upto_region 1 with (fail)
  obtain ⟨W1, hW1⟩ : ∃ W, W = w.alloc (.cells #[.int .i64 k, .int .i64 a1, .int .i64 a2, .int .i64 a3, .int .i64 b1, .int .i64 b2, .int .i64 b3, .int .i64 c1, .int .i64 c2, .int .i64 c3, .int .i64 r, .int .i64 m] 39) := ⟨_, rfl⟩
  obtain ⟨k_p, B1⟩ := st1 hW1
  rw [← hW1]
  clear hW1
  obtain ⟨c_p_0, c_p_1, c_p_2, c_p_3, c_p_4, c_p_5, c_p_6, c_p_7, c_p_8, c_p_9, c_p_10, c_p_11⟩ := bwc12 (k_p)
  obtain ⟨p1, hp1⟩ : ∃ p : BW W1, p.w = W1 := ⟨BW.start W1, rfl⟩
  rw [← hp1]
  clear hp1
  go_wp2_with (first
    | (go_at_call 59; (first | (with_reducible refine (bw_call K.out _).mono ?_)); rintro e w' ⟨rfl, q, rfl⟩)
    | (go_at_call 118; (first | (with_reducible refine (bw_call KR.out _).mono ?_)); rintro e w' ⟨rfl, q, rfl⟩))
  go_ret
  exact ⟨rfl, bw_below B1 _⟩

set_option maxRecDepth 100000 in
set_option maxHeartbeats 4000000 in
theorem prim_shapeOf_sph_neg (k a1 a2 a3 b1 b2 b3 c1 c2 c3 r m : Int) (w : World) (K : Hid (∀ w, Calls Tryz.prog 59 #[.agg #[.int .i64 k, .int .i64 a1, .int .i64 a2, .int .i64 a3, .int .i64 b1, .int .i64 b2, .int .i64 b3, .int .i64 c1, .int .i64 c2, .int .i64 c3, .int .i64 r, .int .i64 m]] w fun en w' => en = .returned (.iface 104 (.agg #[.int .i64 a1, .int .i64 a2, .int .i64 a3, .int .i64 r])) ∧ Below w.heap.size w w')) (KR : Hid (∀ w, Calls Tryz.prog 118 #[.agg #[.int .i64 a1, .int .i64 a2, .int .i64 a3, .int .i64 r]] w fun en w' => en = .returned (.bool true) ∧ Below w.heap.size w w')) (h : decide (m < 0) = true) :
    Calls Tryz.prog 39 #[.agg #[.int .i64 k, .int .i64 a1, .int .i64 a2, .int .i64 a3, .int .i64 b1, .int .i64 b2, .int .i64 b3, .int .i64 c1, .int .i64 c2, .int .i64 c3, .int .i64 r, .int .i64 m]] w fun en w' => en = .returned (.nilIface) ∧ Below w.heap.size w w' := by
  go_enter Tryz.func39, Tryz.ntmps39
  go_upto_region 1 with (fail)
  obtain ⟨W1, hW1⟩ : ∃ W, W = w.alloc (.cells #[.int .i64 k, .int .i64 a1, .int .i64 a2, .int .i64 a3, .int .i64 b1, .int .i64 b2, .int .i64 b3, .int .i64 c1, .int .i64 c2, .int .i64 c3, .int .i64 r, .int .i64 m] 39) := ⟨_, rfl⟩
  obtain ⟨k_p, B1⟩ := st1 hW1
  rw [← hW1]
  clear hW1
  obtain ⟨c_p_0, c_p_1, c_p_2, c_p_3, c_p_4, c_p_5, c_p_6, c_p_7, c_p_8, c_p_9, c_p_10, c_p_11⟩ := bwc12 (k_p)
  obtain ⟨p1, hp1⟩ : ∃ p : BW W1, p.w = W1 := ⟨BW.start W1, rfl⟩
  rw [← hp1]
  clear hp1
  go_wp2_with (first
    | (go_at_call 59; (first | (with_reducible refine (bw_call K.out _).mono ?_)); rintro e w' ⟨rfl, q, rfl⟩)
    | (go_at_call 118; (first | (with_reducible refine (bw_call KR.out _).mono ?_)); rintro e w' ⟨rfl, q, rfl⟩))
  go_ret
  exact ⟨rfl, bw_below B1 _⟩

set_option maxRecDepth 100000 in
set_option maxHeartbeats 4000000 in
theorem prim_shapeOf_sph_far (k a1 a2 a3 b1 b2 b3 c1 c2 c3 r m : Int) (w : World) (K : Hid (∀ w, Calls Tryz.prog 59 #[.agg #[.int .i64 k, .int .i64 a1, .int .i64 a2, .int .i64 a3, .int .i64 b1, .int .i64 b2, .int .i64 b3, .int .i64 c1, .int .i64 c2, .int .i64 c3, .int .i64 r, .int .i64 m]] w fun en w' => en = .returned (.iface 104 (.agg #[.int .i64 a1, .int .i64 a2, .int .i64 a3, .int .i64 r])) ∧ Below w.heap.size w w')) (KR : Hid (∀ w, Calls Tryz.prog 118 #[.agg #[.int .i64 a1, .int .i64 a2, .int .i64 a3, .int .i64 r]] w fun en w' => en = .returned (.bool true) ∧ Below w.heap.size w w')) (h : decide (m < 0) = false) (h2 : decide (64 ≤ m) = true) :
    Calls Tryz.prog 39 #[.agg #[.int .i64 k, .int .i64 a1, .int .i64 a2, .int .i64 a3, .int .i64 b1, .int .i64 b2, .int .i64 b3, .int .i64 c1, .int .i64 c2, .int .i64 c3, .int .i64 r, .int .i64 m]] w fun en w' => en = .returned (.nilIface) ∧ Below w.heap.size w w' := by
  go_enter Tryz.func39, Tryz.ntmps39
  go_upto_region 1 with (fail)
  obtain ⟨W1, hW1⟩ : ∃ W, W = w.alloc (.cells #[.int .i64 k, .int .i64 a1, .int .i64 a2, .int .i64 a3, .int .i64 b1, .int .i64 b2, .int .i64 b3, .int .i64 c1, .int .i64 c2, .int .i64 c3, .int .i64 r, .int .i64 m] 39) := ⟨_, rfl⟩
  obtain ⟨k_p, B1⟩ := st1 hW1
  rw [← hW1]
  clear hW1
  obtain ⟨c_p_0, c_p_1, c_p_2, c_p_3, c_p_4, c_p_5, c_p_6, c_p_7, c_p_8, c_p_9, c_p_10, c_p_11⟩ := bwc12 (k_p)
  obtain ⟨p1, hp1⟩ : ∃ p : BW W1, p.w = W1 := ⟨BW.start W1, rfl⟩
  rw [← hp1]
  clear hp1
  go_wp2_with (first
    | (go_at_call 59; (first | (with_reducible refine (bw_call K.out _).mono ?_)); rintro e w' ⟨rfl, q, rfl⟩)
    | (go_at_call 118; (first | (with_reducible refine (bw_call KR.out _).mono ?_)); rintro e w' ⟨rfl, q, rfl⟩))
  go_ret
  exact ⟨rfl, bw_below B1 _⟩

set_option maxRecDepth 100000 in
set_option maxHeartbeats 4000000 in
theorem prim_shapeOf_sph_ok (k a1 a2 a3 b1 b2 b3 c1 c2 c3 r m : Int) (w : World) (K : Hid (∀ w, Calls Tryz.prog 59 #[.agg #[.int .i64 k, .int .i64 a1, .int .i64 a2, .int .i64 a3, .int .i64 b1, .int .i64 b2, .int .i64 b3, .int .i64 c1, .int .i64 c2, .int .i64 c3, .int .i64 r, .int .i64 m]] w fun en w' => en = .returned (.iface 104 (.agg #[.int .i64 a1, .int .i64 a2, .int .i64 a3, .int .i64 r])) ∧ Below w.heap.size w w')) (KR : Hid (∀ w, Calls Tryz.prog 118 #[.agg #[.int .i64 a1, .int .i64 a2, .int .i64 a3, .int .i64 r]] w fun en w' => en = .returned (.bool true) ∧ Below w.heap.size w w')) (h : decide (m < 0) = false) (h2 : decide (64 ≤ m) = false) :
    Calls Tryz.prog 39 #[.agg #[.int .i64 k, .int .i64 a1, .int .i64 a2, .int .i64 a3, .int .i64 b1, .int .i64 b2, .int .i64 b3, .int .i64 c1, .int .i64 c2, .int .i64 c3, .int .i64 r, .int .i64 m]] w fun en w' => en = .returned (.iface 104 (.agg #[.int .i64 a1, .int .i64 a2, .int .i64 a3, .int .i64 r])) ∧ Below w.heap.size w w' := by
  go_enter Tryz.func39, Tryz.ntmps39
  go_upto_region 1 with (fail)
  obtain ⟨W1, hW1⟩ : ∃ W, W = w.alloc (.cells #[.int .i64 k, .int .i64 a1, .int .i64 a2, .int .i64 a3, .int .i64 b1, .int .i64 b2, .int .i64 b3, .int .i64 c1, .int .i64 c2, .int .i64 c3, .int .i64 r, .int .i64 m] 39) := ⟨_, rfl⟩
  obtain ⟨k_p, B1⟩ := st1 hW1
  rw [← hW1]
  clear hW1
  obtain ⟨c_p_0, c_p_1, c_p_2, c_p_3, c_p_4, c_p_5, c_p_6, c_p_7, c_p_8, c_p_9, c_p_10, c_p_11⟩ := bwc12 (k_p)
  obtain ⟨p1, hp1⟩ : ∃ p : BW W1, p.w = W1 := ⟨BW.start W1, rfl⟩
  rw [← hp1]
  clear hp1
  go_wp2_with (first
    | (go_at_call 59; (first | (with_reducible refine (bw_call K.out _).mono ?_)); rintro e w' ⟨rfl, q, rfl⟩)
    | (go_at_call 118; (first | (with_reducible refine (bw_call KR.out _).mono ?_)); rintro e w' ⟨rfl, q, rfl⟩))
  go_ret
  exact ⟨rfl, bw_below B1 _⟩

/-- What shapeOf tells. -/
def prSh (k a1 a2 a3 b1 b2 b3 c1 c2 c3 r m : Int) : Value := if pRight (Pr.mk k (a1, a2, a3) (b1, b2, b3) (c1, c2, c3) r m) = true then (if k = 1 then .iface 99 (.agg #[.int .i64 a1, .int .i64 a2, .int .i64 a3, .int .i64 b1, .int .i64 b2, .int .i64 b3, .int .i64 c1, .int .i64 c2, .int .i64 c3]) else .iface 104 (.agg #[.int .i64 a1, .int .i64 a2, .int .i64 a3, .int .i64 r])) else .nilIface

theorem prim_shapeOf (k a1 a2 a3 b1 b2 b3 c1 c2 c3 r m : Int) (w : World) (hp : Pr.I (Pr.mk k (a1, a2, a3) (b1, b2, b3) (c1, c2, c3) r m)) :
    Calls Tryz.prog 39 #[.agg #[.int .i64 k, .int .i64 a1, .int .i64 a2, .int .i64 a3, .int .i64 b1, .int .i64 b2, .int .i64 b3, .int .i64 c1, .int .i64 c2, .int .i64 c3, .int .i64 r, .int .i64 m]] w fun en w' => en = .returned (prSh k a1 a2 a3 b1 b2 b3 c1 c2 c3 r m) ∧ Below w.heap.size w w' := by
  obtain ⟨_, ha, hb, hc, hr, _⟩ := hp
  by_cases hk : k = 1
  · subst hk
    by_cases h0 : r = 0
    · subst h0
      have K := Lib.hid (fun w => prim_named_tri a1 a2 a3 b1 b2 b3 c1 c2 c3 m w)
      have KR := Lib.hid (fun w => prim_tri_right a1 a2 a3 b1 b2 b3 c1 c2 c3 w ha hb hc)
      have e : prSh 1 a1 a2 a3 b1 b2 b3 c1 c2 c3 0 m = if tFlat (a1, a2, a3) (b1, b2, b3) (c1, c2, c3) = false ∧ 0 ≤ m ∧ m ≤ 63 then .iface 99 (.agg #[.int .i64 a1, .int .i64 a2, .int .i64 a3, .int .i64 b1, .int .i64 b2, .int .i64 b3, .int .i64 c1, .int .i64 c2, .int .i64 c3]) else .nilIface := by
        unfold prSh pRight
        dsimp only
        cases tFlat (a1, a2, a3) (b1, b2, b3) (c1, c2, c3) <;> by_cases hm : 0 ≤ m ∧ m ≤ 63 <;> simp [hm]
      rw [e]
      clear e
      cases hf : tFlat (a1, a2, a3) (b1, b2, b3) (c1, c2, c3) with
      | true => rw [hf] at KR; rw [if_neg (fun e => by cases e.1)]; exact prim_shapeOf_tri_bad 1 a1 a2 a3 b1 b2 b3 c1 c2 c3 0 m w K KR
      | false =>
        rw [hf] at KR
        by_cases m1 : m < 0
        · rw [if_neg (by omega)]; exact prim_shapeOf_tri_neg 1 a1 a2 a3 b1 b2 b3 c1 c2 c3 0 m w K KR (decide_eq_true m1)
        · by_cases m2 : 64 ≤ m
          · rw [if_neg (by omega)]; exact prim_shapeOf_tri_far 1 a1 a2 a3 b1 b2 b3 c1 c2 c3 0 m w K KR (decide_eq_false m1) (decide_eq_true m2)
          · rw [if_pos ⟨rfl, by omega, by omega⟩]; exact prim_shapeOf_tri_ok 1 a1 a2 a3 b1 b2 b3 c1 c2 c3 0 m w K KR (decide_eq_false m1) (decide_eq_false m2)
    · have e : prSh 1 a1 a2 a3 b1 b2 b3 c1 c2 c3 r m = .nilIface := by
        unfold prSh pRight
        dsimp only
        rw [if_neg (by simp [h0])]
      rw [e]
      exact prim_shapeOf_nil 1 a1 a2 a3 b1 b2 b3 c1 c2 c3 r m w (Lib.hid (fun w => prim_named_tri_r a1 a2 a3 b1 b2 b3 c1 c2 c3 r m w h0))
  · by_cases hk2 : k = 2
    · subst hk2
      by_cases z0 : b1 = 0
      case neg =>
        have e : prSh 2 a1 a2 a3 b1 b2 b3 c1 c2 c3 r m = .nilIface := by
          unfold prSh pRight isZ
          dsimp only
          rw [if_neg (by simp [z0])]
        rw [e]
        exact prim_shapeOf_nil 2 a1 a2 a3 b1 b2 b3 c1 c2 c3 r m w (Lib.hid (fun w => prim_named_sph_0 a1 a2 a3 b1 b2 b3 c1 c2 c3 r m w z0))
      subst z0
      by_cases z1 : b2 = 0
      case neg =>
        have e : prSh 2 a1 a2 a3 0 b2 b3 c1 c2 c3 r m = .nilIface := by
          unfold prSh pRight isZ
          dsimp only
          rw [if_neg (by simp [z1])]
        rw [e]
        exact prim_shapeOf_nil 2 a1 a2 a3 0 b2 b3 c1 c2 c3 r m w (Lib.hid (fun w => prim_named_sph_1 a1 a2 a3 b2 b3 c1 c2 c3 r m w z1))
      subst z1
      by_cases z2 : b3 = 0
      case neg =>
        have e : prSh 2 a1 a2 a3 0 0 b3 c1 c2 c3 r m = .nilIface := by
          unfold prSh pRight isZ
          dsimp only
          rw [if_neg (by simp [z2])]
        rw [e]
        exact prim_shapeOf_nil 2 a1 a2 a3 0 0 b3 c1 c2 c3 r m w (Lib.hid (fun w => prim_named_sph_2 a1 a2 a3 b3 c1 c2 c3 r m w z2))
      subst z2
      by_cases z3 : c1 = 0
      case neg =>
        have e : prSh 2 a1 a2 a3 0 0 0 c1 c2 c3 r m = .nilIface := by
          unfold prSh pRight isZ
          dsimp only
          rw [if_neg (by simp [z3])]
        rw [e]
        exact prim_shapeOf_nil 2 a1 a2 a3 0 0 0 c1 c2 c3 r m w (Lib.hid (fun w => prim_named_sph_3 a1 a2 a3 c1 c2 c3 r m w z3))
      subst z3
      by_cases z4 : c2 = 0
      case neg =>
        have e : prSh 2 a1 a2 a3 0 0 0 0 c2 c3 r m = .nilIface := by
          unfold prSh pRight isZ
          dsimp only
          rw [if_neg (by simp [z4])]
        rw [e]
        exact prim_shapeOf_nil 2 a1 a2 a3 0 0 0 0 c2 c3 r m w (Lib.hid (fun w => prim_named_sph_4 a1 a2 a3 c2 c3 r m w z4))
      subst z4
      by_cases z5 : c3 = 0
      case neg =>
        have e : prSh 2 a1 a2 a3 0 0 0 0 0 c3 r m = .nilIface := by
          unfold prSh pRight isZ
          dsimp only
          rw [if_neg (by simp [z5])]
        rw [e]
        exact prim_shapeOf_nil 2 a1 a2 a3 0 0 0 0 0 c3 r m w (Lib.hid (fun w => prim_named_sph_5 a1 a2 a3 c3 r m w z5))
      subst z5
      have K := Lib.hid (fun w => prim_named_sph a1 a2 a3 r m w)
      have KR := Lib.hid (fun w => prim_sph_right a1 a2 a3 r w ha hr)
      have e : prSh 2 a1 a2 a3 0 0 0 0 0 0 r m = if ballR (a1, a2, a3) r = true ∧ 0 ≤ m ∧ m ≤ 63 then .iface 104 (.agg #[.int .i64 a1, .int .i64 a2, .int .i64 a3, .int .i64 r]) else .nilIface := by
        unfold prSh pRight isZ
        dsimp only
        cases ballR (a1, a2, a3) r <;> by_cases hm : 0 ≤ m ∧ m ≤ 63 <;> simp [hm]
      rw [e]
      clear e
      cases hf : ballR (a1, a2, a3) r with
      | false => rw [hf] at KR; rw [if_neg (fun e => by cases e.1)]; exact prim_shapeOf_sph_bad 2 a1 a2 a3 0 0 0 0 0 0 r m w K KR
      | true =>
        rw [hf] at KR
        by_cases m1 : m < 0
        · rw [if_neg (by omega)]; exact prim_shapeOf_sph_neg 2 a1 a2 a3 0 0 0 0 0 0 r m w K KR (decide_eq_true m1)
        · by_cases m2 : 64 ≤ m
          · rw [if_neg (by omega)]; exact prim_shapeOf_sph_far 2 a1 a2 a3 0 0 0 0 0 0 r m w K KR (decide_eq_false m1) (decide_eq_true m2)
          · rw [if_pos ⟨rfl, by omega, by omega⟩]; exact prim_shapeOf_sph_ok 2 a1 a2 a3 0 0 0 0 0 0 r m w K KR (decide_eq_false m1) (decide_eq_false m2)
    · have e : prSh k a1 a2 a3 b1 b2 b3 c1 c2 c3 r m = .nilIface := by
        unfold prSh pRight
        dsimp only
        rw [if_neg (by simp [hk, hk2])]
      rw [e]
      exact prim_shapeOf_nil k a1 a2 a3 b1 b2 b3 c1 c2 c3 r m w (Lib.hid (fun w => prim_named_none k a1 a2 a3 b1 b2 b3 c1 c2 c3 r m w hk hk2))

end
end Go.Proofs.YtomlcglnkdfemaaGreat
