/- Contracts of the document's own answers, layer 12 (all but Hit). Contracts of the document's own answers, layer 12: Inside, Hit. Contracts of the document's own answers, layer 12: times. Contracts of the document's own answers, layer 12: Value. -/
import Derived.Test.YtokkankfaofooaaGreatRef11
import Derived.Test.YtokkankfaofooaaGreatMath12
import Derived.Test.YtokkankfaofooaaGreatBw
import Derived.Deep.DeepCutAuto
import Derived.Test.YtokkankfaofooaaGreatRef02

namespace Go.Proofs.YtokkankfaofooaaGreat
section
open Go.RowKit Go.Proofs.Sky
set_option linter.unusedVariables false

set_option maxRecDepth 100000 in
set_option maxHeartbeats 8000000 in
theorem ref12_Right (c1 c2 c3 r : Int) (w : World) :
    Calls Tryz.prog 49 #[.agg #[.int .i64 c1, .int .i64 c2, .int .i64 c3], .int .i64 r] w fun en w' => en = .returned (.bool (ballR (c1, c2, c3) r)) ∧ Below w.heap.size w w' := by
  have KP := Lib.hid (fun w => ref11_Place c1 c2 c3 w)
  rw [ballR_eq]
  generalize plc (c1, c2, c3) = e1 at *
  obtain ⟨e2, h2⟩ : ∃ e, e = decide (4 ≤ r) := ⟨_, rfl⟩
  obtain ⟨e3, h3⟩ : ∃ e, e = decide (r ≤ 262144) := ⟨_, rfl⟩
  rw [← h2, ← h3]
  replace h2 := h2.symm
  replace h3 := h3.symm
  go_enter Tryz.func49, Tryz.ntmps49
  go_upto_region 1 with (fail)
  obtain ⟨W1, hW1⟩ : ∃ W, W = w.alloc (.cells #[.int .i64 c1, .int .i64 c2, .int .i64 c3] 25) := ⟨_, rfl⟩
  obtain ⟨k_c, B1⟩ := st1 hW1
  rw [← hW1]
  clear hW1
  obtain ⟨c_c_0, c_c_1, c_c_2⟩ := bwc3 (k_c)
  obtain ⟨p1, hp1⟩ : ∃ p : BW W1, p.w = W1 := ⟨BW.start W1, rfl⟩
  rw [← hp1]
  clear hp1
  rcases e1 with _ | _ <;> rcases e2 with _ | _ <;> rcases e3 with _ | _
  all_goals
    go_wp2_with (first
      | (go_at_call 51; (first | (with_reducible refine (bw_call KP.out _).mono ?_)); rintro e w' ⟨rfl, q, rfl⟩))
    go_ret
    exact ⟨rfl, bw_below B1 _⟩

set_option maxRecDepth 100000 in
set_option maxHeartbeats 8000000 in
theorem ref12_may (c1 c2 c3 r o1 o2 o3 d1 d2 d3 fr : Int) (w : World) :
    Calls Tryz.prog 56 #[.agg #[.int .i64 c1, .int .i64 c2, .int .i64 c3], .int .i64 r, .agg #[.int .i64 o1, .int .i64 o2, .int .i64 o3, .int .i64 d1, .int .i64 d2, .int .i64 d3, .int .i64 fr]] w fun en w' => en = .returned (.bool (ballM (c1, c2, c3) r (o1, o2, o3) (d1, d2, d3))) ∧ Below w.heap.size w w' := by
  have KR := Lib.hid (fun w => ref12_Right c1 c2 c3 r w)
  have KP := Lib.hid (fun w => ref11_Place o1 o2 o3 w)
  have KN := Lib.hid (fun w => ref6_Near d1 d2 d3 w)
  rw [show vnear d1 d2 d3 = nrT (d1, d2, d3) from rfl] at KN
  unfold ballM
  generalize ballR (c1, c2, c3) r = e1 at *
  generalize plc (o1, o2, o3) = e2 at *
  generalize nrT (d1, d2, d3) = e3 at *
  by_cases n1 : d1 = 0
  · subst n1
    by_cases n2 : d2 = 0
    · subst n2
      by_cases n3 : d3 = 0
      · subst n3
        rw [show isZ (0, 0, 0) = true by decide]
        go_enter Tryz.func56, Tryz.ntmps56
        go_upto_region 1 with (fail)
        obtain ⟨W1, hW1⟩ : ∃ W, W = (w.alloc (.cells #[.int .i64 c1, .int .i64 c2, .int .i64 c3] 25)).alloc (.cells #[.int .i64 o1, .int .i64 o2, .int .i64 o3, .int .i64 0, .int .i64 0, .int .i64 0, .int .i64 fr] 27) := ⟨_, rfl⟩
        obtain ⟨k_c, k_y, B1⟩ := st2 hW1
        rw [← hW1]
        clear hW1
        have l_y : w.heap.size < w.heap.size + 1 := by omega
        generalize w.heap.size + 1 = g_y at *
        obtain ⟨c_c_0, c_c_1, c_c_2⟩ := bwc3 (k_c)
        obtain ⟨c_y_0, c_y_1, c_y_2, c_y_3, c_y_4, c_y_5, c_y_6⟩ := bwc7 (k_y)
        obtain ⟨p1, hp1⟩ : ∃ p : BW W1, p.w = W1 := ⟨BW.start W1, rfl⟩
        rw [← hp1]
        clear hp1
        rcases e1 with _ | _ <;> rcases e2 with _ | _ <;> rcases e3 with _ | _
        all_goals
          go_wp2_with (first
            | (go_at_call 49; (first | (with_reducible refine (bw_call KR.out _).mono ?_)); rintro e w' ⟨rfl, q, rfl⟩)
            | (go_at_call 51; (first | (with_reducible refine (bw_call KP.out _).mono ?_)); rintro e w' ⟨rfl, q, rfl⟩)
            | (go_at_call 52; (first | (with_reducible refine (bw_call KN.out _).mono ?_)); rintro e w' ⟨rfl, q, rfl⟩))
          go_ret
          exact ⟨rfl, bw_below B1 _⟩
      · rw [show isZ (0, 0, d3) = false by unfold isZ; simp [n3]]
        go_enter Tryz.func56, Tryz.ntmps56
        go_upto_region 1 with (fail)
        obtain ⟨W1, hW1⟩ : ∃ W, W = (w.alloc (.cells #[.int .i64 c1, .int .i64 c2, .int .i64 c3] 25)).alloc (.cells #[.int .i64 o1, .int .i64 o2, .int .i64 o3, .int .i64 0, .int .i64 0, .int .i64 d3, .int .i64 fr] 27) := ⟨_, rfl⟩
        obtain ⟨k_c, k_y, B1⟩ := st2 hW1
        rw [← hW1]
        clear hW1
        have l_y : w.heap.size < w.heap.size + 1 := by omega
        generalize w.heap.size + 1 = g_y at *
        obtain ⟨c_c_0, c_c_1, c_c_2⟩ := bwc3 (k_c)
        obtain ⟨c_y_0, c_y_1, c_y_2, c_y_3, c_y_4, c_y_5, c_y_6⟩ := bwc7 (k_y)
        obtain ⟨p1, hp1⟩ : ∃ p : BW W1, p.w = W1 := ⟨BW.start W1, rfl⟩
        rw [← hp1]
        clear hp1
        rcases e1 with _ | _ <;> rcases e2 with _ | _ <;> rcases e3 with _ | _
        all_goals
          go_wp2_with (first
            | (go_at_call 49; (first | (with_reducible refine (bw_call KR.out _).mono ?_)); rintro e w' ⟨rfl, q, rfl⟩)
            | (go_at_call 51; (first | (with_reducible refine (bw_call KP.out _).mono ?_)); rintro e w' ⟨rfl, q, rfl⟩)
            | (go_at_call 52; (first | (with_reducible refine (bw_call KN.out _).mono ?_)); rintro e w' ⟨rfl, q, rfl⟩))
          go_ret
          exact ⟨rfl, bw_below B1 _⟩
    · rw [show isZ (0, d2, d3) = false by unfold isZ; simp [n2]]
      go_enter Tryz.func56, Tryz.ntmps56
      go_upto_region 1 with (fail)
      obtain ⟨W1, hW1⟩ : ∃ W, W = (w.alloc (.cells #[.int .i64 c1, .int .i64 c2, .int .i64 c3] 25)).alloc (.cells #[.int .i64 o1, .int .i64 o2, .int .i64 o3, .int .i64 0, .int .i64 d2, .int .i64 d3, .int .i64 fr] 27) := ⟨_, rfl⟩
      obtain ⟨k_c, k_y, B1⟩ := st2 hW1
      rw [← hW1]
      clear hW1
      have l_y : w.heap.size < w.heap.size + 1 := by omega
      generalize w.heap.size + 1 = g_y at *
      obtain ⟨c_c_0, c_c_1, c_c_2⟩ := bwc3 (k_c)
      obtain ⟨c_y_0, c_y_1, c_y_2, c_y_3, c_y_4, c_y_5, c_y_6⟩ := bwc7 (k_y)
      obtain ⟨p1, hp1⟩ : ∃ p : BW W1, p.w = W1 := ⟨BW.start W1, rfl⟩
      rw [← hp1]
      clear hp1
      rcases e1 with _ | _ <;> rcases e2 with _ | _ <;> rcases e3 with _ | _
      all_goals
        go_wp2_with (first
          | (go_at_call 49; (first | (with_reducible refine (bw_call KR.out _).mono ?_)); rintro e w' ⟨rfl, q, rfl⟩)
          | (go_at_call 51; (first | (with_reducible refine (bw_call KP.out _).mono ?_)); rintro e w' ⟨rfl, q, rfl⟩)
          | (go_at_call 52; (first | (with_reducible refine (bw_call KN.out _).mono ?_)); rintro e w' ⟨rfl, q, rfl⟩))
        go_ret
        exact ⟨rfl, bw_below B1 _⟩
  · rw [show isZ (d1, d2, d3) = false by unfold isZ; simp [n1]]
    go_enter Tryz.func56, Tryz.ntmps56
    go_upto_region 1 with (fail)
    obtain ⟨W1, hW1⟩ : ∃ W, W = (w.alloc (.cells #[.int .i64 c1, .int .i64 c2, .int .i64 c3] 25)).alloc (.cells #[.int .i64 o1, .int .i64 o2, .int .i64 o3, .int .i64 d1, .int .i64 d2, .int .i64 d3, .int .i64 fr] 27) := ⟨_, rfl⟩
    obtain ⟨k_c, k_y, B1⟩ := st2 hW1
    rw [← hW1]
    clear hW1
    have l_y : w.heap.size < w.heap.size + 1 := by omega
    generalize w.heap.size + 1 = g_y at *
    obtain ⟨c_c_0, c_c_1, c_c_2⟩ := bwc3 (k_c)
    obtain ⟨c_y_0, c_y_1, c_y_2, c_y_3, c_y_4, c_y_5, c_y_6⟩ := bwc7 (k_y)
    obtain ⟨p1, hp1⟩ : ∃ p : BW W1, p.w = W1 := ⟨BW.start W1, rfl⟩
    rw [← hp1]
    clear hp1
    rcases e1 with _ | _ <;> rcases e2 with _ | _ <;> rcases e3 with _ | _
    all_goals
      go_wp2_with (first
        | (go_at_call 49; (first | (with_reducible refine (bw_call KR.out _).mono ?_)); rintro e w' ⟨rfl, q, rfl⟩)
        | (go_at_call 51; (first | (with_reducible refine (bw_call KP.out _).mono ?_)); rintro e w' ⟨rfl, q, rfl⟩)
        | (go_at_call 52; (first | (with_reducible refine (bw_call KN.out _).mono ?_)); rintro e w' ⟨rfl, q, rfl⟩))
      go_ret
      exact ⟨rfl, bw_below B1 _⟩

set_option maxRecDepth 100000 in
set_option maxHeartbeats 8000000 in
theorem ref12_Through_any (c1 c2 c3 r o1 o2 o3 d1 d2 d3 fr b a : Int) (w : World) (hc : I3 (c1, c2, c3)) (ho : I3 (o1, o2, o3)) (hb : vdot (vsub o1 c1) (vsub o2 c2) (vsub o3 c3) d1 d2 d3 = b) (hb2 : -3298534883328 ≤ b ∧ b ≤ 3298534883328) (ha : vdot d1 d2 d3 d1 d2 d3 = a) :
    Calls Tryz.prog 38 #[.agg #[.int .i64 c1, .int .i64 c2, .int .i64 c3], .int .i64 r, .agg #[.int .i64 o1, .int .i64 o2, .int .i64 o3, .int .i64 d1, .int .i64 d2, .int .i64 d3, .int .i64 fr]] w fun en w' => en = .returned (.tuple #[.agg #[.int .i64 (if ballM (c1, c2, c3) r (o1, o2, o3) (d1, d2, d3) = true ∧ b < 0 then -2 * b else 0), .int .i64 (if ballM (c1, c2, c3) r (o1, o2, o3) (d1, d2, d3) = true ∧ b < 0 then a else 0)], .bool (decide (ballM (c1, c2, c3) r (o1, o2, o3) (d1, d2, d3) = true ∧ b < 0))]) ∧ Below w.heap.size w w' := by
  have KM := Lib.hid (fun w => ref12_may c1 c2 c3 r o1 o2 o3 d1 d2 d3 fr w)
  have KS := Lib.hid (fun w => ref6_Sub o1 o2 o3 c1 c2 c3 w ho.1 ho.2.1 ho.2.2 hc.1 hc.2.1 hc.2.2)
  generalize vsub o1 c1 = s1 at *
  generalize vsub o2 c2 = s2 at *
  generalize vsub o3 c3 = s3 at *
  have KB := Lib.hid (fun w => ref6_Dot s1 s2 s3 d1 d2 d3 w)
  have KA := Lib.hid (fun w => ref6_Dot d1 d2 d3 d1 d2 d3 w)
  rw [hb] at KB
  rw [ha] at KA
  generalize ballM (c1, c2, c3) r (o1, o2, o3) (d1, d2, d3) = e1 at *
  obtain ⟨m, hm⟩ : ∃ m, -2 * b = m := ⟨_, rfl⟩
  have wm : wrap64 (-2 * b) = m := by rw [hm]; exact IntWalk.wrap64_in _ (by omega)
  have vm : IntKind.i64.wrap (-2 * b) = m := by rw [hm, i64w]; omega
  rw [hm]
  clear hb ha hc ho
  cases e1
  all_goals by_cases h : b < 0
  · have t : decide (0 ≤ b) = false := decide_eq_false (by omega)
    simp [h]
    clear h hm hb2
    go_enter Tryz.func38, Tryz.ntmps38
    go_upto_region 1 with (fail)
    obtain ⟨W1, hW1⟩ : ∃ W, W = ((w.alloc (.cells #[.int .i64 c1, .int .i64 c2, .int .i64 c3] 25)).alloc (.cells #[.int .i64 o1, .int .i64 o2, .int .i64 o3, .int .i64 d1, .int .i64 d2, .int .i64 d3, .int .i64 fr] 27)).alloc (.cells #[.int .i64 0, .int .i64 0] 29) := ⟨_, rfl⟩
    obtain ⟨k_c, k_y, k_r, B1⟩ := st3 hW1
    rw [← hW1]
    clear hW1
    have l_y : w.heap.size < w.heap.size + 1 := by omega
    have l_r : w.heap.size + 1 < w.heap.size + 1 + 1 := by omega
    generalize w.heap.size + 1 + 1 = g_r at *
    generalize w.heap.size + 1 = g_y at *
    obtain ⟨c_c_0, c_c_1, c_c_2⟩ := bwc3 (k_c)
    obtain ⟨c_y_0, c_y_1, c_y_2, c_y_3, c_y_4, c_y_5, c_y_6⟩ := bwc7 (k_y)
    obtain ⟨c_r_0, c_r_1⟩ := bwc2 (k_r)
    obtain ⟨f_r_0, f_r_1⟩ := bwf2 (k_r)
    obtain ⟨p1, hp1⟩ : ∃ p : BW W1, p.w = W1 := ⟨BW.start W1, rfl⟩
    rw [← hp1]
    clear hp1
    refine wp_region_bw (by kernel_rfl) (by kernel_rfl) ?_
    repeat (go_big_quiet_step (first
      | (go_at_call 53; (first | (with_reducible exact bw_call KS.out _)))
      | (go_at_call 55; (first | (with_reducible exact bw_call KB.out _)))))
    refine wpQuiet_nil ?_
    intro _ hw'
    obtain ⟨q, rfl⟩ := hw'
    go_wp2_with (first
      | (go_at_call 56; (first | (with_reducible refine (bw_call KM.out _).mono ?_)); rintro e w' ⟨rfl, q, rfl⟩)
      | (go_at_call 55; (first | (with_reducible refine (bw_call KA.out _).mono ?_)); rintro e w' ⟨rfl, q, rfl⟩))
    have kr := bkp2 (k_r.below q.h) (.int .i64 0) (.int .i64 0)
    obtain ⟨rc0, rc1⟩ := rwc2 kr
    exact bodyPost_ret (v := .tuple #[.agg #[.int .i64 0, .int .i64 0], .bool false]) (by simp [results, Tryz.results38, go_sem, rc0, rc1]) rfl ⟨rfl, blp2 (bw_below B1 q) (by omega)⟩
  · have t : decide (0 ≤ b) = true := decide_eq_true (by omega)
    simp [h]
    clear h hm hb2
    go_enter Tryz.func38, Tryz.ntmps38
    go_upto_region 1 with (fail)
    obtain ⟨W1, hW1⟩ : ∃ W, W = ((w.alloc (.cells #[.int .i64 c1, .int .i64 c2, .int .i64 c3] 25)).alloc (.cells #[.int .i64 o1, .int .i64 o2, .int .i64 o3, .int .i64 d1, .int .i64 d2, .int .i64 d3, .int .i64 fr] 27)).alloc (.cells #[.int .i64 0, .int .i64 0] 29) := ⟨_, rfl⟩
    obtain ⟨k_c, k_y, k_r, B1⟩ := st3 hW1
    rw [← hW1]
    clear hW1
    have l_y : w.heap.size < w.heap.size + 1 := by omega
    have l_r : w.heap.size + 1 < w.heap.size + 1 + 1 := by omega
    generalize w.heap.size + 1 + 1 = g_r at *
    generalize w.heap.size + 1 = g_y at *
    obtain ⟨c_c_0, c_c_1, c_c_2⟩ := bwc3 (k_c)
    obtain ⟨c_y_0, c_y_1, c_y_2, c_y_3, c_y_4, c_y_5, c_y_6⟩ := bwc7 (k_y)
    obtain ⟨c_r_0, c_r_1⟩ := bwc2 (k_r)
    obtain ⟨f_r_0, f_r_1⟩ := bwf2 (k_r)
    obtain ⟨p1, hp1⟩ : ∃ p : BW W1, p.w = W1 := ⟨BW.start W1, rfl⟩
    rw [← hp1]
    clear hp1
    refine wp_region_bw (by kernel_rfl) (by kernel_rfl) ?_
    repeat (go_big_quiet_step (first
      | (go_at_call 53; (first | (with_reducible exact bw_call KS.out _)))
      | (go_at_call 55; (first | (with_reducible exact bw_call KB.out _)))))
    refine wpQuiet_nil ?_
    intro _ hw'
    obtain ⟨q, rfl⟩ := hw'
    go_wp2_with (first
      | (go_at_call 56; (first | (with_reducible refine (bw_call KM.out _).mono ?_)); rintro e w' ⟨rfl, q, rfl⟩)
      | (go_at_call 55; (first | (with_reducible refine (bw_call KA.out _).mono ?_)); rintro e w' ⟨rfl, q, rfl⟩))
    have kr := bkp2 (k_r.below q.h) (.int .i64 0) (.int .i64 0)
    obtain ⟨rc0, rc1⟩ := rwc2 kr
    exact bodyPost_ret (v := .tuple #[.agg #[.int .i64 0, .int .i64 0], .bool false]) (by simp [results, Tryz.results38, go_sem, rc0, rc1]) rfl ⟨rfl, blp2 (bw_below B1 q) (by omega)⟩
  · have t : decide (0 ≤ b) = false := decide_eq_false (by omega)
    simp [h]
    clear h hm hb2
    go_enter Tryz.func38, Tryz.ntmps38
    go_upto_region 1 with (fail)
    obtain ⟨W1, hW1⟩ : ∃ W, W = ((w.alloc (.cells #[.int .i64 c1, .int .i64 c2, .int .i64 c3] 25)).alloc (.cells #[.int .i64 o1, .int .i64 o2, .int .i64 o3, .int .i64 d1, .int .i64 d2, .int .i64 d3, .int .i64 fr] 27)).alloc (.cells #[.int .i64 0, .int .i64 0] 29) := ⟨_, rfl⟩
    obtain ⟨k_c, k_y, k_r, B1⟩ := st3 hW1
    rw [← hW1]
    clear hW1
    have l_y : w.heap.size < w.heap.size + 1 := by omega
    have l_r : w.heap.size + 1 < w.heap.size + 1 + 1 := by omega
    generalize w.heap.size + 1 + 1 = g_r at *
    generalize w.heap.size + 1 = g_y at *
    obtain ⟨c_c_0, c_c_1, c_c_2⟩ := bwc3 (k_c)
    obtain ⟨c_y_0, c_y_1, c_y_2, c_y_3, c_y_4, c_y_5, c_y_6⟩ := bwc7 (k_y)
    obtain ⟨c_r_0, c_r_1⟩ := bwc2 (k_r)
    obtain ⟨f_r_0, f_r_1⟩ := bwf2 (k_r)
    obtain ⟨p1, hp1⟩ : ∃ p : BW W1, p.w = W1 := ⟨BW.start W1, rfl⟩
    rw [← hp1]
    clear hp1
    refine wp_region_bw (by kernel_rfl) (by kernel_rfl) ?_
    repeat (go_big_quiet_step (first
      | (go_at_call 53; (first | (with_reducible exact bw_call KS.out _)))
      | (go_at_call 55; (first | (with_reducible exact bw_call KB.out _)))))
    refine wpQuiet_nil ?_
    intro _ hw'
    obtain ⟨q, rfl⟩ := hw'
    go_wp2_with (first
      | (go_at_call 56; (first | (with_reducible refine (bw_call KM.out _).mono ?_)); rintro e w' ⟨rfl, q, rfl⟩)
      | (go_at_call 55; (first | (with_reducible refine (bw_call KA.out _).mono ?_)); rintro e w' ⟨rfl, q, rfl⟩))
    have kr := bkp2 (k_r.below q.h) (.int .i64 m) (.int .i64 a)
    obtain ⟨rc0, rc1⟩ := rwc2 kr
    exact bodyPost_ret (v := .tuple #[.agg #[.int .i64 m, .int .i64 a], .bool true]) (by simp [results, Tryz.results38, go_sem, rc0, rc1]) rfl ⟨rfl, blp2 (bw_below B1 q) (by omega)⟩
  · have t : decide (0 ≤ b) = true := decide_eq_true (by omega)
    simp [h]
    clear h hm hb2
    go_enter Tryz.func38, Tryz.ntmps38
    go_upto_region 1 with (fail)
    obtain ⟨W1, hW1⟩ : ∃ W, W = ((w.alloc (.cells #[.int .i64 c1, .int .i64 c2, .int .i64 c3] 25)).alloc (.cells #[.int .i64 o1, .int .i64 o2, .int .i64 o3, .int .i64 d1, .int .i64 d2, .int .i64 d3, .int .i64 fr] 27)).alloc (.cells #[.int .i64 0, .int .i64 0] 29) := ⟨_, rfl⟩
    obtain ⟨k_c, k_y, k_r, B1⟩ := st3 hW1
    rw [← hW1]
    clear hW1
    have l_y : w.heap.size < w.heap.size + 1 := by omega
    have l_r : w.heap.size + 1 < w.heap.size + 1 + 1 := by omega
    generalize w.heap.size + 1 + 1 = g_r at *
    generalize w.heap.size + 1 = g_y at *
    obtain ⟨c_c_0, c_c_1, c_c_2⟩ := bwc3 (k_c)
    obtain ⟨c_y_0, c_y_1, c_y_2, c_y_3, c_y_4, c_y_5, c_y_6⟩ := bwc7 (k_y)
    obtain ⟨c_r_0, c_r_1⟩ := bwc2 (k_r)
    obtain ⟨f_r_0, f_r_1⟩ := bwf2 (k_r)
    obtain ⟨p1, hp1⟩ : ∃ p : BW W1, p.w = W1 := ⟨BW.start W1, rfl⟩
    rw [← hp1]
    clear hp1
    refine wp_region_bw (by kernel_rfl) (by kernel_rfl) ?_
    repeat (go_big_quiet_step (first
      | (go_at_call 53; (first | (with_reducible exact bw_call KS.out _)))
      | (go_at_call 55; (first | (with_reducible exact bw_call KB.out _)))))
    refine wpQuiet_nil ?_
    intro _ hw'
    obtain ⟨q, rfl⟩ := hw'
    go_wp2_with (first
      | (go_at_call 56; (first | (with_reducible refine (bw_call KM.out _).mono ?_)); rintro e w' ⟨rfl, q, rfl⟩)
      | (go_at_call 55; (first | (with_reducible refine (bw_call KA.out _).mono ?_)); rintro e w' ⟨rfl, q, rfl⟩))
    have kr := bkp2 (k_r.below q.h) (.int .i64 0) (.int .i64 0)
    obtain ⟨rc0, rc1⟩ := rwc2 kr
    exact bodyPost_ret (v := .tuple #[.agg #[.int .i64 0, .int .i64 0], .bool false]) (by simp [results, Tryz.results38, go_sem, rc0, rc1]) rfl ⟨rfl, blp2 (bw_below B1 q) (by omega)⟩

theorem ref12_Through (c1 c2 c3 r o1 o2 o3 d1 d2 d3 fr : Int) (w : World) (hc : I3 (c1, c2, c3)) (hr : I64 r) (ho : I3 (o1, o2, o3)) (hd : I3 (d1, d2, d3)) :
    Calls Tryz.prog 38 #[.agg #[.int .i64 c1, .int .i64 c2, .int .i64 c3], .int .i64 r, .agg #[.int .i64 o1, .int .i64 o2, .int .i64 o3, .int .i64 d1, .int .i64 d2, .int .i64 d3, .int .i64 fr]] w fun en w' => en = .returned (.tuple #[.agg #[.int .i64 (ballT (c1, c2, c3) r (o1, o2, o3) (d1, d2, d3)).1.1, .int .i64 (ballT (c1, c2, c3) r (o1, o2, o3) (d1, d2, d3)).1.2], .bool (ballT (c1, c2, c3) r (o1, o2, o3) (d1, d2, d3)).2]) ∧ Below w.heap.size w w' := by
  by_cases hm : ballM (c1, c2, c3) r (o1, o2, o3) (d1, d2, d3) = true
  · have hm' := hm
    unfold ballM at hm'
    simp only [Bool.and_eq_true] at hm'
    obtain ⟨h1, h2, h3, h4⟩ := hm'
    have h5 := (ballR_iff.1 h1).1
    have es := sbT_vs h2 h5
    dsimp only at es
    have nn := sbT_near h2 h5
    have h := ref12_Through_any c1 c2 c3 r o1 o2 o3 d1 d2 d3 fr (dtT (sbT (o1, o2, o3) (c1, c2, c3)) (d1, d2, d3)) (dtT (d1, d2, d3) (d1, d2, d3)) w hc ho (by rw [← vdot_dtT nn h3, ← es]) (dtT_near nn h3) (vdot_dtT h3 h3)
    unfold ballT
    by_cases hb : dtT (sbT (o1, o2, o3) (c1, c2, c3)) (d1, d2, d3) < 0
    · rw [if_pos ⟨hm, hb⟩]
      rw [if_pos ⟨hm, hb⟩, if_pos ⟨hm, hb⟩, decide_eq_true ⟨hm, hb⟩] at h
      exact h
    · rw [if_neg (fun e => hb e.2)]
      rw [if_neg (fun e => hb e.2), if_neg (fun e => hb e.2), decide_eq_false (fun e => hb e.2)] at h
      exact h
  · have h := ref12_Through_any c1 c2 c3 r o1 o2 o3 d1 d2 d3 fr (vdot (vsub o1 c1) (vsub o2 c2) (vsub o3 c3) d1 d2 d3) (vdot d1 d2 d3 d1 d2 d3) w hc ho rfl (vdot_in _ _ _ _ _ _) rfl
    unfold ballT
    rw [if_neg (fun e => hm e.1)]
    rw [if_neg (fun e => hm e.1), if_neg (fun e => hm e.1), decide_eq_false (fun e => hm e.1)] at h
    exact h

end
end Go.Proofs.YtokkankfaofooaaGreat

namespace Go.Proofs.YtokkankfaofooaaGreat
section
open Go.RowKit Go.Proofs.Sky
set_option linter.unusedVariables false

set_option maxRecDepth 100000 in
set_option maxHeartbeats 8000000 in
theorem ref12_Hit_no (c1 c2 c3 r o1 o2 o3 d1 d2 d3 fr : Int) (w : World) (h : ¬ ballM (c1, c2, c3) r (o1, o2, o3) (d1, d2, d3) = true) :
    Calls Tryz.prog 39 #[.agg #[.int .i64 c1, .int .i64 c2, .int .i64 c3], .int .i64 r, .agg #[.int .i64 o1, .int .i64 o2, .int .i64 o3, .int .i64 d1, .int .i64 d2, .int .i64 d3, .int .i64 fr]] w fun en w' => en = .returned (.tuple #[.agg #[.int .i64 (ballH (c1, c2, c3) r (o1, o2, o3) (d1, d2, d3)).1.1, .int .i64 (ballH (c1, c2, c3) r (o1, o2, o3) (d1, d2, d3)).1.2], .bool (ballH (c1, c2, c3) r (o1, o2, o3) (d1, d2, d3)).2]) ∧ Below w.heap.size w w' := by
  rw [show ballH (c1, c2, c3) r (o1, o2, o3) (d1, d2, d3) = ((0, 0), false) by unfold ballH; rw [if_neg (fun e => h e.1)]]
  dsimp only
  have KM := Lib.hid (fun w => ref12_may c1 c2 c3 r o1 o2 o3 d1 d2 d3 fr w)
  rw [Bool.not_eq_true] at h
  rw [h] at KM
  clear h
  go_enter Tryz.func39, Tryz.ntmps39
  go_upto_region 1 with (fail)
  obtain ⟨W1, hW1⟩ : ∃ W, W = ((w.alloc (.cells #[.int .i64 c1, .int .i64 c2, .int .i64 c3] 25)).alloc (.cells #[.int .i64 o1, .int .i64 o2, .int .i64 o3, .int .i64 d1, .int .i64 d2, .int .i64 d3, .int .i64 fr] 27)).alloc (.cells #[.int .i64 0, .int .i64 0] 29) := ⟨_, rfl⟩
  obtain ⟨k_c, k_y, k_r, B1⟩ := st3 hW1
  rw [← hW1]
  clear hW1
  have l_y : w.heap.size < w.heap.size + 1 := by omega
  have l_r : w.heap.size + 1 < w.heap.size + 1 + 1 := by omega
  generalize w.heap.size + 1 + 1 = g_r at *
  generalize w.heap.size + 1 = g_y at *
  obtain ⟨c_c_0, c_c_1, c_c_2⟩ := bwc3 (k_c)
  obtain ⟨c_y_0, c_y_1, c_y_2, c_y_3, c_y_4, c_y_5, c_y_6⟩ := bwc7 (k_y)
  obtain ⟨c_r_0, c_r_1⟩ := bwc2 (k_r)
  obtain ⟨f_r_0, f_r_1⟩ := bwf2 (k_r)
  obtain ⟨p1, hp1⟩ : ∃ p : BW W1, p.w = W1 := ⟨BW.start W1, rfl⟩
  rw [← hp1]
  clear hp1
  go_wp2_with (first
    | (go_at_call 56; (first | (with_reducible refine (bw_call KM.out _).mono ?_)); rintro e w' ⟨rfl, q, rfl⟩))
  have kr := bkp2 (k_r.below q.h) (.int .i64 0) (.int .i64 0)
  obtain ⟨rc0, rc1⟩ := rwc2 kr
  exact bodyPost_ret (v := .tuple #[.agg #[.int .i64 0, .int .i64 0], .bool false]) (by simp [results, Tryz.results39, go_sem, rc0, rc1]) rfl ⟨rfl, blp2 (bw_below B1 q) (by omega)⟩

/-- The bounds of what a ball's equation is made of. -/
theorem ball_bounds {a b q : Int} (ha : 0 ≤ a ∧ a ≤ 3298534883328) (hb : -3298534883328 ≤ b ∧ b ≤ 3298534883328) (hq : -68719476736 ≤ q ∧ q ≤ 3298534883328) :
    (0 ≤ b * b ∧ b * b ≤ 10880332376531662153875584 + 1000000000000000000000000) ∧ (-1000000000000000000000000 ≤ a * q ∧ a * q ≤ 11000000000000000000000000) := by
  have p1 := mul_in (x := b) (a := b) (N := 3298534883328) (M := 3298534883328) hb hb
  have p2 := sq_nonneg b
  refine ⟨by omega, ?_⟩
  by_cases h : 0 ≤ q
  · have p3 := Int.mul_nonneg ha.1 h
    have p4 := mul_in (x := a) (a := q) (N := 3298534883328) (M := 3298534883328) (by omega) (by omega)
    omega
  · have p4 := mul_in (x := a) (a := q) (N := 3298534883328) (M := 68719476736) (by omega) (by omega)
    have p5 := Int.mul_nonneg ha.1 (show 0 ≤ -q by omega)
    rw [Int.mul_neg] at p5
    omega

set_option maxRecDepth 100000 in
set_option maxHeartbeats 8000000 in
theorem ref12_Hit_yes (c1 c2 c3 r o1 o2 o3 d1 d2 d3 fr : Int) (w : World) (hc : I3 (c1, c2, c3)) (hr : I64 r) (ho : I3 (o1, o2, o3)) (hd : I3 (d1, d2, d3)) (h : ballM (c1, c2, c3) r (o1, o2, o3) (d1, d2, d3) = true) :
    Calls Tryz.prog 39 #[.agg #[.int .i64 c1, .int .i64 c2, .int .i64 c3], .int .i64 r, .agg #[.int .i64 o1, .int .i64 o2, .int .i64 o3, .int .i64 d1, .int .i64 d2, .int .i64 d3, .int .i64 fr]] w fun en w' => en = .returned (.tuple #[.agg #[.int .i64 (ballH (c1, c2, c3) r (o1, o2, o3) (d1, d2, d3)).1.1, .int .i64 (ballH (c1, c2, c3) r (o1, o2, o3) (d1, d2, d3)).1.2], .bool (ballH (c1, c2, c3) r (o1, o2, o3) (d1, d2, d3)).2]) ∧ Below w.heap.size w w' := by
  have hm' := h
  unfold ballM at hm'
  simp only [Bool.and_eq_true] at hm'
  obtain ⟨h1, h2, h3, h4⟩ := hm'
  obtain ⟨h5, h6⟩ := ballR_iff.1 h1
  have ir := rr_in h6
  have es := sbT_vs h2 h5
  dsimp only at es
  have nn := sbT_near h2 h5
  have KM := Lib.hid (fun w => ref12_may c1 c2 c3 r o1 o2 o3 d1 d2 d3 fr w)
  rw [h] at KM
  have KS := Lib.hid (fun w => ref6_Sub o1 o2 o3 c1 c2 c3 w ho.1 ho.2.1 ho.2.2 hc.1 hc.2.1 hc.2.2)
  have b1 := dtT_near h3 h3
  have b2 := dtT_near nn h3
  have b3 := dtT_near nn nn
  have b4 : 0 ≤ dtT (d1, d2, d3) (d1, d2, d3) := by unfold dtT; have := sq_nonneg d1; have := sq_nonneg d2; have := sq_nonneg d3; dsimp only; omega
  have b5 : 0 ≤ dtT (sbT (o1, o2, o3) (c1, c2, c3)) (sbT (o1, o2, o3) (c1, c2, c3)) := by unfold dtT; have := sq_nonneg (sbT (o1, o2, o3) (c1, c2, c3)).1; have := sq_nonneg (sbT (o1, o2, o3) (c1, c2, c3)).2.1; have := sq_nonneg (sbT (o1, o2, o3) (c1, c2, c3)).2.2; omega
  have eh : ballH (c1, c2, c3) r (o1, o2, o3) (d1, d2, d3) = if 0 ≤ ballD (c1, c2, c3) r (o1, o2, o3) (d1, d2, d3) then ballF (dtT (d1, d2, d3) (d1, d2, d3)) (dtT (sbT (o1, o2, o3) (c1, c2, c3)) (d1, d2, d3)) (ballQ (c1, c2, c3) r (o1, o2, o3)) (isq (ballD (c1, c2, c3) r (o1, o2, o3) (d1, d2, d3)).toNat : Int) else ((0, 0), false) := by
    unfold ballH ballS
    by_cases g : 0 ≤ ballD (c1, c2, c3) r (o1, o2, o3) (d1, d2, d3)
    · rw [if_pos ⟨h, g⟩, if_pos g]
    · rw [if_neg (fun e => g e.2), if_neg g]
  rw [eh]
  unfold ballD ballQ
  have v1 := vdot_dtT h3 h3
  have v2 := vdot_dtT nn h3
  have v3 := vdot_dtT nn nn
  rw [← es] at v2 v3
  dsimp only at v1 v2 v3
  generalize vsub o1 c1 = s1 at *
  generalize vsub o2 c2 = s2 at *
  generalize vsub o3 c3 = s3 at *
  rw [← es] at b2 b3 b5 ⊢
  have KA := Lib.hid (fun w => ref6_Dot d1 d2 d3 d1 d2 d3 w)
  have KB := Lib.hid (fun w => ref6_Dot s1 s2 s3 d1 d2 d3 w)
  have KC := Lib.hid (fun w => ref6_Dot s1 s2 s3 s1 s2 s3 w)
  rw [v1] at KA
  rw [v2] at KB
  rw [v3] at KC
  generalize dtT (d1, d2, d3) (d1, d2, d3) = a at *
  generalize dtT (s1, s2, s3) (d1, d2, d3) = b at *
  generalize dtT (s1, s2, s3) (s1, s2, s3) = k at *
  obtain ⟨rr, hrr⟩ : ∃ t, r * r = t := ⟨_, rfl⟩
  have wrr : wrap64 (r * r) = rr := by rw [hrr]; exact IntWalk.wrap64_in _ (by omega)
  have vrr : IntKind.i64.wrap (r * r) = rr := by rw [hrr, i64w]; omega
  rw [hrr] at ir ⊢
  have ir0 : 0 ≤ rr := by rw [← hrr]; exact sq_nonneg r
  obtain ⟨qq, hq⟩ : ∃ t, k - rr = t := ⟨_, rfl⟩
  have wq : wrap64 (k - rr) = qq := by rw [hq]; exact IntWalk.wrap64_in _ (by omega)
  have vq : IntKind.i64.wrap (k - rr) = qq := by rw [hq, i64w]; omega
  rw [hq]
  have iq : -68719476736 ≤ qq ∧ qq ≤ 3298534883328 := by omega
  obtain ⟨u1, u2⟩ := ball_bounds ⟨b4, b1.2⟩ b2 iq
  have M1 := Lib.hid (fun w => ref2_Mul b b w (by unfold I64; omega) (by unfold I64; omega))
  have M2 := Lib.hid (fun w => ref2_Mul a qq w (by unfold I64; omega) (by unfold I64; omega))
  have SB := Lib.hid (fun w => ref2_Sub (b * b) (a * qq) w)
  obtain ⟨dd, hdd⟩ : ∃ t, b * b - a * qq = t := ⟨_, rfl⟩
  rw [hdd] at SB ⊢
  have idd : dd ≤ 19342813113834066795298816 := by omega
  have RT := Lib.hid (fun w => ref2_Root dd w (by unfold W128; omega))
  have il : isq dd.toNat < 4398046511104 := isq_lt (by omega)
  have HB := Lib.hid (And.intro b1 (And.intro b2 (And.intro b4 iq)))
  generalize hii (b * b) = p1 at *
  generalize lon (b * b) = l1 at *
  generalize hii (a * qq) = p2 at *
  generalize lon (a * qq) = l2 at *
  generalize hii dd = p3 at *
  generalize lon dd = l3 at *
  generalize (l1 : Int) = l1 at *
  generalize (l2 : Int) = l2 at *
  generalize (l3 : Int) = l3 at *
  clear v1 v2 v3 es eh nn h h1 h2 h3 h4 h5 h6 b1 b2 b3 b4 b5 ir ir0 u1 u2 hdd hrr hq iq idd hc ho hd hr
  by_cases g : 0 ≤ dd
  rotate_left
  · rw [if_neg g]
    dsimp only
    rw [if_pos (show dd < 0 by omega), decide_eq_false g] at RT
    clear g il HB
    go_enter Tryz.func39, Tryz.ntmps39
    go_upto_region 1 with (fail)
    obtain ⟨W1, hW1⟩ : ∃ W, W = ((w.alloc (.cells #[.int .i64 c1, .int .i64 c2, .int .i64 c3] 25)).alloc (.cells #[.int .i64 o1, .int .i64 o2, .int .i64 o3, .int .i64 d1, .int .i64 d2, .int .i64 d3, .int .i64 fr] 27)).alloc (.cells #[.int .i64 0, .int .i64 0] 29) := ⟨_, rfl⟩
    obtain ⟨k_c, k_y, k_r, B1⟩ := st3 hW1
    rw [← hW1]
    clear hW1
    have l_y : w.heap.size < w.heap.size + 1 := by omega
    have l_r : w.heap.size + 1 < w.heap.size + 1 + 1 := by omega
    generalize w.heap.size + 1 + 1 = g_r at *
    generalize w.heap.size + 1 = g_y at *
    obtain ⟨c_c_0, c_c_1, c_c_2⟩ := bwc3 (k_c)
    obtain ⟨c_y_0, c_y_1, c_y_2, c_y_3, c_y_4, c_y_5, c_y_6⟩ := bwc7 (k_y)
    obtain ⟨c_r_0, c_r_1⟩ := bwc2 (k_r)
    obtain ⟨f_r_0, f_r_1⟩ := bwf2 (k_r)
    obtain ⟨p1, hp1⟩ : ∃ p : BW W1, p.w = W1 := ⟨BW.start W1, rfl⟩
    rw [← hp1]
    clear hp1
    go_upto_region 4 with (first
      | (go_at_call 56; (first | (with_reducible refine (bw_call KM.out _).mono ?_)); rintro e w' ⟨rfl, q, rfl⟩)
      | (go_at_call 53; (first | (with_reducible refine (bw_call KS.out _).mono ?_)); rintro e w' ⟨rfl, q, rfl⟩))
    obtain ⟨W2, hW2⟩ : ∃ W, W = q.w.alloc (.cells #[.int .i64 s1, .int .i64 s2, .int .i64 s3] 25) := ⟨_, rfl⟩
    have B2 : Below w.heap.size w W2 := by rw [hW2]; exact (bw_below B1 q).alloc (bw_below B1 q).size _
    have l_o : g_r < q.w.heap.size := (k_r.below q.h).lt
    have o_o : w.heap.size ≤ q.w.heap.size := (bw_below B1 q).size
    have k_c := bka hW2 (k_c.below q.h)
    have k_y := bka hW2 (k_y.below q.h)
    have k_r := bka hW2 (k_r.below q.h)
    have k_o := bkn hW2
    rw [← hW2]
    clear hW2
    clear B1
    clear c_c_0 c_c_1 c_c_2 c_y_0 c_y_1 c_y_2 c_y_3 c_y_4 c_y_5 c_y_6 c_r_0 c_r_1 f_r_0 f_r_1
    generalize q.w.heap.size = g_o at *
    obtain ⟨c_c_0, c_c_1, c_c_2⟩ := bwc3 (k_c)
    obtain ⟨c_y_0, c_y_1, c_y_2, c_y_3, c_y_4, c_y_5, c_y_6⟩ := bwc7 (k_y)
    obtain ⟨c_r_0, c_r_1⟩ := bwc2 (k_r)
    obtain ⟨f_r_0, f_r_1⟩ := bwf2 (k_r)
    obtain ⟨c_o_0, c_o_1, c_o_2⟩ := bwc3 (k_o)
    obtain ⟨p2, hp2⟩ : ∃ p : BW W2, p.w = W2 := ⟨BW.start W2, rfl⟩
    rw [← hp2]
    clear hp2
    refine wp_region_bw (by kernel_rfl) (by kernel_rfl) ?_
    repeat (go_big_quiet_step (first
      | (go_at_call 55; (first | (with_reducible exact bw_call KA.out _) | (with_reducible exact bw_call KB.out _) | (with_reducible exact bw_call KC.out _)))))
    refine wpQuiet_nil ?_
    intro _ hw'
    obtain ⟨q, rfl⟩ := hw'
    go_upto_region 6 with (first
      | (go_at_call 59; (first | (with_reducible refine (bw_call M1.out _).mono ?_) | (with_reducible refine (bw_call M2.out _).mono ?_)); rintro e w' ⟨rfl, q, rfl⟩)
      | (go_at_call 58; (first | (with_reducible refine (bw_call SB.out _).mono ?_)); rintro e w' ⟨rfl, q, rfl⟩)
      | (go_at_call 57; (first | (with_reducible refine (bw_call RT.out _).mono ?_)); rintro e w' ⟨rfl, q, rfl⟩))
    repeat (first | go_values | go_skip | go_guarded | go_step | go_upon)
    have kr := bkp2 (k_r.below q.h) (.int .i64 0) (.int .i64 0)
    obtain ⟨rc0, rc1⟩ := rwc2 kr
    exact bodyPost_ret (v := .tuple #[.agg #[.int .i64 0, .int .i64 0], .bool false]) (by simp [results, Tryz.results39, go_sem, rc0, rc1]) rfl ⟨rfl, blp2 (bw_below B2 q) (by omega)⟩
  · rw [if_pos g]
    rw [if_neg (show ¬ dd < 0 by omega), decide_eq_true g] at RT
    generalize isq dd.toNat = s0 at *
    have ws1 : IntKind.i64.wrap (s0 : Int) = (s0 : Int) := by rw [i64w]; omega
    have ws2 : wrap64 (s0 : Int) = (s0 : Int) := IntWalk.wrap64_in _ (by omega)
    have is : 0 ≤ (s0 : Int) ∧ (s0 : Int) < 4398046511104 := by omega
    generalize (s0 : Int) = s at *
    have HI := Lib.hid is
    obtain ⟨GG, hGG⟩ : ∃ t, t = ballF a b qq s := ⟨_, rfl⟩
    rw [← hGG]
    have HG := Lib.hid hGG
    clear hGG g il is
    go_enter Tryz.func39, Tryz.ntmps39
    go_upto_region 1 with (fail)
    obtain ⟨W1, hW1⟩ : ∃ W, W = ((w.alloc (.cells #[.int .i64 c1, .int .i64 c2, .int .i64 c3] 25)).alloc (.cells #[.int .i64 o1, .int .i64 o2, .int .i64 o3, .int .i64 d1, .int .i64 d2, .int .i64 d3, .int .i64 fr] 27)).alloc (.cells #[.int .i64 0, .int .i64 0] 29) := ⟨_, rfl⟩
    obtain ⟨k_c, k_y, k_r, B1⟩ := st3 hW1
    rw [← hW1]
    clear hW1
    have l_y : w.heap.size < w.heap.size + 1 := by omega
    have l_r : w.heap.size + 1 < w.heap.size + 1 + 1 := by omega
    generalize w.heap.size + 1 + 1 = g_r at *
    generalize w.heap.size + 1 = g_y at *
    obtain ⟨c_c_0, c_c_1, c_c_2⟩ := bwc3 (k_c)
    obtain ⟨c_y_0, c_y_1, c_y_2, c_y_3, c_y_4, c_y_5, c_y_6⟩ := bwc7 (k_y)
    obtain ⟨c_r_0, c_r_1⟩ := bwc2 (k_r)
    obtain ⟨f_r_0, f_r_1⟩ := bwf2 (k_r)
    obtain ⟨p1, hp1⟩ : ∃ p : BW W1, p.w = W1 := ⟨BW.start W1, rfl⟩
    rw [← hp1]
    clear hp1
    go_upto_region 4 with (first
      | (go_at_call 56; (first | (with_reducible refine (bw_call KM.out _).mono ?_)); rintro e w' ⟨rfl, q, rfl⟩)
      | (go_at_call 53; (first | (with_reducible refine (bw_call KS.out _).mono ?_)); rintro e w' ⟨rfl, q, rfl⟩))
    obtain ⟨W2, hW2⟩ : ∃ W, W = q.w.alloc (.cells #[.int .i64 s1, .int .i64 s2, .int .i64 s3] 25) := ⟨_, rfl⟩
    have B2 : Below w.heap.size w W2 := by rw [hW2]; exact (bw_below B1 q).alloc (bw_below B1 q).size _
    have l_o : g_r < q.w.heap.size := (k_r.below q.h).lt
    have o_o : w.heap.size ≤ q.w.heap.size := (bw_below B1 q).size
    have k_c := bka hW2 (k_c.below q.h)
    have k_y := bka hW2 (k_y.below q.h)
    have k_r := bka hW2 (k_r.below q.h)
    have k_o := bkn hW2
    rw [← hW2]
    clear hW2
    clear B1
    clear c_c_0 c_c_1 c_c_2 c_y_0 c_y_1 c_y_2 c_y_3 c_y_4 c_y_5 c_y_6 c_r_0 c_r_1 f_r_0 f_r_1
    generalize q.w.heap.size = g_o at *
    obtain ⟨c_c_0, c_c_1, c_c_2⟩ := bwc3 (k_c)
    obtain ⟨c_y_0, c_y_1, c_y_2, c_y_3, c_y_4, c_y_5, c_y_6⟩ := bwc7 (k_y)
    obtain ⟨c_r_0, c_r_1⟩ := bwc2 (k_r)
    obtain ⟨f_r_0, f_r_1⟩ := bwf2 (k_r)
    obtain ⟨c_o_0, c_o_1, c_o_2⟩ := bwc3 (k_o)
    obtain ⟨p2, hp2⟩ : ∃ p : BW W2, p.w = W2 := ⟨BW.start W2, rfl⟩
    rw [← hp2]
    clear hp2
    refine wp_region_bw (by kernel_rfl) (by kernel_rfl) ?_
    repeat (go_big_quiet_step (first
      | (go_at_call 55; (first | (with_reducible exact bw_call KA.out _) | (with_reducible exact bw_call KB.out _) | (with_reducible exact bw_call KC.out _)))))
    refine wpQuiet_nil ?_
    intro _ hw'
    obtain ⟨q, rfl⟩ := hw'
    go_upto_region 6 with (first
      | (go_at_call 59; (first | (with_reducible refine (bw_call M1.out _).mono ?_) | (with_reducible refine (bw_call M2.out _).mono ?_)); rintro e w' ⟨rfl, q, rfl⟩)
      | (go_at_call 58; (first | (with_reducible refine (bw_call SB.out _).mono ?_)); rintro e w' ⟨rfl, q, rfl⟩)
      | (go_at_call 57; (first | (with_reducible refine (bw_call RT.out _).mono ?_)); rintro e w' ⟨rfl, q, rfl⟩))
    clear KM KS KA KB KC M1 M2 SB RT
    have hb := HB.out
    have hi := HI.out
    clear HB HI
    obtain ⟨nb, hnb⟩ : ∃ t, -b = t := ⟨_, rfl⟩
    obtain ⟨n1, hn1⟩ : ∃ t, nb - s = t := ⟨_, rfl⟩
    obtain ⟨n2, hn2⟩ : ∃ t, s - b = t := ⟨_, rfl⟩
    have wnb : wrap64 (-b) = nb := by rw [hnb]; exact IntWalk.wrap64_in _ (by omega)
    have vnb : IntKind.i64.wrap (-b) = nb := by rw [hnb, i64w]; omega
    have wn1 : wrap64 (nb - s) = n1 := by rw [hn1]; exact IntWalk.wrap64_in _ (by omega)
    have vn1 : IntKind.i64.wrap (nb - s) = n1 := by rw [hn1, i64w]; omega
    have wn2 : wrap64 (s - b) = n2 := by rw [hn2]; exact IntWalk.wrap64_in _ (by omega)
    have vn2 : IntKind.i64.wrap (s - b) = n2 := by rw [hn2, i64w]; omega
    by_cases k1 : 0 < qq
    · by_cases k2 : b < 0
      · have hv : ballF a b qq s = ((n1, a), true) := by
          unfold ballF
          rw [if_pos ⟨k1, k2⟩, hnb, hn1]
        have HV := Lib.hid hv
        have t0 : decide (0 < qq) = true := decide_eq_true (by omega)
        have t1 : decide (b < 0) = true := decide_eq_true (by omega)
        clear hv k1 k2 hb hi hnb hn1 hn2
        repeat (first | go_values | go_skip | go_guarded | go_step | go_upon)
        have kr := bkp2 (k_r.below q.h) (.int .i64 n1) (.int .i64 a)
        obtain ⟨rc0, rc1⟩ := rwc2 kr
        exact bodyPost_ret (v := .tuple #[.agg #[.int .i64 n1, .int .i64 a], .bool true]) (by simp [results, Tryz.results39, go_sem, rc0, rc1]) rfl ⟨by rw [HG.out, HV.out], blp2 (bw_below B2 q) (by omega)⟩
      · have hv : ballF a b qq s = ((0, 0), false) := by
          unfold ballF
          rw [if_neg (by omega), if_neg (by omega)]
        have HV := Lib.hid hv
        have t0 : decide (0 < qq) = true := decide_eq_true (by omega)
        have t1 : decide (b < 0) = false := decide_eq_false (by omega)
        have t2 : decide (qq ≤ 0) = false := decide_eq_false (by omega)
        clear hv k1 k2 hb hi hnb hn1 hn2
        repeat (first | go_values | go_skip | go_guarded | go_step | go_upon)
        have kr := bkp2 (k_r.below q.h) (.int .i64 0) (.int .i64 0)
        obtain ⟨rc0, rc1⟩ := rwc2 kr
        exact bodyPost_ret (v := .tuple #[.agg #[.int .i64 0, .int .i64 0], .bool false]) (by simp [results, Tryz.results39, go_sem, rc0, rc1]) rfl ⟨by rw [HG.out, HV.out], blp2 (bw_below B2 q) (by omega)⟩
    · by_cases k2 : 0 < n2
      · have hv : ballF a b qq s = ((n2, a), true) := by
          unfold ballF
          rw [if_neg (by omega), if_pos (by omega), hn2]
        have HV := Lib.hid hv
        have t0 : decide (0 < qq) = false := decide_eq_false (by omega)
        have t1 : decide (qq ≤ 0) = true := decide_eq_true (by omega)
        have t2 : decide (0 < n2) = true := decide_eq_true (by omega)
        clear hv k1 k2 hb hi hnb hn1 hn2
        repeat (first | go_values | go_skip | go_guarded | go_step | go_upon)
        have kr := bkp2 (k_r.below q.h) (.int .i64 n2) (.int .i64 a)
        obtain ⟨rc0, rc1⟩ := rwc2 kr
        exact bodyPost_ret (v := .tuple #[.agg #[.int .i64 n2, .int .i64 a], .bool true]) (by simp [results, Tryz.results39, go_sem, rc0, rc1]) rfl ⟨by rw [HG.out, HV.out], blp2 (bw_below B2 q) (by omega)⟩
      · have hv : ballF a b qq s = ((0, 0), false) := by
          unfold ballF
          rw [if_neg (by omega), if_neg (by omega)]
        have HV := Lib.hid hv
        have t0 : decide (0 < qq) = false := decide_eq_false (by omega)
        have t1 : decide (qq ≤ 0) = true := decide_eq_true (by omega)
        have t2 : decide (0 < n2) = false := decide_eq_false (by omega)
        clear hv k1 k2 hb hi hnb hn1 hn2
        repeat (first | go_values | go_skip | go_guarded | go_step | go_upon)
        have kr := bkp2 (k_r.below q.h) (.int .i64 0) (.int .i64 0)
        obtain ⟨rc0, rc1⟩ := rwc2 kr
        exact bodyPost_ret (v := .tuple #[.agg #[.int .i64 0, .int .i64 0], .bool false]) (by simp [results, Tryz.results39, go_sem, rc0, rc1]) rfl ⟨by rw [HG.out, HV.out], blp2 (bw_below B2 q) (by omega)⟩

theorem ref12_Hit (c1 c2 c3 r o1 o2 o3 d1 d2 d3 fr : Int) (w : World) (hc : I3 (c1, c2, c3)) (hr : I64 r) (ho : I3 (o1, o2, o3)) (hd : I3 (d1, d2, d3)) :
    Calls Tryz.prog 39 #[.agg #[.int .i64 c1, .int .i64 c2, .int .i64 c3], .int .i64 r, .agg #[.int .i64 o1, .int .i64 o2, .int .i64 o3, .int .i64 d1, .int .i64 d2, .int .i64 d3, .int .i64 fr]] w fun en w' => en = .returned (.tuple #[.agg #[.int .i64 (ballH (c1, c2, c3) r (o1, o2, o3) (d1, d2, d3)).1.1, .int .i64 (ballH (c1, c2, c3) r (o1, o2, o3) (d1, d2, d3)).1.2], .bool (ballH (c1, c2, c3) r (o1, o2, o3) (d1, d2, d3)).2]) ∧ Below w.heap.size w w' := by
  by_cases h : ballM (c1, c2, c3) r (o1, o2, o3) (d1, d2, d3) = true
  · exact ref12_Hit_yes c1 c2 c3 r o1 o2 o3 d1 d2 d3 fr w hc hr ho hd h
  · exact ref12_Hit_no c1 c2 c3 r o1 o2 o3 d1 d2 d3 fr w h

end
end Go.Proofs.YtokkankfaofooaaGreat

namespace Go.Proofs.YtokkankfaofooaaGreat
section
open Go.RowKit Go.Proofs.Sky
set_option linter.unusedVariables false

theorem half_bit (n k : Nat) : n / 2 ^ k = 2 * (n / 2 ^ (k + 1)) + n / 2 ^ k % 2 := by
  rw [Nat.pow_succ, ← Nat.div_div_eq_div_mul]
  omega
theorem and_one (n : Int) : bits .and .i64 n 1 = n % 2 := by
  have h1 : (BitVec.ofInt 64 1).toNat = 2 ^ 1 - 1 := by decide
  show IntKind.i64.wrap ((BitVec.ofInt 64 n &&& BitVec.ofInt 64 1).toNat : Nat) = n % 2
  rw [BitVec.toNat_and, BitVec.toNat_ofInt, h1, Nat.and_two_pow_sub_one_eq_mod, IntKind.wrap_i64]
  omega

end
end Go.Proofs.YtokkankfaofooaaGreat

namespace Go.Proofs.YtokkankfaofooaaGreat
section
open Go.RowKit Go.Proofs.Sky
set_option linter.unusedVariables false

end
end Go.Proofs.YtokkankfaofooaaGreat
