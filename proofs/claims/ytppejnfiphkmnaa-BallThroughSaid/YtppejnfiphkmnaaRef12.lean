/- Contracts of the document's own answers, layer 12 (all but Hit). -/
import Derived.Test.YtppejnfiphkmnaaRefb11
import Derived.Test.YtppejnfiphkmnaaMath12
import Derived.Test.YtppejnfiphkmnaaTail
import Derived.Deep.DeepCutAuto
namespace Go.Proofs.Ytppejnfiphkmnaa
open Go.RowKit Go.Proofs.Sky
set_option linter.unusedVariables false

set_option maxRecDepth 100000 in
set_option maxHeartbeats 8000000 in
theorem ref12_Right (c1 c2 c3 r : Int) (w : World) :
    Calls Try.prog 11 #[.agg #[.int .i64 c1, .int .i64 c2, .int .i64 c3], .int .i64 r] w fun en w' => en = .returned (.bool (ballR (c1, c2, c3) r)) ∧ Below w.heap.size w w' := by
  have KP := Lib.hid (fun w => ref11_Place c1 c2 c3 w)
  rw [ballR_eq]
  generalize plc (c1, c2, c3) = e1 at *
  obtain ⟨e2, h2⟩ : ∃ e, e = decide (4 ≤ r) := ⟨_, rfl⟩
  obtain ⟨e3, h3⟩ : ∃ e, e = decide (r ≤ 262144) := ⟨_, rfl⟩
  rw [← h2, ← h3]
  replace h2 := h2.symm
  replace h3 := h3.symm
  go_enter Try.func11, Try.ntmps11
  go_upto_region 1 with (fail)
  obtain ⟨W1, hW1⟩ : ∃ W, W = w.alloc (.cells #[.int .i64 c1, .int .i64 c2, .int .i64 c3] 23) := ⟨_, rfl⟩
  obtain ⟨k_c, B1⟩ := st1 hW1
  rw [← hW1]
  clear hW1
  obtain ⟨c_c_0, c_c_1, c_c_2⟩ := bwc3 (k_c)
  obtain ⟨p1, hp1⟩ : ∃ p : BW W1, p.w = W1 := ⟨BW.start W1, rfl⟩
  rw [← hp1]
  clear hp1
  rcases e1 with _ | _ <;> rcases e2 with _ | _ <;> rcases e3 with _ | _
  all_goals
    go_wp2_with (first
      | (go_at_call 21; (first | (with_reducible refine (bw_call KP.out _).mono ?_)); rintro e w' ⟨rfl, q, rfl⟩))
    go_ret
    exact ⟨rfl, bw_below B1 _⟩

set_option maxRecDepth 100000 in
set_option maxHeartbeats 8000000 in
theorem ref12_may (c1 c2 c3 r o1 o2 o3 d1 d2 d3 fr : Int) (w : World) :
    Calls Try.prog 26 #[.agg #[.int .i64 c1, .int .i64 c2, .int .i64 c3], .int .i64 r, .agg #[.int .i64 o1, .int .i64 o2, .int .i64 o3, .int .i64 d1, .int .i64 d2, .int .i64 d3, .int .i64 fr]] w fun en w' => en = .returned (.bool (ballM (c1, c2, c3) r (o1, o2, o3) (d1, d2, d3))) ∧ Below w.heap.size w w' := by
  have KR := Lib.hid (fun w => ref12_Right c1 c2 c3 r w)
  have KP := Lib.hid (fun w => ref11_Place o1 o2 o3 w)
  have KN := Lib.hid (fun w => ref6_Near d1 d2 d3 w)
  rw [show vnear d1 d2 d3 = nrT (d1, d2, d3) from rfl] at KN
  unfold ballM
  generalize ballR (c1, c2, c3) r = e1 at *
  generalize plc (o1, o2, o3) = e2 at *
  generalize nrT (d1, d2, d3) = e3 at *
  by_cases n1 : d1 = 0
  · subst n1
    by_cases n2 : d2 = 0
    · subst n2
      by_cases n3 : d3 = 0
      · subst n3
        rw [show isZ (0, 0, 0) = true by decide]
        go_enter Try.func26, Try.ntmps26
        go_upto_region 1 with (fail)
        obtain ⟨W1, hW1⟩ : ∃ W, W = (w.alloc (.cells #[.int .i64 c1, .int .i64 c2, .int .i64 c3] 23)).alloc (.cells #[.int .i64 o1, .int .i64 o2, .int .i64 o3, .int .i64 0, .int .i64 0, .int .i64 0, .int .i64 fr] 25) := ⟨_, rfl⟩
        obtain ⟨k_c, k_y, B1⟩ := st2 hW1
        rw [← hW1]
        clear hW1
        have l_y : w.heap.size < w.heap.size + 1 := by omega
        generalize w.heap.size + 1 = g_y at *
        obtain ⟨c_c_0, c_c_1, c_c_2⟩ := bwc3 (k_c)
        obtain ⟨c_y_0, c_y_1, c_y_2, c_y_3, c_y_4, c_y_5, c_y_6⟩ := bwc7 (k_y)
        obtain ⟨p1, hp1⟩ : ∃ p : BW W1, p.w = W1 := ⟨BW.start W1, rfl⟩
        rw [← hp1]
        clear hp1
        rcases e1 with _ | _ <;> rcases e2 with _ | _ <;> rcases e3 with _ | _
        all_goals
          go_wp2_with (first
            | (go_at_call 11; (first | (with_reducible refine (bw_call KR.out _).mono ?_)); rintro e w' ⟨rfl, q, rfl⟩)
            | (go_at_call 21; (first | (with_reducible refine (bw_call KP.out _).mono ?_)); rintro e w' ⟨rfl, q, rfl⟩)
            | (go_at_call 39; (first | (with_reducible refine (bw_call KN.out _).mono ?_)); rintro e w' ⟨rfl, q, rfl⟩))
          go_ret
          exact ⟨rfl, bw_below B1 _⟩
      · rw [show isZ (0, 0, d3) = false by unfold isZ; simp [n3]]
        go_enter Try.func26, Try.ntmps26
        go_upto_region 1 with (fail)
        obtain ⟨W1, hW1⟩ : ∃ W, W = (w.alloc (.cells #[.int .i64 c1, .int .i64 c2, .int .i64 c3] 23)).alloc (.cells #[.int .i64 o1, .int .i64 o2, .int .i64 o3, .int .i64 0, .int .i64 0, .int .i64 d3, .int .i64 fr] 25) := ⟨_, rfl⟩
        obtain ⟨k_c, k_y, B1⟩ := st2 hW1
        rw [← hW1]
        clear hW1
        have l_y : w.heap.size < w.heap.size + 1 := by omega
        generalize w.heap.size + 1 = g_y at *
        obtain ⟨c_c_0, c_c_1, c_c_2⟩ := bwc3 (k_c)
        obtain ⟨c_y_0, c_y_1, c_y_2, c_y_3, c_y_4, c_y_5, c_y_6⟩ := bwc7 (k_y)
        obtain ⟨p1, hp1⟩ : ∃ p : BW W1, p.w = W1 := ⟨BW.start W1, rfl⟩
        rw [← hp1]
        clear hp1
        rcases e1 with _ | _ <;> rcases e2 with _ | _ <;> rcases e3 with _ | _
        all_goals
          go_wp2_with (first
            | (go_at_call 11; (first | (with_reducible refine (bw_call KR.out _).mono ?_)); rintro e w' ⟨rfl, q, rfl⟩)
            | (go_at_call 21; (first | (with_reducible refine (bw_call KP.out _).mono ?_)); rintro e w' ⟨rfl, q, rfl⟩)
            | (go_at_call 39; (first | (with_reducible refine (bw_call KN.out _).mono ?_)); rintro e w' ⟨rfl, q, rfl⟩))
          go_ret
          exact ⟨rfl, bw_below B1 _⟩
    · rw [show isZ (0, d2, d3) = false by unfold isZ; simp [n2]]
      go_enter Try.func26, Try.ntmps26
      go_upto_region 1 with (fail)
      obtain ⟨W1, hW1⟩ : ∃ W, W = (w.alloc (.cells #[.int .i64 c1, .int .i64 c2, .int .i64 c3] 23)).alloc (.cells #[.int .i64 o1, .int .i64 o2, .int .i64 o3, .int .i64 0, .int .i64 d2, .int .i64 d3, .int .i64 fr] 25) := ⟨_, rfl⟩
      obtain ⟨k_c, k_y, B1⟩ := st2 hW1
      rw [← hW1]
      clear hW1
      have l_y : w.heap.size < w.heap.size + 1 := by omega
      generalize w.heap.size + 1 = g_y at *
      obtain ⟨c_c_0, c_c_1, c_c_2⟩ := bwc3 (k_c)
      obtain ⟨c_y_0, c_y_1, c_y_2, c_y_3, c_y_4, c_y_5, c_y_6⟩ := bwc7 (k_y)
      obtain ⟨p1, hp1⟩ : ∃ p : BW W1, p.w = W1 := ⟨BW.start W1, rfl⟩
      rw [← hp1]
      clear hp1
      rcases e1 with _ | _ <;> rcases e2 with _ | _ <;> rcases e3 with _ | _
      all_goals
        go_wp2_with (first
          | (go_at_call 11; (first | (with_reducible refine (bw_call KR.out _).mono ?_)); rintro e w' ⟨rfl, q, rfl⟩)
          | (go_at_call 21; (first | (with_reducible refine (bw_call KP.out _).mono ?_)); rintro e w' ⟨rfl, q, rfl⟩)
          | (go_at_call 39; (first | (with_reducible refine (bw_call KN.out _).mono ?_)); rintro e w' ⟨rfl, q, rfl⟩))
        go_ret
        exact ⟨rfl, bw_below B1 _⟩
  · rw [show isZ (d1, d2, d3) = false by unfold isZ; simp [n1]]
    go_enter Try.func26, Try.ntmps26
    go_upto_region 1 with (fail)
    obtain ⟨W1, hW1⟩ : ∃ W, W = (w.alloc (.cells #[.int .i64 c1, .int .i64 c2, .int .i64 c3] 23)).alloc (.cells #[.int .i64 o1, .int .i64 o2, .int .i64 o3, .int .i64 d1, .int .i64 d2, .int .i64 d3, .int .i64 fr] 25) := ⟨_, rfl⟩
    obtain ⟨k_c, k_y, B1⟩ := st2 hW1
    rw [← hW1]
    clear hW1
    have l_y : w.heap.size < w.heap.size + 1 := by omega
    generalize w.heap.size + 1 = g_y at *
    obtain ⟨c_c_0, c_c_1, c_c_2⟩ := bwc3 (k_c)
    obtain ⟨c_y_0, c_y_1, c_y_2, c_y_3, c_y_4, c_y_5, c_y_6⟩ := bwc7 (k_y)
    obtain ⟨p1, hp1⟩ : ∃ p : BW W1, p.w = W1 := ⟨BW.start W1, rfl⟩
    rw [← hp1]
    clear hp1
    rcases e1 with _ | _ <;> rcases e2 with _ | _ <;> rcases e3 with _ | _
    all_goals
      go_wp2_with (first
        | (go_at_call 11; (first | (with_reducible refine (bw_call KR.out _).mono ?_)); rintro e w' ⟨rfl, q, rfl⟩)
        | (go_at_call 21; (first | (with_reducible refine (bw_call KP.out _).mono ?_)); rintro e w' ⟨rfl, q, rfl⟩)
        | (go_at_call 39; (first | (with_reducible refine (bw_call KN.out _).mono ?_)); rintro e w' ⟨rfl, q, rfl⟩))
      go_ret
      exact ⟨rfl, bw_below B1 _⟩

set_option maxRecDepth 100000 in
set_option maxHeartbeats 8000000 in
theorem ref12_Through_any (c1 c2 c3 r o1 o2 o3 d1 d2 d3 fr b a : Int) (w : World) (hc : I3 (c1, c2, c3)) (ho : I3 (o1, o2, o3)) (hb : vdot (vsub o1 c1) (vsub o2 c2) (vsub o3 c3) d1 d2 d3 = b) (hb2 : -3298534883328 ≤ b ∧ b ≤ 3298534883328) (ha : vdot d1 d2 d3 d1 d2 d3 = a) :
    Calls Try.prog 9 #[.agg #[.int .i64 c1, .int .i64 c2, .int .i64 c3], .int .i64 r, .agg #[.int .i64 o1, .int .i64 o2, .int .i64 o3, .int .i64 d1, .int .i64 d2, .int .i64 d3, .int .i64 fr]] w fun en w' => en = .returned (.tuple #[.agg #[.int .i64 (if ballM (c1, c2, c3) r (o1, o2, o3) (d1, d2, d3) = true ∧ b < 0 then -2 * b else 0), .int .i64 (if ballM (c1, c2, c3) r (o1, o2, o3) (d1, d2, d3) = true ∧ b < 0 then a else 0)], .bool (decide (ballM (c1, c2, c3) r (o1, o2, o3) (d1, d2, d3) = true ∧ b < 0))]) ∧ Below w.heap.size w w' := by
  have KM := Lib.hid (fun w => ref12_may c1 c2 c3 r o1 o2 o3 d1 d2 d3 fr w)
  have KS := Lib.hid (fun w => ref6_Sub o1 o2 o3 c1 c2 c3 w ho.1 ho.2.1 ho.2.2 hc.1 hc.2.1 hc.2.2)
  generalize vsub o1 c1 = s1 at *
  generalize vsub o2 c2 = s2 at *
  generalize vsub o3 c3 = s3 at *
  have KB := Lib.hid (fun w => ref6_Dot s1 s2 s3 d1 d2 d3 w)
  have KA := Lib.hid (fun w => ref6_Dot d1 d2 d3 d1 d2 d3 w)
  rw [hb] at KB
  rw [ha] at KA
  generalize ballM (c1, c2, c3) r (o1, o2, o3) (d1, d2, d3) = e1 at *
  obtain ⟨m, hm⟩ : ∃ m, -2 * b = m := ⟨_, rfl⟩
  have wm : wrap64 (-2 * b) = m := by rw [hm]; exact IntWalk.wrap64_in _ (by omega)
  have vm : IntKind.i64.wrap (-2 * b) = m := by rw [hm, i64w]; omega
  rw [hm]
  clear hb ha hc ho
  cases e1
  all_goals by_cases h : b < 0
  · have t : decide (0 ≤ b) = false := decide_eq_false (by omega)
    simp [h]
    clear h hm hb2
    go_enter Try.func9, Try.ntmps9
    go_upto_region 1 with (fail)
    obtain ⟨W1, hW1⟩ : ∃ W, W = ((w.alloc (.cells #[.int .i64 c1, .int .i64 c2, .int .i64 c3] 23)).alloc (.cells #[.int .i64 o1, .int .i64 o2, .int .i64 o3, .int .i64 d1, .int .i64 d2, .int .i64 d3, .int .i64 fr] 25)).alloc (.cells #[.int .i64 0, .int .i64 0] 27) := ⟨_, rfl⟩
    obtain ⟨k_c, k_y, k_r, B1⟩ := st3 hW1
    rw [← hW1]
    clear hW1
    have l_y : w.heap.size < w.heap.size + 1 := by omega
    have l_r : w.heap.size + 1 < w.heap.size + 1 + 1 := by omega
    generalize w.heap.size + 1 + 1 = g_r at *
    generalize w.heap.size + 1 = g_y at *
    obtain ⟨c_c_0, c_c_1, c_c_2⟩ := bwc3 (k_c)
    obtain ⟨c_y_0, c_y_1, c_y_2, c_y_3, c_y_4, c_y_5, c_y_6⟩ := bwc7 (k_y)
    obtain ⟨c_r_0, c_r_1⟩ := bwc2 (k_r)
    obtain ⟨f_r_0, f_r_1⟩ := bwf2 (k_r)
    obtain ⟨p1, hp1⟩ : ∃ p : BW W1, p.w = W1 := ⟨BW.start W1, rfl⟩
    rw [← hp1]
    clear hp1
    refine wp_region_bw (by kernel_rfl) (by kernel_rfl) ?_
    repeat (go_big_quiet_step (first
      | (go_at_call 20; (first | (with_reducible exact bw_call KS.out _)))
      | (go_at_call 22; (first | (with_reducible exact bw_call KB.out _)))))
    refine wpQuiet_nil ?_
    intro _ hw'
    obtain ⟨q, rfl⟩ := hw'
    go_wp2_with (first
      | (go_at_call 26; (first | (with_reducible refine (bw_call KM.out _).mono ?_)); rintro e w' ⟨rfl, q, rfl⟩)
      | (go_at_call 22; (first | (with_reducible refine (bw_call KA.out _).mono ?_)); rintro e w' ⟨rfl, q, rfl⟩))
    have kr := bkp2 (k_r.below q.h) (.int .i64 0) (.int .i64 0)
    obtain ⟨rc0, rc1⟩ := rwc2 kr
    exact bodyPost_ret (v := .tuple #[.agg #[.int .i64 0, .int .i64 0], .bool false]) (by simp [results, Try.results9, go_sem, rc0, rc1]) rfl ⟨rfl, blp2 (bw_below B1 q) (by omega)⟩
  · have t : decide (0 ≤ b) = true := decide_eq_true (by omega)
    simp [h]
    clear h hm hb2
    go_enter Try.func9, Try.ntmps9
    go_upto_region 1 with (fail)
    obtain ⟨W1, hW1⟩ : ∃ W, W = ((w.alloc (.cells #[.int .i64 c1, .int .i64 c2, .int .i64 c3] 23)).alloc (.cells #[.int .i64 o1, .int .i64 o2, .int .i64 o3, .int .i64 d1, .int .i64 d2, .int .i64 d3, .int .i64 fr] 25)).alloc (.cells #[.int .i64 0, .int .i64 0] 27) := ⟨_, rfl⟩
    obtain ⟨k_c, k_y, k_r, B1⟩ := st3 hW1
    rw [← hW1]
    clear hW1
    have l_y : w.heap.size < w.heap.size + 1 := by omega
    have l_r : w.heap.size + 1 < w.heap.size + 1 + 1 := by omega
    generalize w.heap.size + 1 + 1 = g_r at *
    generalize w.heap.size + 1 = g_y at *
    obtain ⟨c_c_0, c_c_1, c_c_2⟩ := bwc3 (k_c)
    obtain ⟨c_y_0, c_y_1, c_y_2, c_y_3, c_y_4, c_y_5, c_y_6⟩ := bwc7 (k_y)
    obtain ⟨c_r_0, c_r_1⟩ := bwc2 (k_r)
    obtain ⟨f_r_0, f_r_1⟩ := bwf2 (k_r)
    obtain ⟨p1, hp1⟩ : ∃ p : BW W1, p.w = W1 := ⟨BW.start W1, rfl⟩
    rw [← hp1]
    clear hp1
    refine wp_region_bw (by kernel_rfl) (by kernel_rfl) ?_
    repeat (go_big_quiet_step (first
      | (go_at_call 20; (first | (with_reducible exact bw_call KS.out _)))
      | (go_at_call 22; (first | (with_reducible exact bw_call KB.out _)))))
    refine wpQuiet_nil ?_
    intro _ hw'
    obtain ⟨q, rfl⟩ := hw'
    go_wp2_with (first
      | (go_at_call 26; (first | (with_reducible refine (bw_call KM.out _).mono ?_)); rintro e w' ⟨rfl, q, rfl⟩)
      | (go_at_call 22; (first | (with_reducible refine (bw_call KA.out _).mono ?_)); rintro e w' ⟨rfl, q, rfl⟩))
    have kr := bkp2 (k_r.below q.h) (.int .i64 0) (.int .i64 0)
    obtain ⟨rc0, rc1⟩ := rwc2 kr
    exact bodyPost_ret (v := .tuple #[.agg #[.int .i64 0, .int .i64 0], .bool false]) (by simp [results, Try.results9, go_sem, rc0, rc1]) rfl ⟨rfl, blp2 (bw_below B1 q) (by omega)⟩
  · have t : decide (0 ≤ b) = false := decide_eq_false (by omega)
    simp [h]
    clear h hm hb2
    go_enter Try.func9, Try.ntmps9
    go_upto_region 1 with (fail)
    obtain ⟨W1, hW1⟩ : ∃ W, W = ((w.alloc (.cells #[.int .i64 c1, .int .i64 c2, .int .i64 c3] 23)).alloc (.cells #[.int .i64 o1, .int .i64 o2, .int .i64 o3, .int .i64 d1, .int .i64 d2, .int .i64 d3, .int .i64 fr] 25)).alloc (.cells #[.int .i64 0, .int .i64 0] 27) := ⟨_, rfl⟩
    obtain ⟨k_c, k_y, k_r, B1⟩ := st3 hW1
    rw [← hW1]
    clear hW1
    have l_y : w.heap.size < w.heap.size + 1 := by omega
    have l_r : w.heap.size + 1 < w.heap.size + 1 + 1 := by omega
    generalize w.heap.size + 1 + 1 = g_r at *
    generalize w.heap.size + 1 = g_y at *
    obtain ⟨c_c_0, c_c_1, c_c_2⟩ := bwc3 (k_c)
    obtain ⟨c_y_0, c_y_1, c_y_2, c_y_3, c_y_4, c_y_5, c_y_6⟩ := bwc7 (k_y)
    obtain ⟨c_r_0, c_r_1⟩ := bwc2 (k_r)
    obtain ⟨f_r_0, f_r_1⟩ := bwf2 (k_r)
    obtain ⟨p1, hp1⟩ : ∃ p : BW W1, p.w = W1 := ⟨BW.start W1, rfl⟩
    rw [← hp1]
    clear hp1
    refine wp_region_bw (by kernel_rfl) (by kernel_rfl) ?_
    repeat (go_big_quiet_step (first
      | (go_at_call 20; (first | (with_reducible exact bw_call KS.out _)))
      | (go_at_call 22; (first | (with_reducible exact bw_call KB.out _)))))
    refine wpQuiet_nil ?_
    intro _ hw'
    obtain ⟨q, rfl⟩ := hw'
    go_wp2_with (first
      | (go_at_call 26; (first | (with_reducible refine (bw_call KM.out _).mono ?_)); rintro e w' ⟨rfl, q, rfl⟩)
      | (go_at_call 22; (first | (with_reducible refine (bw_call KA.out _).mono ?_)); rintro e w' ⟨rfl, q, rfl⟩))
    have kr := bkp2 (k_r.below q.h) (.int .i64 m) (.int .i64 a)
    obtain ⟨rc0, rc1⟩ := rwc2 kr
    exact bodyPost_ret (v := .tuple #[.agg #[.int .i64 m, .int .i64 a], .bool true]) (by simp [results, Try.results9, go_sem, rc0, rc1]) rfl ⟨rfl, blp2 (bw_below B1 q) (by omega)⟩
  · have t : decide (0 ≤ b) = true := decide_eq_true (by omega)
    simp [h]
    clear h hm hb2
    go_enter Try.func9, Try.ntmps9
    go_upto_region 1 with (fail)
    obtain ⟨W1, hW1⟩ : ∃ W, W = ((w.alloc (.cells #[.int .i64 c1, .int .i64 c2, .int .i64 c3] 23)).alloc (.cells #[.int .i64 o1, .int .i64 o2, .int .i64 o3, .int .i64 d1, .int .i64 d2, .int .i64 d3, .int .i64 fr] 25)).alloc (.cells #[.int .i64 0, .int .i64 0] 27) := ⟨_, rfl⟩
    obtain ⟨k_c, k_y, k_r, B1⟩ := st3 hW1
    rw [← hW1]
    clear hW1
    have l_y : w.heap.size < w.heap.size + 1 := by omega
    have l_r : w.heap.size + 1 < w.heap.size + 1 + 1 := by omega
    generalize w.heap.size + 1 + 1 = g_r at *
    generalize w.heap.size + 1 = g_y at *
    obtain ⟨c_c_0, c_c_1, c_c_2⟩ := bwc3 (k_c)
    obtain ⟨c_y_0, c_y_1, c_y_2, c_y_3, c_y_4, c_y_5, c_y_6⟩ := bwc7 (k_y)
    obtain ⟨c_r_0, c_r_1⟩ := bwc2 (k_r)
    obtain ⟨f_r_0, f_r_1⟩ := bwf2 (k_r)
    obtain ⟨p1, hp1⟩ : ∃ p : BW W1, p.w = W1 := ⟨BW.start W1, rfl⟩
    rw [← hp1]
    clear hp1
    refine wp_region_bw (by kernel_rfl) (by kernel_rfl) ?_
    repeat (go_big_quiet_step (first
      | (go_at_call 20; (first | (with_reducible exact bw_call KS.out _)))
      | (go_at_call 22; (first | (with_reducible exact bw_call KB.out _)))))
    refine wpQuiet_nil ?_
    intro _ hw'
    obtain ⟨q, rfl⟩ := hw'
    go_wp2_with (first
      | (go_at_call 26; (first | (with_reducible refine (bw_call KM.out _).mono ?_)); rintro e w' ⟨rfl, q, rfl⟩)
      | (go_at_call 22; (first | (with_reducible refine (bw_call KA.out _).mono ?_)); rintro e w' ⟨rfl, q, rfl⟩))
    have kr := bkp2 (k_r.below q.h) (.int .i64 0) (.int .i64 0)
    obtain ⟨rc0, rc1⟩ := rwc2 kr
    exact bodyPost_ret (v := .tuple #[.agg #[.int .i64 0, .int .i64 0], .bool false]) (by simp [results, Try.results9, go_sem, rc0, rc1]) rfl ⟨rfl, blp2 (bw_below B1 q) (by omega)⟩

theorem ref12_Through (c1 c2 c3 r o1 o2 o3 d1 d2 d3 fr : Int) (w : World) (hc : I3 (c1, c2, c3)) (hr : I64 r) (ho : I3 (o1, o2, o3)) (hd : I3 (d1, d2, d3)) :
    Calls Try.prog 9 #[.agg #[.int .i64 c1, .int .i64 c2, .int .i64 c3], .int .i64 r, .agg #[.int .i64 o1, .int .i64 o2, .int .i64 o3, .int .i64 d1, .int .i64 d2, .int .i64 d3, .int .i64 fr]] w fun en w' => en = .returned (.tuple #[.agg #[.int .i64 (ballT (c1, c2, c3) r (o1, o2, o3) (d1, d2, d3)).1.1, .int .i64 (ballT (c1, c2, c3) r (o1, o2, o3) (d1, d2, d3)).1.2], .bool (ballT (c1, c2, c3) r (o1, o2, o3) (d1, d2, d3)).2]) ∧ Below w.heap.size w w' := by
  by_cases hm : ballM (c1, c2, c3) r (o1, o2, o3) (d1, d2, d3) = true
  · have hm' := hm
    unfold ballM at hm'
    simp only [Bool.and_eq_true] at hm'
    obtain ⟨h1, h2, h3, h4⟩ := hm'
    have h5 := (ballR_iff.1 h1).1
    have es := sbT_vs h2 h5
    dsimp only at es
    have nn := sbT_near h2 h5
    have h := ref12_Through_any c1 c2 c3 r o1 o2 o3 d1 d2 d3 fr (dtT (sbT (o1, o2, o3) (c1, c2, c3)) (d1, d2, d3)) (dtT (d1, d2, d3) (d1, d2, d3)) w hc ho (by rw [← vdot_dtT nn h3, ← es]) (dtT_near nn h3) (vdot_dtT h3 h3)
    unfold ballT
    by_cases hb : dtT (sbT (o1, o2, o3) (c1, c2, c3)) (d1, d2, d3) < 0
    · rw [if_pos ⟨hm, hb⟩]
      rw [if_pos ⟨hm, hb⟩, if_pos ⟨hm, hb⟩, decide_eq_true ⟨hm, hb⟩] at h
      exact h
    · rw [if_neg (fun e => hb e.2)]
      rw [if_neg (fun e => hb e.2), if_neg (fun e => hb e.2), decide_eq_false (fun e => hb e.2)] at h
      exact h
  · have h := ref12_Through_any c1 c2 c3 r o1 o2 o3 d1 d2 d3 fr (vdot (vsub o1 c1) (vsub o2 c2) (vsub o3 c3) d1 d2 d3) (vdot d1 d2 d3 d1 d2 d3) w hc ho rfl (vdot_in _ _ _ _ _ _) rfl
    unfold ballT
    rw [if_neg (fun e => hm e.1)]
    rw [if_neg (fun e => hm e.1), if_neg (fun e => hm e.1), decide_eq_false (fun e => hm e.1)] at h
    exact h

set_option maxRecDepth 100000 in
set_option maxHeartbeats 8000000 in
theorem ref12_Normal_any (c1 c2 c3 t1 t2 t3 n1 n2 n3 : Int) (w : World) (ok : Bool) (hc : I3 (c1, c2, c3)) (ht : I3 (t1, t2, t3)) (hn : vunit (vsub t1 c1) (vsub t2 c2) (vsub t3 c3) = (n1, n2, n3)) (hk : vuOk (vsub t1 c1) (vsub t2 c2) (vsub t3 c3) = ok) :
    Calls Try.prog 13 #[.agg #[.int .i64 c1, .int .i64 c2, .int .i64 c3], .agg #[.int .i64 t1, .int .i64 t2, .int .i64 t3]] w fun en w' => en = .returned (.agg #[.int .i64 (if ok = true ∧ plc (c1, c2, c3) = true ∧ plc (t1, t2, t3) = true then n1 else 0), .int .i64 (if ok = true ∧ plc (c1, c2, c3) = true ∧ plc (t1, t2, t3) = true then n2 else 0), .int .i64 (if ok = true ∧ plc (c1, c2, c3) = true ∧ plc (t1, t2, t3) = true then n3 else 16384)]) ∧ Below w.heap.size w w' := by
  have KS := Lib.hid (fun w => ref6_Sub t1 t2 t3 c1 c2 c3 w ht.1 ht.2.1 ht.2.2 hc.1 hc.2.1 hc.2.2)
  generalize vsub t1 c1 = s1 at *
  generalize vsub t2 c2 = s2 at *
  generalize vsub t3 c3 = s3 at *
  have KU := Lib.hid (fun w => ref6_Unit s1 s2 s3 w)
  rw [hn, hk] at KU
  dsimp only at KU
  have K1 := Lib.hid (fun w => ref11_Place c1 c2 c3 w)
  have K2 := Lib.hid (fun w => ref11_Place t1 t2 t3 w)
  generalize plc (c1, c2, c3) = e1 at *
  generalize plc (t1, t2, t3) = e2 at *
  clear hn hk hc ht
  cases ok <;> cases e1 <;> cases e2
  · simp
    go_enter Try.func13, Try.ntmps13
    go_upto_region 1 with (fail)
    obtain ⟨W1, hW1⟩ : ∃ W, W = ((w.alloc (.cells #[.int .i64 c1, .int .i64 c2, .int .i64 c3] 23)).alloc (.cells #[.int .i64 t1, .int .i64 t2, .int .i64 t3] 23)).alloc (.cells #[.int .i64 0, .int .i64 0, .int .i64 0] 23) := ⟨_, rfl⟩
    obtain ⟨k_c, k_a, k_r, B1⟩ := st3 hW1
    rw [← hW1]
    clear hW1
    have l_a : w.heap.size < w.heap.size + 1 := by omega
    have l_r : w.heap.size + 1 < w.heap.size + 1 + 1 := by omega
    generalize w.heap.size + 1 + 1 = g_r at *
    generalize w.heap.size + 1 = g_a at *
    obtain ⟨c_c_0, c_c_1, c_c_2⟩ := bwc3 (k_c)
    obtain ⟨c_a_0, c_a_1, c_a_2⟩ := bwc3 (k_a)
    obtain ⟨c_r_0, c_r_1, c_r_2⟩ := bwc3 (k_r)
    obtain ⟨f_r_0, f_r_1, f_r_2⟩ := bwf3 (k_r)
    obtain ⟨p1, hp1⟩ : ∃ p : BW W1, p.w = W1 := ⟨BW.start W1, rfl⟩
    rw [← hp1]
    clear hp1
    go_upto_region 2 with (first
      | (go_at_call 20; (first | (with_reducible refine (bw_call KS.out _).mono ?_)); rintro e w' ⟨rfl, q, rfl⟩)
      | (go_at_call 32; (first | (with_reducible refine (bw_call KU.out _).mono ?_)); rintro e w' ⟨rfl, q, rfl⟩))
    obtain ⟨W2, hW2⟩ : ∃ W, W = q.w.alloc (.cells #[.int .i64 n1, .int .i64 n2, .int .i64 n3] 23) := ⟨_, rfl⟩
    have B2 : Below w.heap.size w W2 := by rw [hW2]; exact (bw_below B1 q).alloc (bw_below B1 q).size _
    have l_n : g_r < q.w.heap.size := (k_r.below q.h).lt
    have o_n : w.heap.size ≤ q.w.heap.size := (bw_below B1 q).size
    have k_c := bka hW2 (k_c.below q.h)
    have k_a := bka hW2 (k_a.below q.h)
    have k_r := bka hW2 (k_r.below q.h)
    have k_n := bkn hW2
    rw [← hW2]
    clear hW2
    clear B1
    clear c_c_0 c_c_1 c_c_2 c_a_0 c_a_1 c_a_2 c_r_0 c_r_1 c_r_2 f_r_0 f_r_1 f_r_2
    generalize q.w.heap.size = g_n at *
    obtain ⟨c_c_0, c_c_1, c_c_2⟩ := bwc3 (k_c)
    obtain ⟨c_a_0, c_a_1, c_a_2⟩ := bwc3 (k_a)
    obtain ⟨c_r_0, c_r_1, c_r_2⟩ := bwc3 (k_r)
    obtain ⟨f_r_0, f_r_1, f_r_2⟩ := bwf3 (k_r)
    obtain ⟨c_n_0, c_n_1, c_n_2⟩ := bwc3 (k_n)
    obtain ⟨p2, hp2⟩ : ∃ p : BW W2, p.w = W2 := ⟨BW.start W2, rfl⟩
    rw [← hp2]
    clear hp2
    go_wp2_with (first
      | (go_at_call 21; (first | (with_reducible refine (bw_call K1.out _).mono ?_) | (with_reducible refine (bw_call K2.out _).mono ?_)); rintro e w' ⟨rfl, q, rfl⟩))
    have kr := bkp3 (k_r.below p2.h) (.int .i64 0) (.int .i64 0) (.int .i64 16384)
    obtain ⟨rc0, rc1, rc2⟩ := rwc3 kr
    exact bodyPost_ret (v := .agg #[.int .i64 0, .int .i64 0, .int .i64 16384]) (by simp [results, Try.results13, go_sem, rc0, rc1, rc2]) rfl ⟨rfl, blp3 (bw_below B2 p2) (by omega)⟩
  · simp
    go_enter Try.func13, Try.ntmps13
    go_upto_region 1 with (fail)
    obtain ⟨W1, hW1⟩ : ∃ W, W = ((w.alloc (.cells #[.int .i64 c1, .int .i64 c2, .int .i64 c3] 23)).alloc (.cells #[.int .i64 t1, .int .i64 t2, .int .i64 t3] 23)).alloc (.cells #[.int .i64 0, .int .i64 0, .int .i64 0] 23) := ⟨_, rfl⟩
    obtain ⟨k_c, k_a, k_r, B1⟩ := st3 hW1
    rw [← hW1]
    clear hW1
    have l_a : w.heap.size < w.heap.size + 1 := by omega
    have l_r : w.heap.size + 1 < w.heap.size + 1 + 1 := by omega
    generalize w.heap.size + 1 + 1 = g_r at *
    generalize w.heap.size + 1 = g_a at *
    obtain ⟨c_c_0, c_c_1, c_c_2⟩ := bwc3 (k_c)
    obtain ⟨c_a_0, c_a_1, c_a_2⟩ := bwc3 (k_a)
    obtain ⟨c_r_0, c_r_1, c_r_2⟩ := bwc3 (k_r)
    obtain ⟨f_r_0, f_r_1, f_r_2⟩ := bwf3 (k_r)
    obtain ⟨p1, hp1⟩ : ∃ p : BW W1, p.w = W1 := ⟨BW.start W1, rfl⟩
    rw [← hp1]
    clear hp1
    go_upto_region 2 with (first
      | (go_at_call 20; (first | (with_reducible refine (bw_call KS.out _).mono ?_)); rintro e w' ⟨rfl, q, rfl⟩)
      | (go_at_call 32; (first | (with_reducible refine (bw_call KU.out _).mono ?_)); rintro e w' ⟨rfl, q, rfl⟩))
    obtain ⟨W2, hW2⟩ : ∃ W, W = q.w.alloc (.cells #[.int .i64 n1, .int .i64 n2, .int .i64 n3] 23) := ⟨_, rfl⟩
    have B2 : Below w.heap.size w W2 := by rw [hW2]; exact (bw_below B1 q).alloc (bw_below B1 q).size _
    have l_n : g_r < q.w.heap.size := (k_r.below q.h).lt
    have o_n : w.heap.size ≤ q.w.heap.size := (bw_below B1 q).size
    have k_c := bka hW2 (k_c.below q.h)
    have k_a := bka hW2 (k_a.below q.h)
    have k_r := bka hW2 (k_r.below q.h)
    have k_n := bkn hW2
    rw [← hW2]
    clear hW2
    clear B1
    clear c_c_0 c_c_1 c_c_2 c_a_0 c_a_1 c_a_2 c_r_0 c_r_1 c_r_2 f_r_0 f_r_1 f_r_2
    generalize q.w.heap.size = g_n at *
    obtain ⟨c_c_0, c_c_1, c_c_2⟩ := bwc3 (k_c)
    obtain ⟨c_a_0, c_a_1, c_a_2⟩ := bwc3 (k_a)
    obtain ⟨c_r_0, c_r_1, c_r_2⟩ := bwc3 (k_r)
    obtain ⟨f_r_0, f_r_1, f_r_2⟩ := bwf3 (k_r)
    obtain ⟨c_n_0, c_n_1, c_n_2⟩ := bwc3 (k_n)
    obtain ⟨p2, hp2⟩ : ∃ p : BW W2, p.w = W2 := ⟨BW.start W2, rfl⟩
    rw [← hp2]
    clear hp2
    go_wp2_with (first
      | (go_at_call 21; (first | (with_reducible refine (bw_call K1.out _).mono ?_) | (with_reducible refine (bw_call K2.out _).mono ?_)); rintro e w' ⟨rfl, q, rfl⟩))
    have kr := bkp3 (k_r.below p2.h) (.int .i64 0) (.int .i64 0) (.int .i64 16384)
    obtain ⟨rc0, rc1, rc2⟩ := rwc3 kr
    exact bodyPost_ret (v := .agg #[.int .i64 0, .int .i64 0, .int .i64 16384]) (by simp [results, Try.results13, go_sem, rc0, rc1, rc2]) rfl ⟨rfl, blp3 (bw_below B2 p2) (by omega)⟩
  · simp
    go_enter Try.func13, Try.ntmps13
    go_upto_region 1 with (fail)
    obtain ⟨W1, hW1⟩ : ∃ W, W = ((w.alloc (.cells #[.int .i64 c1, .int .i64 c2, .int .i64 c3] 23)).alloc (.cells #[.int .i64 t1, .int .i64 t2, .int .i64 t3] 23)).alloc (.cells #[.int .i64 0, .int .i64 0, .int .i64 0] 23) := ⟨_, rfl⟩
    obtain ⟨k_c, k_a, k_r, B1⟩ := st3 hW1
    rw [← hW1]
    clear hW1
    have l_a : w.heap.size < w.heap.size + 1 := by omega
    have l_r : w.heap.size + 1 < w.heap.size + 1 + 1 := by omega
    generalize w.heap.size + 1 + 1 = g_r at *
    generalize w.heap.size + 1 = g_a at *
    obtain ⟨c_c_0, c_c_1, c_c_2⟩ := bwc3 (k_c)
    obtain ⟨c_a_0, c_a_1, c_a_2⟩ := bwc3 (k_a)
    obtain ⟨c_r_0, c_r_1, c_r_2⟩ := bwc3 (k_r)
    obtain ⟨f_r_0, f_r_1, f_r_2⟩ := bwf3 (k_r)
    obtain ⟨p1, hp1⟩ : ∃ p : BW W1, p.w = W1 := ⟨BW.start W1, rfl⟩
    rw [← hp1]
    clear hp1
    go_upto_region 2 with (first
      | (go_at_call 20; (first | (with_reducible refine (bw_call KS.out _).mono ?_)); rintro e w' ⟨rfl, q, rfl⟩)
      | (go_at_call 32; (first | (with_reducible refine (bw_call KU.out _).mono ?_)); rintro e w' ⟨rfl, q, rfl⟩))
    obtain ⟨W2, hW2⟩ : ∃ W, W = q.w.alloc (.cells #[.int .i64 n1, .int .i64 n2, .int .i64 n3] 23) := ⟨_, rfl⟩
    have B2 : Below w.heap.size w W2 := by rw [hW2]; exact (bw_below B1 q).alloc (bw_below B1 q).size _
    have l_n : g_r < q.w.heap.size := (k_r.below q.h).lt
    have o_n : w.heap.size ≤ q.w.heap.size := (bw_below B1 q).size
    have k_c := bka hW2 (k_c.below q.h)
    have k_a := bka hW2 (k_a.below q.h)
    have k_r := bka hW2 (k_r.below q.h)
    have k_n := bkn hW2
    rw [← hW2]
    clear hW2
    clear B1
    clear c_c_0 c_c_1 c_c_2 c_a_0 c_a_1 c_a_2 c_r_0 c_r_1 c_r_2 f_r_0 f_r_1 f_r_2
    generalize q.w.heap.size = g_n at *
    obtain ⟨c_c_0, c_c_1, c_c_2⟩ := bwc3 (k_c)
    obtain ⟨c_a_0, c_a_1, c_a_2⟩ := bwc3 (k_a)
    obtain ⟨c_r_0, c_r_1, c_r_2⟩ := bwc3 (k_r)
    obtain ⟨f_r_0, f_r_1, f_r_2⟩ := bwf3 (k_r)
    obtain ⟨c_n_0, c_n_1, c_n_2⟩ := bwc3 (k_n)
    obtain ⟨p2, hp2⟩ : ∃ p : BW W2, p.w = W2 := ⟨BW.start W2, rfl⟩
    rw [← hp2]
    clear hp2
    go_wp2_with (first
      | (go_at_call 21; (first | (with_reducible refine (bw_call K1.out _).mono ?_) | (with_reducible refine (bw_call K2.out _).mono ?_)); rintro e w' ⟨rfl, q, rfl⟩))
    have kr := bkp3 (k_r.below p2.h) (.int .i64 0) (.int .i64 0) (.int .i64 16384)
    obtain ⟨rc0, rc1, rc2⟩ := rwc3 kr
    exact bodyPost_ret (v := .agg #[.int .i64 0, .int .i64 0, .int .i64 16384]) (by simp [results, Try.results13, go_sem, rc0, rc1, rc2]) rfl ⟨rfl, blp3 (bw_below B2 p2) (by omega)⟩
  · simp
    go_enter Try.func13, Try.ntmps13
    go_upto_region 1 with (fail)
    obtain ⟨W1, hW1⟩ : ∃ W, W = ((w.alloc (.cells #[.int .i64 c1, .int .i64 c2, .int .i64 c3] 23)).alloc (.cells #[.int .i64 t1, .int .i64 t2, .int .i64 t3] 23)).alloc (.cells #[.int .i64 0, .int .i64 0, .int .i64 0] 23) := ⟨_, rfl⟩
    obtain ⟨k_c, k_a, k_r, B1⟩ := st3 hW1
    rw [← hW1]
    clear hW1
    have l_a : w.heap.size < w.heap.size + 1 := by omega
    have l_r : w.heap.size + 1 < w.heap.size + 1 + 1 := by omega
    generalize w.heap.size + 1 + 1 = g_r at *
    generalize w.heap.size + 1 = g_a at *
    obtain ⟨c_c_0, c_c_1, c_c_2⟩ := bwc3 (k_c)
    obtain ⟨c_a_0, c_a_1, c_a_2⟩ := bwc3 (k_a)
    obtain ⟨c_r_0, c_r_1, c_r_2⟩ := bwc3 (k_r)
    obtain ⟨f_r_0, f_r_1, f_r_2⟩ := bwf3 (k_r)
    obtain ⟨p1, hp1⟩ : ∃ p : BW W1, p.w = W1 := ⟨BW.start W1, rfl⟩
    rw [← hp1]
    clear hp1
    go_upto_region 2 with (first
      | (go_at_call 20; (first | (with_reducible refine (bw_call KS.out _).mono ?_)); rintro e w' ⟨rfl, q, rfl⟩)
      | (go_at_call 32; (first | (with_reducible refine (bw_call KU.out _).mono ?_)); rintro e w' ⟨rfl, q, rfl⟩))
    obtain ⟨W2, hW2⟩ : ∃ W, W = q.w.alloc (.cells #[.int .i64 n1, .int .i64 n2, .int .i64 n3] 23) := ⟨_, rfl⟩
    have B2 : Below w.heap.size w W2 := by rw [hW2]; exact (bw_below B1 q).alloc (bw_below B1 q).size _
    have l_n : g_r < q.w.heap.size := (k_r.below q.h).lt
    have o_n : w.heap.size ≤ q.w.heap.size := (bw_below B1 q).size
    have k_c := bka hW2 (k_c.below q.h)
    have k_a := bka hW2 (k_a.below q.h)
    have k_r := bka hW2 (k_r.below q.h)
    have k_n := bkn hW2
    rw [← hW2]
    clear hW2
    clear B1
    clear c_c_0 c_c_1 c_c_2 c_a_0 c_a_1 c_a_2 c_r_0 c_r_1 c_r_2 f_r_0 f_r_1 f_r_2
    generalize q.w.heap.size = g_n at *
    obtain ⟨c_c_0, c_c_1, c_c_2⟩ := bwc3 (k_c)
    obtain ⟨c_a_0, c_a_1, c_a_2⟩ := bwc3 (k_a)
    obtain ⟨c_r_0, c_r_1, c_r_2⟩ := bwc3 (k_r)
    obtain ⟨f_r_0, f_r_1, f_r_2⟩ := bwf3 (k_r)
    obtain ⟨c_n_0, c_n_1, c_n_2⟩ := bwc3 (k_n)
    obtain ⟨p2, hp2⟩ : ∃ p : BW W2, p.w = W2 := ⟨BW.start W2, rfl⟩
    rw [← hp2]
    clear hp2
    go_wp2_with (first
      | (go_at_call 21; (first | (with_reducible refine (bw_call K1.out _).mono ?_) | (with_reducible refine (bw_call K2.out _).mono ?_)); rintro e w' ⟨rfl, q, rfl⟩))
    have kr := bkp3 (k_r.below p2.h) (.int .i64 0) (.int .i64 0) (.int .i64 16384)
    obtain ⟨rc0, rc1, rc2⟩ := rwc3 kr
    exact bodyPost_ret (v := .agg #[.int .i64 0, .int .i64 0, .int .i64 16384]) (by simp [results, Try.results13, go_sem, rc0, rc1, rc2]) rfl ⟨rfl, blp3 (bw_below B2 p2) (by omega)⟩
  · simp
    go_enter Try.func13, Try.ntmps13
    go_upto_region 1 with (fail)
    obtain ⟨W1, hW1⟩ : ∃ W, W = ((w.alloc (.cells #[.int .i64 c1, .int .i64 c2, .int .i64 c3] 23)).alloc (.cells #[.int .i64 t1, .int .i64 t2, .int .i64 t3] 23)).alloc (.cells #[.int .i64 0, .int .i64 0, .int .i64 0] 23) := ⟨_, rfl⟩
    obtain ⟨k_c, k_a, k_r, B1⟩ := st3 hW1
    rw [← hW1]
    clear hW1
    have l_a : w.heap.size < w.heap.size + 1 := by omega
    have l_r : w.heap.size + 1 < w.heap.size + 1 + 1 := by omega
    generalize w.heap.size + 1 + 1 = g_r at *
    generalize w.heap.size + 1 = g_a at *
    obtain ⟨c_c_0, c_c_1, c_c_2⟩ := bwc3 (k_c)
    obtain ⟨c_a_0, c_a_1, c_a_2⟩ := bwc3 (k_a)
    obtain ⟨c_r_0, c_r_1, c_r_2⟩ := bwc3 (k_r)
    obtain ⟨f_r_0, f_r_1, f_r_2⟩ := bwf3 (k_r)
    obtain ⟨p1, hp1⟩ : ∃ p : BW W1, p.w = W1 := ⟨BW.start W1, rfl⟩
    rw [← hp1]
    clear hp1
    go_upto_region 2 with (first
      | (go_at_call 20; (first | (with_reducible refine (bw_call KS.out _).mono ?_)); rintro e w' ⟨rfl, q, rfl⟩)
      | (go_at_call 32; (first | (with_reducible refine (bw_call KU.out _).mono ?_)); rintro e w' ⟨rfl, q, rfl⟩))
    obtain ⟨W2, hW2⟩ : ∃ W, W = q.w.alloc (.cells #[.int .i64 n1, .int .i64 n2, .int .i64 n3] 23) := ⟨_, rfl⟩
    have B2 : Below w.heap.size w W2 := by rw [hW2]; exact (bw_below B1 q).alloc (bw_below B1 q).size _
    have l_n : g_r < q.w.heap.size := (k_r.below q.h).lt
    have o_n : w.heap.size ≤ q.w.heap.size := (bw_below B1 q).size
    have k_c := bka hW2 (k_c.below q.h)
    have k_a := bka hW2 (k_a.below q.h)
    have k_r := bka hW2 (k_r.below q.h)
    have k_n := bkn hW2
    rw [← hW2]
    clear hW2
    clear B1
    clear c_c_0 c_c_1 c_c_2 c_a_0 c_a_1 c_a_2 c_r_0 c_r_1 c_r_2 f_r_0 f_r_1 f_r_2
    generalize q.w.heap.size = g_n at *
    obtain ⟨c_c_0, c_c_1, c_c_2⟩ := bwc3 (k_c)
    obtain ⟨c_a_0, c_a_1, c_a_2⟩ := bwc3 (k_a)
    obtain ⟨c_r_0, c_r_1, c_r_2⟩ := bwc3 (k_r)
    obtain ⟨f_r_0, f_r_1, f_r_2⟩ := bwf3 (k_r)
    obtain ⟨c_n_0, c_n_1, c_n_2⟩ := bwc3 (k_n)
    obtain ⟨p2, hp2⟩ : ∃ p : BW W2, p.w = W2 := ⟨BW.start W2, rfl⟩
    rw [← hp2]
    clear hp2
    go_wp2_with (first
      | (go_at_call 21; (first | (with_reducible refine (bw_call K1.out _).mono ?_) | (with_reducible refine (bw_call K2.out _).mono ?_)); rintro e w' ⟨rfl, q, rfl⟩))
    have kr := bkp3 (k_r.below q.h) (.int .i64 0) (.int .i64 0) (.int .i64 16384)
    obtain ⟨rc0, rc1, rc2⟩ := rwc3 kr
    exact bodyPost_ret (v := .agg #[.int .i64 0, .int .i64 0, .int .i64 16384]) (by simp [results, Try.results13, go_sem, rc0, rc1, rc2]) rfl ⟨rfl, blp3 (bw_below B2 q) (by omega)⟩
  · simp
    go_enter Try.func13, Try.ntmps13
    go_upto_region 1 with (fail)
    obtain ⟨W1, hW1⟩ : ∃ W, W = ((w.alloc (.cells #[.int .i64 c1, .int .i64 c2, .int .i64 c3] 23)).alloc (.cells #[.int .i64 t1, .int .i64 t2, .int .i64 t3] 23)).alloc (.cells #[.int .i64 0, .int .i64 0, .int .i64 0] 23) := ⟨_, rfl⟩
    obtain ⟨k_c, k_a, k_r, B1⟩ := st3 hW1
    rw [← hW1]
    clear hW1
    have l_a : w.heap.size < w.heap.size + 1 := by omega
    have l_r : w.heap.size + 1 < w.heap.size + 1 + 1 := by omega
    generalize w.heap.size + 1 + 1 = g_r at *
    generalize w.heap.size + 1 = g_a at *
    obtain ⟨c_c_0, c_c_1, c_c_2⟩ := bwc3 (k_c)
    obtain ⟨c_a_0, c_a_1, c_a_2⟩ := bwc3 (k_a)
    obtain ⟨c_r_0, c_r_1, c_r_2⟩ := bwc3 (k_r)
    obtain ⟨f_r_0, f_r_1, f_r_2⟩ := bwf3 (k_r)
    obtain ⟨p1, hp1⟩ : ∃ p : BW W1, p.w = W1 := ⟨BW.start W1, rfl⟩
    rw [← hp1]
    clear hp1
    go_upto_region 2 with (first
      | (go_at_call 20; (first | (with_reducible refine (bw_call KS.out _).mono ?_)); rintro e w' ⟨rfl, q, rfl⟩)
      | (go_at_call 32; (first | (with_reducible refine (bw_call KU.out _).mono ?_)); rintro e w' ⟨rfl, q, rfl⟩))
    obtain ⟨W2, hW2⟩ : ∃ W, W = q.w.alloc (.cells #[.int .i64 n1, .int .i64 n2, .int .i64 n3] 23) := ⟨_, rfl⟩
    have B2 : Below w.heap.size w W2 := by rw [hW2]; exact (bw_below B1 q).alloc (bw_below B1 q).size _
    have l_n : g_r < q.w.heap.size := (k_r.below q.h).lt
    have o_n : w.heap.size ≤ q.w.heap.size := (bw_below B1 q).size
    have k_c := bka hW2 (k_c.below q.h)
    have k_a := bka hW2 (k_a.below q.h)
    have k_r := bka hW2 (k_r.below q.h)
    have k_n := bkn hW2
    rw [← hW2]
    clear hW2
    clear B1
    clear c_c_0 c_c_1 c_c_2 c_a_0 c_a_1 c_a_2 c_r_0 c_r_1 c_r_2 f_r_0 f_r_1 f_r_2
    generalize q.w.heap.size = g_n at *
    obtain ⟨c_c_0, c_c_1, c_c_2⟩ := bwc3 (k_c)
    obtain ⟨c_a_0, c_a_1, c_a_2⟩ := bwc3 (k_a)
    obtain ⟨c_r_0, c_r_1, c_r_2⟩ := bwc3 (k_r)
    obtain ⟨f_r_0, f_r_1, f_r_2⟩ := bwf3 (k_r)
    obtain ⟨c_n_0, c_n_1, c_n_2⟩ := bwc3 (k_n)
    obtain ⟨p2, hp2⟩ : ∃ p : BW W2, p.w = W2 := ⟨BW.start W2, rfl⟩
    rw [← hp2]
    clear hp2
    go_wp2_with (first
      | (go_at_call 21; (first | (with_reducible refine (bw_call K1.out _).mono ?_) | (with_reducible refine (bw_call K2.out _).mono ?_)); rintro e w' ⟨rfl, q, rfl⟩))
    have kr := bkp3 (k_r.below q.h) (.int .i64 0) (.int .i64 0) (.int .i64 16384)
    obtain ⟨rc0, rc1, rc2⟩ := rwc3 kr
    exact bodyPost_ret (v := .agg #[.int .i64 0, .int .i64 0, .int .i64 16384]) (by simp [results, Try.results13, go_sem, rc0, rc1, rc2]) rfl ⟨rfl, blp3 (bw_below B2 q) (by omega)⟩
  · simp
    go_enter Try.func13, Try.ntmps13
    go_upto_region 1 with (fail)
    obtain ⟨W1, hW1⟩ : ∃ W, W = ((w.alloc (.cells #[.int .i64 c1, .int .i64 c2, .int .i64 c3] 23)).alloc (.cells #[.int .i64 t1, .int .i64 t2, .int .i64 t3] 23)).alloc (.cells #[.int .i64 0, .int .i64 0, .int .i64 0] 23) := ⟨_, rfl⟩
    obtain ⟨k_c, k_a, k_r, B1⟩ := st3 hW1
    rw [← hW1]
    clear hW1
    have l_a : w.heap.size < w.heap.size + 1 := by omega
    have l_r : w.heap.size + 1 < w.heap.size + 1 + 1 := by omega
    generalize w.heap.size + 1 + 1 = g_r at *
    generalize w.heap.size + 1 = g_a at *
    obtain ⟨c_c_0, c_c_1, c_c_2⟩ := bwc3 (k_c)
    obtain ⟨c_a_0, c_a_1, c_a_2⟩ := bwc3 (k_a)
    obtain ⟨c_r_0, c_r_1, c_r_2⟩ := bwc3 (k_r)
    obtain ⟨f_r_0, f_r_1, f_r_2⟩ := bwf3 (k_r)
    obtain ⟨p1, hp1⟩ : ∃ p : BW W1, p.w = W1 := ⟨BW.start W1, rfl⟩
    rw [← hp1]
    clear hp1
    go_upto_region 2 with (first
      | (go_at_call 20; (first | (with_reducible refine (bw_call KS.out _).mono ?_)); rintro e w' ⟨rfl, q, rfl⟩)
      | (go_at_call 32; (first | (with_reducible refine (bw_call KU.out _).mono ?_)); rintro e w' ⟨rfl, q, rfl⟩))
    obtain ⟨W2, hW2⟩ : ∃ W, W = q.w.alloc (.cells #[.int .i64 n1, .int .i64 n2, .int .i64 n3] 23) := ⟨_, rfl⟩
    have B2 : Below w.heap.size w W2 := by rw [hW2]; exact (bw_below B1 q).alloc (bw_below B1 q).size _
    have l_n : g_r < q.w.heap.size := (k_r.below q.h).lt
    have o_n : w.heap.size ≤ q.w.heap.size := (bw_below B1 q).size
    have k_c := bka hW2 (k_c.below q.h)
    have k_a := bka hW2 (k_a.below q.h)
    have k_r := bka hW2 (k_r.below q.h)
    have k_n := bkn hW2
    rw [← hW2]
    clear hW2
    clear B1
    clear c_c_0 c_c_1 c_c_2 c_a_0 c_a_1 c_a_2 c_r_0 c_r_1 c_r_2 f_r_0 f_r_1 f_r_2
    generalize q.w.heap.size = g_n at *
    obtain ⟨c_c_0, c_c_1, c_c_2⟩ := bwc3 (k_c)
    obtain ⟨c_a_0, c_a_1, c_a_2⟩ := bwc3 (k_a)
    obtain ⟨c_r_0, c_r_1, c_r_2⟩ := bwc3 (k_r)
    obtain ⟨f_r_0, f_r_1, f_r_2⟩ := bwf3 (k_r)
    obtain ⟨c_n_0, c_n_1, c_n_2⟩ := bwc3 (k_n)
    obtain ⟨p2, hp2⟩ : ∃ p : BW W2, p.w = W2 := ⟨BW.start W2, rfl⟩
    rw [← hp2]
    clear hp2
    go_wp2_with (first
      | (go_at_call 21; (first | (with_reducible refine (bw_call K1.out _).mono ?_) | (with_reducible refine (bw_call K2.out _).mono ?_)); rintro e w' ⟨rfl, q, rfl⟩))
    have kr := bkp3 (k_r.below q.h) (.int .i64 0) (.int .i64 0) (.int .i64 16384)
    obtain ⟨rc0, rc1, rc2⟩ := rwc3 kr
    exact bodyPost_ret (v := .agg #[.int .i64 0, .int .i64 0, .int .i64 16384]) (by simp [results, Try.results13, go_sem, rc0, rc1, rc2]) rfl ⟨rfl, blp3 (bw_below B2 q) (by omega)⟩
  · simp
    go_enter Try.func13, Try.ntmps13
    go_upto_region 1 with (fail)
    obtain ⟨W1, hW1⟩ : ∃ W, W = ((w.alloc (.cells #[.int .i64 c1, .int .i64 c2, .int .i64 c3] 23)).alloc (.cells #[.int .i64 t1, .int .i64 t2, .int .i64 t3] 23)).alloc (.cells #[.int .i64 0, .int .i64 0, .int .i64 0] 23) := ⟨_, rfl⟩
    obtain ⟨k_c, k_a, k_r, B1⟩ := st3 hW1
    rw [← hW1]
    clear hW1
    have l_a : w.heap.size < w.heap.size + 1 := by omega
    have l_r : w.heap.size + 1 < w.heap.size + 1 + 1 := by omega
    generalize w.heap.size + 1 + 1 = g_r at *
    generalize w.heap.size + 1 = g_a at *
    obtain ⟨c_c_0, c_c_1, c_c_2⟩ := bwc3 (k_c)
    obtain ⟨c_a_0, c_a_1, c_a_2⟩ := bwc3 (k_a)
    obtain ⟨c_r_0, c_r_1, c_r_2⟩ := bwc3 (k_r)
    obtain ⟨f_r_0, f_r_1, f_r_2⟩ := bwf3 (k_r)
    obtain ⟨p1, hp1⟩ : ∃ p : BW W1, p.w = W1 := ⟨BW.start W1, rfl⟩
    rw [← hp1]
    clear hp1
    go_upto_region 2 with (first
      | (go_at_call 20; (first | (with_reducible refine (bw_call KS.out _).mono ?_)); rintro e w' ⟨rfl, q, rfl⟩)
      | (go_at_call 32; (first | (with_reducible refine (bw_call KU.out _).mono ?_)); rintro e w' ⟨rfl, q, rfl⟩))
    obtain ⟨W2, hW2⟩ : ∃ W, W = q.w.alloc (.cells #[.int .i64 n1, .int .i64 n2, .int .i64 n3] 23) := ⟨_, rfl⟩
    have B2 : Below w.heap.size w W2 := by rw [hW2]; exact (bw_below B1 q).alloc (bw_below B1 q).size _
    have l_n : g_r < q.w.heap.size := (k_r.below q.h).lt
    have o_n : w.heap.size ≤ q.w.heap.size := (bw_below B1 q).size
    have k_c := bka hW2 (k_c.below q.h)
    have k_a := bka hW2 (k_a.below q.h)
    have k_r := bka hW2 (k_r.below q.h)
    have k_n := bkn hW2
    rw [← hW2]
    clear hW2
    clear B1
    clear c_c_0 c_c_1 c_c_2 c_a_0 c_a_1 c_a_2 c_r_0 c_r_1 c_r_2 f_r_0 f_r_1 f_r_2
    generalize q.w.heap.size = g_n at *
    obtain ⟨c_c_0, c_c_1, c_c_2⟩ := bwc3 (k_c)
    obtain ⟨c_a_0, c_a_1, c_a_2⟩ := bwc3 (k_a)
    obtain ⟨c_r_0, c_r_1, c_r_2⟩ := bwc3 (k_r)
    obtain ⟨f_r_0, f_r_1, f_r_2⟩ := bwf3 (k_r)
    obtain ⟨c_n_0, c_n_1, c_n_2⟩ := bwc3 (k_n)
    obtain ⟨p2, hp2⟩ : ∃ p : BW W2, p.w = W2 := ⟨BW.start W2, rfl⟩
    rw [← hp2]
    clear hp2
    go_wp2_with (first
      | (go_at_call 21; (first | (with_reducible refine (bw_call K1.out _).mono ?_) | (with_reducible refine (bw_call K2.out _).mono ?_)); rintro e w' ⟨rfl, q, rfl⟩))
    have kr := bkp3 (k_r.below q.h) (.int .i64 n1) (.int .i64 n2) (.int .i64 n3)
    obtain ⟨rc0, rc1, rc2⟩ := rwc3 kr
    exact bodyPost_ret (v := .agg #[.int .i64 n1, .int .i64 n2, .int .i64 n3]) (by simp [results, Try.results13, go_sem, rc0, rc1, rc2]) rfl ⟨rfl, blp3 (bw_below B2 q) (by omega)⟩

theorem ref12_Normal (c1 c2 c3 t1 t2 t3 : Int) (w : World) (hc : I3 (c1, c2, c3)) (ht : I3 (t1, t2, t3)) :
    Calls Try.prog 13 #[.agg #[.int .i64 c1, .int .i64 c2, .int .i64 c3], .agg #[.int .i64 t1, .int .i64 t2, .int .i64 t3]] w fun en w' => en = .returned (.agg #[.int .i64 (ballN (c1, c2, c3) (t1, t2, t3)).1, .int .i64 (ballN (c1, c2, c3) (t1, t2, t3)).2.1, .int .i64 (ballN (c1, c2, c3) (t1, t2, t3)).2.2]) ∧ Below w.heap.size w w' := by
  have h := ref12_Normal_any c1 c2 c3 t1 t2 t3 (vunit (vsub t1 c1) (vsub t2 c2) (vsub t3 c3)).1 (vunit (vsub t1 c1) (vsub t2 c2) (vsub t3 c3)).2.1 (vunit (vsub t1 c1) (vsub t2 c2) (vsub t3 c3)).2.2 w (vuOk (vsub t1 c1) (vsub t2 c2) (vsub t3 c3)) hc ht rfl rfl
  unfold ballN
  by_cases hp : plc (c1, c2, c3) = true ∧ plc (t1, t2, t3) = true
  · have es := sbT_vs hp.2 hp.1
    have e1 : vuOk (vsub t1 c1) (vsub t2 c2) (vsub t3 c3) = okT (sbT (t1, t2, t3) (c1, c2, c3)) := by rw [← es]; rfl
    have e2 : vunit (vsub t1 c1) (vsub t2 c2) (vsub t3 c3) = unT (sbT (t1, t2, t3) (c1, c2, c3)) := by rw [← es]; rfl
    rw [e1, e2] at h
    by_cases hk : okT (sbT (t1, t2, t3) (c1, c2, c3)) = true
    · rw [if_pos ⟨hp.1, hp.2, hk⟩]
      rw [if_pos ⟨hk, hp.1, hp.2⟩, if_pos ⟨hk, hp.1, hp.2⟩, if_pos ⟨hk, hp.1, hp.2⟩] at h
      exact h
    · rw [if_neg (fun e => hk e.2.2)]
      rw [if_neg (fun e => hk e.1), if_neg (fun e => hk e.1), if_neg (fun e => hk e.1)] at h
      exact h
  · rw [if_neg (fun e => hp ⟨e.1, e.2.1⟩)]
    rw [if_neg (fun e => hp e.2), if_neg (fun e => hp e.2), if_neg (fun e => hp e.2)] at h
    exact h

end Go.Proofs.Ytppejnfiphkmnaa
