/- The walk of the statement TriMet. -/
import Derived.Test.YtnidgokmndnenaaAwake11
import Derived.Test.YtnidgokmndnenaaRef06
import Derived.Test.YtnidgokmndnenaaFloatl
import Derived.Deep.DeepCutAuto
namespace Go.Proofs.Ytnidgokmndnenaa
open Go.RowKit Go.Proofs.Sky
set_option linter.unusedVariables false

theorem u8_of_wf11 {a : Int} (h : (Lit.int .u8 a).wf = true) : 0 ≤ a ∧ a ≤ 255 := by
  simp [Lit.wf, IntKind.min, IntKind.max, IntKind.signed, IntKind.bits] at h
  omega

set_option maxRecDepth 100000 in
set_option maxHeartbeats 8000000 in
theorem law11_small (x y z : Int) (w : World) :
    Calls Try.prog 21 #[.agg #[.int .i64 x, .int .i64 y, .int .i64 z], .int .i64 500] w fun en w' => en = .returned (.agg #[.int .i64 (x.tmod 500), .int .i64 (y.tmod 500), .int .i64 (z.tmod 500)]) ∧ Below w.heap.size w w' := by
  generalize hx : x.tmod 500 = xx
  generalize hy : y.tmod 500 = yy
  generalize hz : z.tmod 500 = zz
  go_enter Try.func21, Try.ntmps21
  go_upto_region 1 with (fail)
  obtain ⟨W1, hW1⟩ : ∃ W, W = (w.alloc (.cells #[.int .i64 x, .int .i64 y, .int .i64 z] 23)).alloc (.cells #[.int .i64 0, .int .i64 0, .int .i64 0] 23) := ⟨_, rfl⟩
  obtain ⟨k_v, k_r, B1⟩ := st2 hW1
  rw [← hW1]
  clear hW1
  have l_r : w.heap.size < w.heap.size + 1 := by omega
  generalize w.heap.size + 1 = g_r at *
  obtain ⟨c_v_0, c_v_1, c_v_2⟩ := bwc3 (k_v)
  obtain ⟨c_r_0, c_r_1, c_r_2⟩ := bwc3 (k_r)
  obtain ⟨f_r_0, f_r_1, f_r_2⟩ := bwf3 (k_r)
  obtain ⟨p1, hp1⟩ : ∃ p : BW W1, p.w = W1 := ⟨BW.start W1, rfl⟩
  rw [← hp1]
  clear hp1
  refine wp_region_bw_tail 13 (by kernel_rfl) (by kernel_rfl) (by kernel_rfl) ?_
  simp only [List.take_succ_cons, List.take_zero, List.drop_succ_cons, List.drop_zero]
  repeat (go_big_quiet_step (first
    | fail))
  refine wpQuiet_nil ?_
  intro _ hw'
  obtain ⟨q, rfl⟩ := hw'
  go_wp2
  have kr := bkp3 (k_r.below q.h) (.int .i64 xx) (.int .i64 yy) (.int .i64 zz)
  obtain ⟨rc0, rc1, rc2⟩ := rwc3 kr
  exact bodyPost_ret (v := .agg #[.int .i64 xx, .int .i64 yy, .int .i64 zz]) (by simp [results, Try.results21, go_sem, rc0, rc1, rc2]) rfl ⟨rfl, blp3 (bw_below B1 q) (by omega)⟩

set_option maxRecDepth 100000 in
set_option maxHeartbeats 8000000 in
theorem law_TriMet (a1 a2 a3 b1 b2 b3 c1 c2 c3 o1 o2 o3 xu yu zu : Int) (w : World) (hxu : 0 ≤ xu ∧ xu ≤ 255) (hyu : 0 ≤ yu ∧ yu ≤ 255) (hzu : 0 ≤ zu ∧ zu ≤ 255) :
    Calls Try.prog 5 #[.agg #[.int .i64 a1, .int .i64 a2, .int .i64 a3], .agg #[.int .i64 b1, .int .i64 b2, .int .i64 b3], .agg #[.int .i64 c1, .int .i64 c2, .int .i64 c3], .agg #[.int .i64 o1, .int .i64 o2, .int .i64 o3], .int .u8 xu, .int .u8 yu, .int .u8 zu] w fun en w' => en = .returned (.bool true) ∧ Below w.heap.size w w' := by
  have HA := Lib.hid (fun w => awake11 w)
  have tm : ∀ u : Int, -499 ≤ u.tmod 500 ∧ u.tmod 500 ≤ 499 := fun u => by
    have a := Int.tmod_lt_of_pos u (show (0 : Int) < 500 by omega)
    have b := Int.lt_tmod_of_pos u (show (0 : Int) < 500 by omega)
    omega
  have KSa := Lib.hid (fun w => law11_small a1 a2 a3 w)
  have iaa1 := tm a1
  generalize a1.tmod 500 = aa1 at *
  have iaa2 := tm a2
  generalize a2.tmod 500 = aa2 at *
  have iaa3 := tm a3
  generalize a3.tmod 500 = aa3 at *
  have KSb := Lib.hid (fun w => law11_small b1 b2 b3 w)
  have ibb1 := tm b1
  generalize b1.tmod 500 = bb1 at *
  have ibb2 := tm b2
  generalize b2.tmod 500 = bb2 at *
  have ibb3 := tm b3
  generalize b3.tmod 500 = bb3 at *
  have KSc := Lib.hid (fun w => law11_small c1 c2 c3 w)
  have icc1 := tm c1
  generalize c1.tmod 500 = cc1 at *
  have icc2 := tm c2
  generalize c2.tmod 500 = cc2 at *
  have icc3 := tm c3
  generalize c3.tmod 500 = cc3 at *
  have KSo := Lib.hid (fun w => law11_small o1 o2 o3 w)
  have ioo1 := tm o1
  generalize o1.tmod 500 = oo1 at *
  have ioo2 := tm o2
  generalize o2.tmod 500 = oo2 at *
  have ioo3 := tm o3
  generalize o3.tmod 500 = oo3 at *
  obtain ⟨xw, hxw⟩ : ∃ t, t = xu.tmod 9 := ⟨_, rfl⟩
  have ixw : 0 ≤ xw ∧ xw ≤ 8 := by rw [hxw, Int.tmod_eq_emod_of_nonneg (by omega)]; omega
  have jxw : xu.tmod 9 = xw := hxw.symm
  have kxw : wrap64 xu = xu := IntWalk.wrap64_in _ (by omega)
  clear hxw
  obtain ⟨yw, hyw⟩ : ∃ t, t = yu.tmod 9 := ⟨_, rfl⟩
  have iyw : 0 ≤ yw ∧ yw ≤ 8 := by rw [hyw, Int.tmod_eq_emod_of_nonneg (by omega)]; omega
  have jyw : yu.tmod 9 = yw := hyw.symm
  have kyw : wrap64 yu = yu := IntWalk.wrap64_in _ (by omega)
  clear hyw
  obtain ⟨zw, hzw⟩ : ∃ t, t = zu.tmod 9 := ⟨_, rfl⟩
  have izw : 0 ≤ zw ∧ zw ≤ 8 := by rw [hzw, Int.tmod_eq_emod_of_nonneg (by omega)]; omega
  have jzw : zu.tmod 9 = zw := hzw.symm
  have kzw : wrap64 zu = zu := IntWalk.wrap64_in _ (by omega)
  clear hzw
  obtain ⟨al, hal'⟩ : ∃ t, xw + yw + zw = t := ⟨_, rfl⟩
  have ial : 0 ≤ al ∧ al ≤ 24 := by omega
  have ipa : plc (aa1, aa2, aa3) = true := plc_iff.2 (by dsimp only; omega)
  have ipb : plc (bb1, bb2, bb3) = true := plc_iff.2 (by dsimp only; omega)
  have ipc : plc (cc1, cc2, cc3) = true := plc_iff.2 (by dsimp only; omega)
  have ipo : plc (oo1, oo2, oo3) = true := plc_iff.2 (by dsimp only; omega)
  have KF := Lib.hid (fun w => tri_Flat aa1 aa2 aa3 bb1 bb2 bb3 cc1 cc2 cc3 w (plc_I3 ipa) (plc_I3 ipb) (plc_I3 ipc))
  by_cases h0 : al = 0
  · subst h0
    clear tm ial ipa ipb ipc ipo KF
    go_enter Try.func5, Try.ntmps5
    go_upto_region 1 with (fail)
    obtain ⟨W1, hW1⟩ : ∃ W, W = (((w.alloc (.cells #[.int .i64 a1, .int .i64 a2, .int .i64 a3] 23)).alloc (.cells #[.int .i64 b1, .int .i64 b2, .int .i64 b3] 23)).alloc (.cells #[.int .i64 c1, .int .i64 c2, .int .i64 c3] 23)).alloc (.cells #[.int .i64 o1, .int .i64 o2, .int .i64 o3] 23) := ⟨_, rfl⟩
    obtain ⟨k_a, k_b, k_c, k_o, B1⟩ := st4 hW1
    rw [← hW1]
    clear hW1
    have l_b : w.heap.size < w.heap.size + 1 := by omega
    have l_c : w.heap.size + 1 < w.heap.size + 1 + 1 := by omega
    have l_o : w.heap.size + 1 + 1 < w.heap.size + 1 + 1 + 1 := by omega
    generalize w.heap.size + 1 + 1 + 1 = g_o at *
    generalize w.heap.size + 1 + 1 = g_c at *
    generalize w.heap.size + 1 = g_b at *
    obtain ⟨c_a_0, c_a_1, c_a_2⟩ := bwc3 (k_a)
    obtain ⟨f_a_0, f_a_1, f_a_2⟩ := bwf3 (k_a)
    obtain ⟨c_b_0, c_b_1, c_b_2⟩ := bwc3 (k_b)
    obtain ⟨c_c_0, c_c_1, c_c_2⟩ := bwc3 (k_c)
    obtain ⟨c_o_0, c_o_1, c_o_2⟩ := bwc3 (k_o)
    obtain ⟨p1, hp1⟩ : ∃ p : BW W1, p.w = W1 := ⟨BW.start W1, rfl⟩
    rw [← hp1]
    clear hp1
    go_upto_region 2 with (first
      | (go_at_call 21; (first | (with_reducible refine (bw_call KSa.out _).mono ?_) | (with_reducible refine (bw_call KSb.out _).mono ?_) | (with_reducible refine (bw_call KSc.out _).mono ?_) | (with_reducible refine (bw_call KSo.out _).mono ?_)); rintro e w' ⟨rfl, q, rfl⟩))
    obtain ⟨W2, hW2⟩ : ∃ W, W = ((q.w.setCell ⟨w.heap.size, 0, none⟩ (.int .i64 aa1)).setCell ⟨w.heap.size, 1, none⟩ (.int .i64 aa2)).setCell ⟨w.heap.size, 2, none⟩ (.int .i64 aa3) := ⟨_, rfl⟩
    have B2 : Below w.heap.size w W2 := by rw [hW2]; exact blp3 (bw_below B1 q) (by omega)
    have k_a := bkpe3 hW2 (k_a.below q.h)
    have k_b := bkoe3 hW2 (k_b.below q.h) (by omega)
    have k_c := bkoe3 hW2 (k_c.below q.h) (by omega)
    have k_o := bkoe3 hW2 (k_o.below q.h) (by omega)
    rw [← hW2]
    clear hW2
    clear B1
    clear c_a_0 c_a_1 c_a_2 f_a_0 f_a_1 f_a_2 c_b_0 c_b_1 c_b_2 c_c_0 c_c_1 c_c_2 c_o_0 c_o_1 c_o_2
    obtain ⟨c_a_0, c_a_1, c_a_2⟩ := bwc3 (k_a)
    obtain ⟨c_b_0, c_b_1, c_b_2⟩ := bwc3 (k_b)
    obtain ⟨f_b_0, f_b_1, f_b_2⟩ := bwf3 (k_b)
    obtain ⟨c_c_0, c_c_1, c_c_2⟩ := bwc3 (k_c)
    obtain ⟨c_o_0, c_o_1, c_o_2⟩ := bwc3 (k_o)
    obtain ⟨p2, hp2⟩ : ∃ p : BW W2, p.w = W2 := ⟨BW.start W2, rfl⟩
    rw [← hp2]
    clear hp2
    go_upto_region 3 with (first
      | (go_at_call 21; (first | (with_reducible refine (bw_call KSa.out _).mono ?_) | (with_reducible refine (bw_call KSb.out _).mono ?_) | (with_reducible refine (bw_call KSc.out _).mono ?_) | (with_reducible refine (bw_call KSo.out _).mono ?_)); rintro e w' ⟨rfl, q, rfl⟩))
    obtain ⟨W3, hW3⟩ : ∃ W, W = ((q.w.setCell ⟨g_b, 0, none⟩ (.int .i64 bb1)).setCell ⟨g_b, 1, none⟩ (.int .i64 bb2)).setCell ⟨g_b, 2, none⟩ (.int .i64 bb3) := ⟨_, rfl⟩
    have B3 : Below w.heap.size w W3 := by rw [hW3]; exact blp3 (bw_below B2 q) (by omega)
    have k_a := bkoe3 hW3 (k_a.below q.h) (by omega)
    have k_b := bkpe3 hW3 (k_b.below q.h)
    have k_c := bkoe3 hW3 (k_c.below q.h) (by omega)
    have k_o := bkoe3 hW3 (k_o.below q.h) (by omega)
    rw [← hW3]
    clear hW3
    clear B2
    clear c_a_0 c_a_1 c_a_2 c_b_0 c_b_1 c_b_2 f_b_0 f_b_1 f_b_2 c_c_0 c_c_1 c_c_2 c_o_0 c_o_1 c_o_2
    obtain ⟨c_a_0, c_a_1, c_a_2⟩ := bwc3 (k_a)
    obtain ⟨c_b_0, c_b_1, c_b_2⟩ := bwc3 (k_b)
    obtain ⟨c_c_0, c_c_1, c_c_2⟩ := bwc3 (k_c)
    obtain ⟨f_c_0, f_c_1, f_c_2⟩ := bwf3 (k_c)
    obtain ⟨c_o_0, c_o_1, c_o_2⟩ := bwc3 (k_o)
    obtain ⟨p3, hp3⟩ : ∃ p : BW W3, p.w = W3 := ⟨BW.start W3, rfl⟩
    rw [← hp3]
    clear hp3
    go_upto_region 4 with (first
      | (go_at_call 21; (first | (with_reducible refine (bw_call KSa.out _).mono ?_) | (with_reducible refine (bw_call KSb.out _).mono ?_) | (with_reducible refine (bw_call KSc.out _).mono ?_) | (with_reducible refine (bw_call KSo.out _).mono ?_)); rintro e w' ⟨rfl, q, rfl⟩))
    obtain ⟨W4, hW4⟩ : ∃ W, W = ((q.w.setCell ⟨g_c, 0, none⟩ (.int .i64 cc1)).setCell ⟨g_c, 1, none⟩ (.int .i64 cc2)).setCell ⟨g_c, 2, none⟩ (.int .i64 cc3) := ⟨_, rfl⟩
    have B4 : Below w.heap.size w W4 := by rw [hW4]; exact blp3 (bw_below B3 q) (by omega)
    have k_a := bkoe3 hW4 (k_a.below q.h) (by omega)
    have k_b := bkoe3 hW4 (k_b.below q.h) (by omega)
    have k_c := bkpe3 hW4 (k_c.below q.h)
    have k_o := bkoe3 hW4 (k_o.below q.h) (by omega)
    rw [← hW4]
    clear hW4
    clear B3
    clear c_a_0 c_a_1 c_a_2 c_b_0 c_b_1 c_b_2 c_c_0 c_c_1 c_c_2 f_c_0 f_c_1 f_c_2 c_o_0 c_o_1 c_o_2
    obtain ⟨c_a_0, c_a_1, c_a_2⟩ := bwc3 (k_a)
    obtain ⟨c_b_0, c_b_1, c_b_2⟩ := bwc3 (k_b)
    obtain ⟨c_c_0, c_c_1, c_c_2⟩ := bwc3 (k_c)
    obtain ⟨c_o_0, c_o_1, c_o_2⟩ := bwc3 (k_o)
    obtain ⟨f_o_0, f_o_1, f_o_2⟩ := bwf3 (k_o)
    obtain ⟨p4, hp4⟩ : ∃ p : BW W4, p.w = W4 := ⟨BW.start W4, rfl⟩
    rw [← hp4]
    clear hp4
    go_upto_region 5 with (first
      | (go_at_call 21; (first | (with_reducible refine (bw_call KSa.out _).mono ?_) | (with_reducible refine (bw_call KSb.out _).mono ?_) | (with_reducible refine (bw_call KSc.out _).mono ?_) | (with_reducible refine (bw_call KSo.out _).mono ?_)); rintro e w' ⟨rfl, q, rfl⟩))
    obtain ⟨W5, hW5⟩ : ∃ W, W = ((q.w.setCell ⟨g_o, 0, none⟩ (.int .i64 oo1)).setCell ⟨g_o, 1, none⟩ (.int .i64 oo2)).setCell ⟨g_o, 2, none⟩ (.int .i64 oo3) := ⟨_, rfl⟩
    have B5 : Below w.heap.size w W5 := by rw [hW5]; exact blp3 (bw_below B4 q) (by omega)
    have k_a := bkoe3 hW5 (k_a.below q.h) (by omega)
    have k_b := bkoe3 hW5 (k_b.below q.h) (by omega)
    have k_c := bkoe3 hW5 (k_c.below q.h) (by omega)
    have k_o := bkpe3 hW5 (k_o.below q.h)
    rw [← hW5]
    clear hW5
    clear B4
    clear c_a_0 c_a_1 c_a_2 c_b_0 c_b_1 c_b_2 c_c_0 c_c_1 c_c_2 c_o_0 c_o_1 c_o_2 f_o_0 f_o_1 f_o_2
    obtain ⟨c_a_0, c_a_1, c_a_2⟩ := bwc3 (k_a)
    obtain ⟨c_b_0, c_b_1, c_b_2⟩ := bwc3 (k_b)
    obtain ⟨c_c_0, c_c_1, c_c_2⟩ := bwc3 (k_c)
    obtain ⟨c_o_0, c_o_1, c_o_2⟩ := bwc3 (k_o)
    obtain ⟨p5, hp5⟩ : ∃ p : BW W5, p.w = W5 := ⟨BW.start W5, rfl⟩
    rw [← hp5]
    clear hp5
    go_wp2_with (first
      | (go_at_call 18; (first | (with_reducible refine (bw_call HA.out _).mono ?_)); rintro e w' ⟨rfl, q, rfl⟩))
    go_ret
    exact ⟨rfl, bw_below B5 _⟩
  · cases hfl : tFlat (aa1, aa2, aa3) (bb1, bb2, bb3) (cc1, cc2, cc3) with
    | true =>
      rw [hfl] at KF
      clear tm ial ipa ipb ipc ipo hfl
      go_enter Try.func5, Try.ntmps5
      go_upto_region 1 with (fail)
      obtain ⟨W1, hW1⟩ : ∃ W, W = (((w.alloc (.cells #[.int .i64 a1, .int .i64 a2, .int .i64 a3] 23)).alloc (.cells #[.int .i64 b1, .int .i64 b2, .int .i64 b3] 23)).alloc (.cells #[.int .i64 c1, .int .i64 c2, .int .i64 c3] 23)).alloc (.cells #[.int .i64 o1, .int .i64 o2, .int .i64 o3] 23) := ⟨_, rfl⟩
      obtain ⟨k_a, k_b, k_c, k_o, B1⟩ := st4 hW1
      rw [← hW1]
      clear hW1
      have l_b : w.heap.size < w.heap.size + 1 := by omega
      have l_c : w.heap.size + 1 < w.heap.size + 1 + 1 := by omega
      have l_o : w.heap.size + 1 + 1 < w.heap.size + 1 + 1 + 1 := by omega
      generalize w.heap.size + 1 + 1 + 1 = g_o at *
      generalize w.heap.size + 1 + 1 = g_c at *
      generalize w.heap.size + 1 = g_b at *
      obtain ⟨c_a_0, c_a_1, c_a_2⟩ := bwc3 (k_a)
      obtain ⟨f_a_0, f_a_1, f_a_2⟩ := bwf3 (k_a)
      obtain ⟨c_b_0, c_b_1, c_b_2⟩ := bwc3 (k_b)
      obtain ⟨c_c_0, c_c_1, c_c_2⟩ := bwc3 (k_c)
      obtain ⟨c_o_0, c_o_1, c_o_2⟩ := bwc3 (k_o)
      obtain ⟨p1, hp1⟩ : ∃ p : BW W1, p.w = W1 := ⟨BW.start W1, rfl⟩
      rw [← hp1]
      clear hp1
      go_upto_region 2 with (first
        | (go_at_call 21; (first | (with_reducible refine (bw_call KSa.out _).mono ?_) | (with_reducible refine (bw_call KSb.out _).mono ?_) | (with_reducible refine (bw_call KSc.out _).mono ?_) | (with_reducible refine (bw_call KSo.out _).mono ?_)); rintro e w' ⟨rfl, q, rfl⟩))
      obtain ⟨W2, hW2⟩ : ∃ W, W = ((q.w.setCell ⟨w.heap.size, 0, none⟩ (.int .i64 aa1)).setCell ⟨w.heap.size, 1, none⟩ (.int .i64 aa2)).setCell ⟨w.heap.size, 2, none⟩ (.int .i64 aa3) := ⟨_, rfl⟩
      have B2 : Below w.heap.size w W2 := by rw [hW2]; exact blp3 (bw_below B1 q) (by omega)
      have k_a := bkpe3 hW2 (k_a.below q.h)
      have k_b := bkoe3 hW2 (k_b.below q.h) (by omega)
      have k_c := bkoe3 hW2 (k_c.below q.h) (by omega)
      have k_o := bkoe3 hW2 (k_o.below q.h) (by omega)
      rw [← hW2]
      clear hW2
      clear B1
      clear c_a_0 c_a_1 c_a_2 f_a_0 f_a_1 f_a_2 c_b_0 c_b_1 c_b_2 c_c_0 c_c_1 c_c_2 c_o_0 c_o_1 c_o_2
      obtain ⟨c_a_0, c_a_1, c_a_2⟩ := bwc3 (k_a)
      obtain ⟨c_b_0, c_b_1, c_b_2⟩ := bwc3 (k_b)
      obtain ⟨f_b_0, f_b_1, f_b_2⟩ := bwf3 (k_b)
      obtain ⟨c_c_0, c_c_1, c_c_2⟩ := bwc3 (k_c)
      obtain ⟨c_o_0, c_o_1, c_o_2⟩ := bwc3 (k_o)
      obtain ⟨p2, hp2⟩ : ∃ p : BW W2, p.w = W2 := ⟨BW.start W2, rfl⟩
      rw [← hp2]
      clear hp2
      go_upto_region 3 with (first
        | (go_at_call 21; (first | (with_reducible refine (bw_call KSa.out _).mono ?_) | (with_reducible refine (bw_call KSb.out _).mono ?_) | (with_reducible refine (bw_call KSc.out _).mono ?_) | (with_reducible refine (bw_call KSo.out _).mono ?_)); rintro e w' ⟨rfl, q, rfl⟩))
      obtain ⟨W3, hW3⟩ : ∃ W, W = ((q.w.setCell ⟨g_b, 0, none⟩ (.int .i64 bb1)).setCell ⟨g_b, 1, none⟩ (.int .i64 bb2)).setCell ⟨g_b, 2, none⟩ (.int .i64 bb3) := ⟨_, rfl⟩
      have B3 : Below w.heap.size w W3 := by rw [hW3]; exact blp3 (bw_below B2 q) (by omega)
      have k_a := bkoe3 hW3 (k_a.below q.h) (by omega)
      have k_b := bkpe3 hW3 (k_b.below q.h)
      have k_c := bkoe3 hW3 (k_c.below q.h) (by omega)
      have k_o := bkoe3 hW3 (k_o.below q.h) (by omega)
      rw [← hW3]
      clear hW3
      clear B2
      clear c_a_0 c_a_1 c_a_2 c_b_0 c_b_1 c_b_2 f_b_0 f_b_1 f_b_2 c_c_0 c_c_1 c_c_2 c_o_0 c_o_1 c_o_2
      obtain ⟨c_a_0, c_a_1, c_a_2⟩ := bwc3 (k_a)
      obtain ⟨c_b_0, c_b_1, c_b_2⟩ := bwc3 (k_b)
      obtain ⟨c_c_0, c_c_1, c_c_2⟩ := bwc3 (k_c)
      obtain ⟨f_c_0, f_c_1, f_c_2⟩ := bwf3 (k_c)
      obtain ⟨c_o_0, c_o_1, c_o_2⟩ := bwc3 (k_o)
      obtain ⟨p3, hp3⟩ : ∃ p : BW W3, p.w = W3 := ⟨BW.start W3, rfl⟩
      rw [← hp3]
      clear hp3
      go_upto_region 4 with (first
        | (go_at_call 21; (first | (with_reducible refine (bw_call KSa.out _).mono ?_) | (with_reducible refine (bw_call KSb.out _).mono ?_) | (with_reducible refine (bw_call KSc.out _).mono ?_) | (with_reducible refine (bw_call KSo.out _).mono ?_)); rintro e w' ⟨rfl, q, rfl⟩))
      obtain ⟨W4, hW4⟩ : ∃ W, W = ((q.w.setCell ⟨g_c, 0, none⟩ (.int .i64 cc1)).setCell ⟨g_c, 1, none⟩ (.int .i64 cc2)).setCell ⟨g_c, 2, none⟩ (.int .i64 cc3) := ⟨_, rfl⟩
      have B4 : Below w.heap.size w W4 := by rw [hW4]; exact blp3 (bw_below B3 q) (by omega)
      have k_a := bkoe3 hW4 (k_a.below q.h) (by omega)
      have k_b := bkoe3 hW4 (k_b.below q.h) (by omega)
      have k_c := bkpe3 hW4 (k_c.below q.h)
      have k_o := bkoe3 hW4 (k_o.below q.h) (by omega)
      rw [← hW4]
      clear hW4
      clear B3
      clear c_a_0 c_a_1 c_a_2 c_b_0 c_b_1 c_b_2 c_c_0 c_c_1 c_c_2 f_c_0 f_c_1 f_c_2 c_o_0 c_o_1 c_o_2
      obtain ⟨c_a_0, c_a_1, c_a_2⟩ := bwc3 (k_a)
      obtain ⟨c_b_0, c_b_1, c_b_2⟩ := bwc3 (k_b)
      obtain ⟨c_c_0, c_c_1, c_c_2⟩ := bwc3 (k_c)
      obtain ⟨c_o_0, c_o_1, c_o_2⟩ := bwc3 (k_o)
      obtain ⟨f_o_0, f_o_1, f_o_2⟩ := bwf3 (k_o)
      obtain ⟨p4, hp4⟩ : ∃ p : BW W4, p.w = W4 := ⟨BW.start W4, rfl⟩
      rw [← hp4]
      clear hp4
      go_upto_region 5 with (first
        | (go_at_call 21; (first | (with_reducible refine (bw_call KSa.out _).mono ?_) | (with_reducible refine (bw_call KSb.out _).mono ?_) | (with_reducible refine (bw_call KSc.out _).mono ?_) | (with_reducible refine (bw_call KSo.out _).mono ?_)); rintro e w' ⟨rfl, q, rfl⟩))
      obtain ⟨W5, hW5⟩ : ∃ W, W = ((q.w.setCell ⟨g_o, 0, none⟩ (.int .i64 oo1)).setCell ⟨g_o, 1, none⟩ (.int .i64 oo2)).setCell ⟨g_o, 2, none⟩ (.int .i64 oo3) := ⟨_, rfl⟩
      have B5 : Below w.heap.size w W5 := by rw [hW5]; exact blp3 (bw_below B4 q) (by omega)
      have k_a := bkoe3 hW5 (k_a.below q.h) (by omega)
      have k_b := bkoe3 hW5 (k_b.below q.h) (by omega)
      have k_c := bkoe3 hW5 (k_c.below q.h) (by omega)
      have k_o := bkpe3 hW5 (k_o.below q.h)
      rw [← hW5]
      clear hW5
      clear B4
      clear c_a_0 c_a_1 c_a_2 c_b_0 c_b_1 c_b_2 c_c_0 c_c_1 c_c_2 c_o_0 c_o_1 c_o_2 f_o_0 f_o_1 f_o_2
      obtain ⟨c_a_0, c_a_1, c_a_2⟩ := bwc3 (k_a)
      obtain ⟨c_b_0, c_b_1, c_b_2⟩ := bwc3 (k_b)
      obtain ⟨c_c_0, c_c_1, c_c_2⟩ := bwc3 (k_c)
      obtain ⟨c_o_0, c_o_1, c_o_2⟩ := bwc3 (k_o)
      obtain ⟨p5, hp5⟩ : ∃ p : BW W5, p.w = W5 := ⟨BW.start W5, rfl⟩
      rw [← hp5]
      clear hp5
      go_wp2_with (first
        | (go_at_call 12; (first | (with_reducible refine (bw_call KF.out _).mono ?_)); rintro e w' ⟨rfl, q, rfl⟩)
        | (go_at_call 18; (first | (with_reducible refine (bw_call HA.out _).mono ?_)); rintro e w' ⟨rfl, q, rfl⟩))
      go_ret
      exact ⟨rfl, bw_below B5 _⟩
    | false =>
      rw [hfl] at KF
      obtain ⟨px1, hpx1⟩ : ∃ t, xw * aa1 = t := ⟨_, rfl⟩
      have ipx1 := mul_in (x := xw) (a := aa1) (N := 24) (M := 499) (by omega) (by omega)
      rw [hpx1] at ipx1
      have wpx1 : wrap64 (xw * aa1) = px1 := by rw [hpx1]; exact IntWalk.wrap64_in _ (by omega)
      have vpx1 : IntKind.i64.wrap (xw * aa1) = px1 := by rw [hpx1, i64w]; omega
      obtain ⟨py1, hpy1⟩ : ∃ t, yw * bb1 = t := ⟨_, rfl⟩
      have ipy1 := mul_in (x := yw) (a := bb1) (N := 24) (M := 499) (by omega) (by omega)
      rw [hpy1] at ipy1
      have wpy1 : wrap64 (yw * bb1) = py1 := by rw [hpy1]; exact IntWalk.wrap64_in _ (by omega)
      have vpy1 : IntKind.i64.wrap (yw * bb1) = py1 := by rw [hpy1, i64w]; omega
      obtain ⟨pz1, hpz1⟩ : ∃ t, zw * cc1 = t := ⟨_, rfl⟩
      have ipz1 := mul_in (x := zw) (a := cc1) (N := 24) (M := 499) (by omega) (by omega)
      rw [hpz1] at ipz1
      have wpz1 : wrap64 (zw * cc1) = pz1 := by rw [hpz1]; exact IntWalk.wrap64_in _ (by omega)
      have vpz1 : IntKind.i64.wrap (zw * cc1) = pz1 := by rw [hpz1, i64w]; omega
      obtain ⟨pa1, hpa1⟩ : ∃ t, al * oo1 = t := ⟨_, rfl⟩
      have ipa1 := mul_in (x := al) (a := oo1) (N := 24) (M := 499) (by omega) (by omega)
      rw [hpa1] at ipa1
      have wpa1 : wrap64 (al * oo1) = pa1 := by rw [hpa1]; exact IntWalk.wrap64_in _ (by omega)
      have vpa1 : IntKind.i64.wrap (al * oo1) = pa1 := by rw [hpa1, i64w]; omega
      obtain ⟨px2, hpx2⟩ : ∃ t, xw * aa2 = t := ⟨_, rfl⟩
      have ipx2 := mul_in (x := xw) (a := aa2) (N := 24) (M := 499) (by omega) (by omega)
      rw [hpx2] at ipx2
      have wpx2 : wrap64 (xw * aa2) = px2 := by rw [hpx2]; exact IntWalk.wrap64_in _ (by omega)
      have vpx2 : IntKind.i64.wrap (xw * aa2) = px2 := by rw [hpx2, i64w]; omega
      obtain ⟨py2, hpy2⟩ : ∃ t, yw * bb2 = t := ⟨_, rfl⟩
      have ipy2 := mul_in (x := yw) (a := bb2) (N := 24) (M := 499) (by omega) (by omega)
      rw [hpy2] at ipy2
      have wpy2 : wrap64 (yw * bb2) = py2 := by rw [hpy2]; exact IntWalk.wrap64_in _ (by omega)
      have vpy2 : IntKind.i64.wrap (yw * bb2) = py2 := by rw [hpy2, i64w]; omega
      obtain ⟨pz2, hpz2⟩ : ∃ t, zw * cc2 = t := ⟨_, rfl⟩
      have ipz2 := mul_in (x := zw) (a := cc2) (N := 24) (M := 499) (by omega) (by omega)
      rw [hpz2] at ipz2
      have wpz2 : wrap64 (zw * cc2) = pz2 := by rw [hpz2]; exact IntWalk.wrap64_in _ (by omega)
      have vpz2 : IntKind.i64.wrap (zw * cc2) = pz2 := by rw [hpz2, i64w]; omega
      obtain ⟨pa2, hpa2⟩ : ∃ t, al * oo2 = t := ⟨_, rfl⟩
      have ipa2 := mul_in (x := al) (a := oo2) (N := 24) (M := 499) (by omega) (by omega)
      rw [hpa2] at ipa2
      have wpa2 : wrap64 (al * oo2) = pa2 := by rw [hpa2]; exact IntWalk.wrap64_in _ (by omega)
      have vpa2 : IntKind.i64.wrap (al * oo2) = pa2 := by rw [hpa2, i64w]; omega
      obtain ⟨px3, hpx3⟩ : ∃ t, xw * aa3 = t := ⟨_, rfl⟩
      have ipx3 := mul_in (x := xw) (a := aa3) (N := 24) (M := 499) (by omega) (by omega)
      rw [hpx3] at ipx3
      have wpx3 : wrap64 (xw * aa3) = px3 := by rw [hpx3]; exact IntWalk.wrap64_in _ (by omega)
      have vpx3 : IntKind.i64.wrap (xw * aa3) = px3 := by rw [hpx3, i64w]; omega
      obtain ⟨py3, hpy3⟩ : ∃ t, yw * bb3 = t := ⟨_, rfl⟩
      have ipy3 := mul_in (x := yw) (a := bb3) (N := 24) (M := 499) (by omega) (by omega)
      rw [hpy3] at ipy3
      have wpy3 : wrap64 (yw * bb3) = py3 := by rw [hpy3]; exact IntWalk.wrap64_in _ (by omega)
      have vpy3 : IntKind.i64.wrap (yw * bb3) = py3 := by rw [hpy3, i64w]; omega
      obtain ⟨pz3, hpz3⟩ : ∃ t, zw * cc3 = t := ⟨_, rfl⟩
      have ipz3 := mul_in (x := zw) (a := cc3) (N := 24) (M := 499) (by omega) (by omega)
      rw [hpz3] at ipz3
      have wpz3 : wrap64 (zw * cc3) = pz3 := by rw [hpz3]; exact IntWalk.wrap64_in _ (by omega)
      have vpz3 : IntKind.i64.wrap (zw * cc3) = pz3 := by rw [hpz3, i64w]; omega
      obtain ⟨pa3, hpa3⟩ : ∃ t, al * oo3 = t := ⟨_, rfl⟩
      have ipa3 := mul_in (x := al) (a := oo3) (N := 24) (M := 499) (by omega) (by omega)
      rw [hpa3] at ipa3
      have wpa3 : wrap64 (al * oo3) = pa3 := by rw [hpa3]; exact IntWalk.wrap64_in _ (by omega)
      have vpa3 : IntKind.i64.wrap (al * oo3) = pa3 := by rw [hpa3, i64w]; omega
      obtain ⟨dd1, hdd1⟩ : ∃ t, px1 + py1 + pz1 - pa1 = t := ⟨_, rfl⟩
      have idd1 : -100000 ≤ dd1 ∧ dd1 ≤ 100000 := by omega
      obtain ⟨dd2, hdd2⟩ : ∃ t, px2 + py2 + pz2 - pa2 = t := ⟨_, rfl⟩
      have idd2 : -100000 ≤ dd2 ∧ dd2 ≤ 100000 := by omega
      obtain ⟨dd3, hdd3⟩ : ∃ t, px3 + py3 + pz3 - pa3 = t := ⟨_, rfl⟩
      have idd3 : -100000 ≤ dd3 ∧ dd3 ≤ 100000 := by omega
      obtain ⟨e1, he1⟩ : ∃ t, t = bb1 - aa1 := ⟨_, rfl⟩
      obtain ⟨e2, he2⟩ : ∃ t, t = bb2 - aa2 := ⟨_, rfl⟩
      obtain ⟨e3, he3⟩ : ∃ t, t = bb3 - aa3 := ⟨_, rfl⟩
      obtain ⟨f1, hf1⟩ : ∃ t, t = cc1 - aa1 := ⟨_, rfl⟩
      obtain ⟨f2, hf2⟩ : ∃ t, t = cc2 - aa2 := ⟨_, rfl⟩
      obtain ⟨f3, hf3⟩ : ∃ t, t = cc3 - aa3 := ⟨_, rfl⟩
      obtain ⟨s1, hs1⟩ : ∃ t, t = oo1 - aa1 := ⟨_, rfl⟩
      obtain ⟨s2, hs2⟩ : ∃ t, t = oo2 - aa2 := ⟨_, rfl⟩
      obtain ⟨s3, hs3⟩ : ∃ t, t = oo3 - aa3 := ⟨_, rfl⟩
      have sx : ∀ x y : Int, -1000 ≤ x ∧ x ≤ 1000 → -1000 ≤ y ∧ y ≤ 1000 → vsub x y = x - y := fun x y hx hy => by
        unfold vsub sat
        rw [if_neg (by omega), if_neg (by omega), if_neg (by omega), if_neg (by omega)]
        omega
      have KB1 := Lib.hid (fun w => ref6_Sub bb1 bb2 bb3 aa1 aa2 aa3 w (by unfold I64; omega) (by unfold I64; omega) (by unfold I64; omega) (by unfold I64; omega) (by unfold I64; omega) (by unfold I64; omega))
      rw [sx _ _ (by omega) (by omega), sx _ _ (by omega) (by omega), sx _ _ (by omega) (by omega)] at KB1
      rw [← he1, ← he2, ← he3] at KB1
      have KB2 := Lib.hid (fun w => ref6_Sub cc1 cc2 cc3 aa1 aa2 aa3 w (by unfold I64; omega) (by unfold I64; omega) (by unfold I64; omega) (by unfold I64; omega) (by unfold I64; omega) (by unfold I64; omega))
      rw [sx _ _ (by omega) (by omega), sx _ _ (by omega) (by omega), sx _ _ (by omega) (by omega)] at KB2
      rw [← hf1, ← hf2, ← hf3] at KB2
      have KB3 := Lib.hid (fun w => ref6_Sub oo1 oo2 oo3 aa1 aa2 aa3 w (by unfold I64; omega) (by unfold I64; omega) (by unfold I64; omega) (by unfold I64; omega) (by unfold I64; omega) (by unfold I64; omega))
      rw [sx _ _ (by omega) (by omega), sx _ _ (by omega) (by omega), sx _ _ (by omega) (by omega)] at KB3
      rw [← hs1, ← hs2, ← hs3] at KB3
      have hw : wayT xw yw zw (aa1, aa2, aa3) (bb1, bb2, bb3) (cc1, cc2, cc3) (oo1, oo2, oo3) = (dd1, dd2, dd3) := by
        unfold wayT
        dsimp only
        rw [hal', hpx1, hpx2, hpx3, hpy1, hpy2, hpy3, hpz1, hpz2, hpz3, hpa1, hpa2, hpa3, hdd1, hdd2, hdd3]
      have hnr : nrT (dd1, dd2, dd3) = true := by unfold nrT; rw [vnear_iff]; dsimp only; omega
      have E := tri_met (u := xw) (v := yw) (w := zw) (a := (aa1, aa2, aa3)) (b := (bb1, bb2, bb3)) (c := (cc1, cc2, cc3)) (o := (oo1, oo2, oo3)) (by omega) (by omega) (by omega) (by omega) (pl3_iff.2 ⟨ipa, ipb, ipc⟩) ipo (by rw [hw]; exact hnr)
      rw [hw, hal'] at E
      have qe : sbT (bb1, bb2, bb3) (aa1, aa2, aa3) = (e1, e2, e3) := by unfold sbT; rw [he1, he2, he3]
      have qf : sbT (cc1, cc2, cc3) (aa1, aa2, aa3) = (f1, f2, f3) := by unfold sbT; rw [hf1, hf2, hf3]
      have qs : sbT (oo1, oo2, oo3) (aa1, aa2, aa3) = (s1, s2, s3) := by unfold sbT; rw [hs1, hs2, hs3]
      rw [qe, qf, qs] at E
      have ivl := vlX_small (u := (e1, e2, e3)) (v := (f1, f2, f3)) (w := (s1, s2, s3)) (by dsimp only; omega) (by dsimp only; omega) (by dsimp only; omega)
      have KV := Lib.hid (fun w => ref6_Volume e1 e2 e3 f1 f2 f3 s1 s2 s3 w)
      have hvv : vvol e1 e2 e3 f1 f2 f3 s1 s2 s3 = vlX (e1, e2, e3) (f1, f2, f3) (s1, s2, s3) := by
        unfold vvol
        rw [if_pos ⟨by rw [vnear_iff]; omega, by rw [vnear_iff]; omega, by rw [vnear_iff]; omega⟩]
        rfl
      rw [hvv] at KV
      have KH := Lib.hid (fun w => tri_Hit aa1 aa2 aa3 bb1 bb2 bb3 cc1 cc2 cc3 oo1 oo2 oo3 dd1 dd2 dd3 0 w (plc_I3 ipa) (plc_I3 ipb) (plc_I3 ipc) (plc_I3 ipo) (nrT_I3 hnr))
      generalize tHit (aa1, aa2, aa3) (bb1, bb2, bb3) (cc1, cc2, cc3) (oo1, oo2, oo3) (dd1, dd2, dd3) = H at *
      generalize vlX (e1, e2, e3) (f1, f2, f3) (s1, s2, s3) = vv at *
      obtain ⟨⟨hn, hd⟩, ok⟩ := H
      dsimp only at KH E
      have E' : (vv = 0 ∧ ok = false) ∨ (¬ vv = 0 ∧ ok = true ∧ (wrap64 (hn * al) = hd ∧ IntKind.i64.wrap (hn * al) = hd) ∧ decide (0 < hd) = true) := by
        rcases E with ⟨k1, k2⟩ | ⟨k1, k2, k3, k4, k5⟩
        · exact .inl ⟨k1, k2⟩
        · have hb := mul_in (x := hn) (a := al) (N := 6000000000) (M := 24) (by omega) (by omega)
          rw [k3] at hb
          exact .inr ⟨k1, k2, ⟨by rw [k3]; exact IntWalk.wrap64_in _ (by omega), by rw [k3, i64w]; omega⟩, decide_eq_true k4⟩
      have HE := Lib.hid E'
      clear E E' hw hnr qe qf qs ivl hvv sx tm ipa ipb ipc ipo hfl hpx1 hpy1 hpz1 hpa1 hpx2 hpy2 hpz2 hpa2 hpx3 hpy3 hpz3 hpa3 he1 he2 he3 hf1 hf2 hf3 hs1 hs2 hs3
      go_enter Try.func5, Try.ntmps5
      go_upto_region 1 with (fail)
      obtain ⟨W1, hW1⟩ : ∃ W, W = (((w.alloc (.cells #[.int .i64 a1, .int .i64 a2, .int .i64 a3] 23)).alloc (.cells #[.int .i64 b1, .int .i64 b2, .int .i64 b3] 23)).alloc (.cells #[.int .i64 c1, .int .i64 c2, .int .i64 c3] 23)).alloc (.cells #[.int .i64 o1, .int .i64 o2, .int .i64 o3] 23) := ⟨_, rfl⟩
      obtain ⟨k_a, k_b, k_c, k_o, B1⟩ := st4 hW1
      rw [← hW1]
      clear hW1
      have l_b : w.heap.size < w.heap.size + 1 := by omega
      have l_c : w.heap.size + 1 < w.heap.size + 1 + 1 := by omega
      have l_o : w.heap.size + 1 + 1 < w.heap.size + 1 + 1 + 1 := by omega
      generalize w.heap.size + 1 + 1 + 1 = g_o at *
      generalize w.heap.size + 1 + 1 = g_c at *
      generalize w.heap.size + 1 = g_b at *
      obtain ⟨c_a_0, c_a_1, c_a_2⟩ := bwc3 (k_a)
      obtain ⟨f_a_0, f_a_1, f_a_2⟩ := bwf3 (k_a)
      obtain ⟨c_b_0, c_b_1, c_b_2⟩ := bwc3 (k_b)
      obtain ⟨c_c_0, c_c_1, c_c_2⟩ := bwc3 (k_c)
      obtain ⟨c_o_0, c_o_1, c_o_2⟩ := bwc3 (k_o)
      obtain ⟨p1, hp1⟩ : ∃ p : BW W1, p.w = W1 := ⟨BW.start W1, rfl⟩
      rw [← hp1]
      clear hp1
      go_upto_region 2 with (first
        | (go_at_call 21; (first | (with_reducible refine (bw_call KSa.out _).mono ?_) | (with_reducible refine (bw_call KSb.out _).mono ?_) | (with_reducible refine (bw_call KSc.out _).mono ?_) | (with_reducible refine (bw_call KSo.out _).mono ?_)); rintro e w' ⟨rfl, q, rfl⟩))
      obtain ⟨W2, hW2⟩ : ∃ W, W = ((q.w.setCell ⟨w.heap.size, 0, none⟩ (.int .i64 aa1)).setCell ⟨w.heap.size, 1, none⟩ (.int .i64 aa2)).setCell ⟨w.heap.size, 2, none⟩ (.int .i64 aa3) := ⟨_, rfl⟩
      have B2 : Below w.heap.size w W2 := by rw [hW2]; exact blp3 (bw_below B1 q) (by omega)
      have k_a := bkpe3 hW2 (k_a.below q.h)
      have k_b := bkoe3 hW2 (k_b.below q.h) (by omega)
      have k_c := bkoe3 hW2 (k_c.below q.h) (by omega)
      have k_o := bkoe3 hW2 (k_o.below q.h) (by omega)
      rw [← hW2]
      clear hW2
      clear B1
      clear c_a_0 c_a_1 c_a_2 f_a_0 f_a_1 f_a_2 c_b_0 c_b_1 c_b_2 c_c_0 c_c_1 c_c_2 c_o_0 c_o_1 c_o_2
      obtain ⟨c_a_0, c_a_1, c_a_2⟩ := bwc3 (k_a)
      obtain ⟨c_b_0, c_b_1, c_b_2⟩ := bwc3 (k_b)
      obtain ⟨f_b_0, f_b_1, f_b_2⟩ := bwf3 (k_b)
      obtain ⟨c_c_0, c_c_1, c_c_2⟩ := bwc3 (k_c)
      obtain ⟨c_o_0, c_o_1, c_o_2⟩ := bwc3 (k_o)
      obtain ⟨p2, hp2⟩ : ∃ p : BW W2, p.w = W2 := ⟨BW.start W2, rfl⟩
      rw [← hp2]
      clear hp2
      go_upto_region 3 with (first
        | (go_at_call 21; (first | (with_reducible refine (bw_call KSa.out _).mono ?_) | (with_reducible refine (bw_call KSb.out _).mono ?_) | (with_reducible refine (bw_call KSc.out _).mono ?_) | (with_reducible refine (bw_call KSo.out _).mono ?_)); rintro e w' ⟨rfl, q, rfl⟩))
      obtain ⟨W3, hW3⟩ : ∃ W, W = ((q.w.setCell ⟨g_b, 0, none⟩ (.int .i64 bb1)).setCell ⟨g_b, 1, none⟩ (.int .i64 bb2)).setCell ⟨g_b, 2, none⟩ (.int .i64 bb3) := ⟨_, rfl⟩
      have B3 : Below w.heap.size w W3 := by rw [hW3]; exact blp3 (bw_below B2 q) (by omega)
      have k_a := bkoe3 hW3 (k_a.below q.h) (by omega)
      have k_b := bkpe3 hW3 (k_b.below q.h)
      have k_c := bkoe3 hW3 (k_c.below q.h) (by omega)
      have k_o := bkoe3 hW3 (k_o.below q.h) (by omega)
      rw [← hW3]
      clear hW3
      clear B2
      clear c_a_0 c_a_1 c_a_2 c_b_0 c_b_1 c_b_2 f_b_0 f_b_1 f_b_2 c_c_0 c_c_1 c_c_2 c_o_0 c_o_1 c_o_2
      obtain ⟨c_a_0, c_a_1, c_a_2⟩ := bwc3 (k_a)
      obtain ⟨c_b_0, c_b_1, c_b_2⟩ := bwc3 (k_b)
      obtain ⟨c_c_0, c_c_1, c_c_2⟩ := bwc3 (k_c)
      obtain ⟨f_c_0, f_c_1, f_c_2⟩ := bwf3 (k_c)
      obtain ⟨c_o_0, c_o_1, c_o_2⟩ := bwc3 (k_o)
      obtain ⟨p3, hp3⟩ : ∃ p : BW W3, p.w = W3 := ⟨BW.start W3, rfl⟩
      rw [← hp3]
      clear hp3
      go_upto_region 4 with (first
        | (go_at_call 21; (first | (with_reducible refine (bw_call KSa.out _).mono ?_) | (with_reducible refine (bw_call KSb.out _).mono ?_) | (with_reducible refine (bw_call KSc.out _).mono ?_) | (with_reducible refine (bw_call KSo.out _).mono ?_)); rintro e w' ⟨rfl, q, rfl⟩))
      obtain ⟨W4, hW4⟩ : ∃ W, W = ((q.w.setCell ⟨g_c, 0, none⟩ (.int .i64 cc1)).setCell ⟨g_c, 1, none⟩ (.int .i64 cc2)).setCell ⟨g_c, 2, none⟩ (.int .i64 cc3) := ⟨_, rfl⟩
      have B4 : Below w.heap.size w W4 := by rw [hW4]; exact blp3 (bw_below B3 q) (by omega)
      have k_a := bkoe3 hW4 (k_a.below q.h) (by omega)
      have k_b := bkoe3 hW4 (k_b.below q.h) (by omega)
      have k_c := bkpe3 hW4 (k_c.below q.h)
      have k_o := bkoe3 hW4 (k_o.below q.h) (by omega)
      rw [← hW4]
      clear hW4
      clear B3
      clear c_a_0 c_a_1 c_a_2 c_b_0 c_b_1 c_b_2 c_c_0 c_c_1 c_c_2 f_c_0 f_c_1 f_c_2 c_o_0 c_o_1 c_o_2
      obtain ⟨c_a_0, c_a_1, c_a_2⟩ := bwc3 (k_a)
      obtain ⟨c_b_0, c_b_1, c_b_2⟩ := bwc3 (k_b)
      obtain ⟨c_c_0, c_c_1, c_c_2⟩ := bwc3 (k_c)
      obtain ⟨c_o_0, c_o_1, c_o_2⟩ := bwc3 (k_o)
      obtain ⟨f_o_0, f_o_1, f_o_2⟩ := bwf3 (k_o)
      obtain ⟨p4, hp4⟩ : ∃ p : BW W4, p.w = W4 := ⟨BW.start W4, rfl⟩
      rw [← hp4]
      clear hp4
      go_upto_region 5 with (first
        | (go_at_call 21; (first | (with_reducible refine (bw_call KSa.out _).mono ?_) | (with_reducible refine (bw_call KSb.out _).mono ?_) | (with_reducible refine (bw_call KSc.out _).mono ?_) | (with_reducible refine (bw_call KSo.out _).mono ?_)); rintro e w' ⟨rfl, q, rfl⟩))
      obtain ⟨W5, hW5⟩ : ∃ W, W = ((q.w.setCell ⟨g_o, 0, none⟩ (.int .i64 oo1)).setCell ⟨g_o, 1, none⟩ (.int .i64 oo2)).setCell ⟨g_o, 2, none⟩ (.int .i64 oo3) := ⟨_, rfl⟩
      have B5 : Below w.heap.size w W5 := by rw [hW5]; exact blp3 (bw_below B4 q) (by omega)
      have k_a := bkoe3 hW5 (k_a.below q.h) (by omega)
      have k_b := bkoe3 hW5 (k_b.below q.h) (by omega)
      have k_c := bkoe3 hW5 (k_c.below q.h) (by omega)
      have k_o := bkpe3 hW5 (k_o.below q.h)
      rw [← hW5]
      clear hW5
      clear B4
      clear c_a_0 c_a_1 c_a_2 c_b_0 c_b_1 c_b_2 c_c_0 c_c_1 c_c_2 c_o_0 c_o_1 c_o_2 f_o_0 f_o_1 f_o_2
      obtain ⟨c_a_0, c_a_1, c_a_2⟩ := bwc3 (k_a)
      obtain ⟨c_b_0, c_b_1, c_b_2⟩ := bwc3 (k_b)
      obtain ⟨c_c_0, c_c_1, c_c_2⟩ := bwc3 (k_c)
      obtain ⟨c_o_0, c_o_1, c_o_2⟩ := bwc3 (k_o)
      obtain ⟨p5, hp5⟩ : ∃ p : BW W5, p.w = W5 := ⟨BW.start W5, rfl⟩
      rw [← hp5]
      clear hp5
      go_upto_region 9 with (first
        | (go_at_call 12; (first | (with_reducible refine (bw_call KF.out _).mono ?_)); rintro e w' ⟨rfl, q, rfl⟩))
      refine wp_region_floatL 12 161 [⟨9, 19, 23, #[.int .i64 0, .int .i64 0, .int .i64 0]⟩, ⟨10, 20, 23, #[.int .i64 0, .int .i64 0, .int .i64 0]⟩, ⟨11, 21, 23, #[.int .i64 0, .int .i64 0, .int .i64 0]⟩] (by kernel_rfl) (by kernel_rfl) (by kernel_rfl) (by kernel_rfl) (by kernel_rfl) (by decide) (by kernel_rfl) ?_ ?_
      · exact ⟨⟨_, rfl, fun ev wx => by simp [execOp, go_sem]⟩, ⟨_, rfl, fun ev wx => by simp [execOp, go_sem]⟩, ⟨_, rfl, fun ev wx => by simp [execOp, go_sem]⟩, trivial⟩
      apply Exists.intro
      refine ⟨?_, ?_⟩
      · intro wb' hwb'
        obtain ⟨d_a_0, d_a_1, d_a_2⟩ := bwc3 (k_a.below hwb')
        obtain ⟨d_b_0, d_b_1, d_b_2⟩ := bwc3 (k_b.below hwb')
        obtain ⟨d_c_0, d_c_1, d_c_2⟩ := bwc3 (k_c.below hwb')
        obtain ⟨d_o_0, d_o_1, d_o_2⟩ := bwc3 (k_o.below hwb')
        simp only [List.map_cons, List.map_nil, maskL, List.foldr_cons, List.foldr_nil, maskAt, List.take_succ_cons, List.take_zero]
        repeat (go_big_quiet_step (first
          | (go_at_call 22; (first | (with_reducible exact bw_call KB1.out _) | (with_reducible exact bw_call KB2.out _) | (with_reducible exact bw_call KB3.out _)))))
        refine wpQuiet_nil ?_
        exact rfl
      intro W6 st hW hst hne
      obtain ⟨g_e, e_e, hg_e, k_e⟩ := hst 0 _ rfl
      obtain ⟨g_f, e_f, hg_f, k_f⟩ := hst 1 _ rfl
      obtain ⟨g_s, e_s, hg_s, k_s⟩ := hst 2 _ rfl
      have n_e_f : g_e ≠ g_f := fun e => hne 0 1 _ (by simp) (by simp) (by omega) e_e (by rw [e]; exact e_f)
      have n_e_s : g_e ≠ g_s := fun e => hne 0 2 _ (by simp) (by simp) (by omega) e_e (by rw [e]; exact e_s)
      have n_f_s : g_f ≠ g_s := fun e => hne 1 2 _ (by simp) (by simp) (by omega) e_f (by rw [e]; exact e_s)
      have B6 : Below w.heap.size w W6 := B5.trans (hW.mono B5.size)
      have l_e : g_o < g_e := Nat.lt_of_lt_of_le k_o.lt hg_e
      have l_f : g_o < g_f := Nat.lt_of_lt_of_le k_o.lt hg_f
      have l_s : g_o < g_s := Nat.lt_of_lt_of_le k_o.lt hg_s
      have k_a := k_a.below hW
      have k_b := k_b.below hW
      have k_c := k_c.below hW
      have k_o := k_o.below hW
      simp only [List.drop_succ_cons, List.drop_zero, putAll, Nat.zero_add, Nat.reduceAdd, e_e, e_f, e_s, putO, Act.put, List.setIfInBounds_toArray, List.set_cons_zero, List.set_cons_succ]
      clear hW hst hne B5 hg_e e_e hg_f e_f hg_s e_s
      clear c_a_0 c_a_1 c_a_2 c_b_0 c_b_1 c_b_2 c_c_0 c_c_1 c_c_2 c_o_0 c_o_1 c_o_2
      obtain ⟨c_a_0, c_a_1, c_a_2⟩ := bwc3 (k_a)
      obtain ⟨c_b_0, c_b_1, c_b_2⟩ := bwc3 (k_b)
      obtain ⟨c_c_0, c_c_1, c_c_2⟩ := bwc3 (k_c)
      obtain ⟨c_o_0, c_o_1, c_o_2⟩ := bwc3 (k_o)
      obtain ⟨c_e_0, c_e_1, c_e_2⟩ := bwc3 (k_e)
      obtain ⟨f_e_0, f_e_1, f_e_2⟩ := bwf3 (k_e)
      obtain ⟨c_f_0, c_f_1, c_f_2⟩ := bwc3 (k_f)
      obtain ⟨f_f_0, f_f_1, f_f_2⟩ := bwf3 (k_f)
      obtain ⟨c_s_0, c_s_1, c_s_2⟩ := bwc3 (k_s)
      obtain ⟨f_s_0, f_s_1, f_s_2⟩ := bwf3 (k_s)
      obtain ⟨p6, hp6⟩ : ∃ p : BW W6, p.w = W6 := ⟨BW.start W6, rfl⟩
      rw [← hp6]
      clear hp6
      go_upto_region 10 with (fail)
      obtain ⟨W7, hW7⟩ : ∃ W, W = ((p6.w.setCell ⟨g_e, 0, none⟩ (.int .i64 e1)).setCell ⟨g_e, 1, none⟩ (.int .i64 e2)).setCell ⟨g_e, 2, none⟩ (.int .i64 e3) := ⟨_, rfl⟩
      have B7 : Below w.heap.size w W7 := by rw [hW7]; exact blp3 (bw_below B6 p6) (by omega)
      have k_a := bkoe3 hW7 (k_a.below p6.h) (by omega)
      have k_b := bkoe3 hW7 (k_b.below p6.h) (by omega)
      have k_c := bkoe3 hW7 (k_c.below p6.h) (by omega)
      have k_o := bkoe3 hW7 (k_o.below p6.h) (by omega)
      have k_e := bkpe3 hW7 (k_e.below p6.h)
      have k_f := bkoe3 hW7 (k_f.below p6.h) (by omega)
      have k_s := bkoe3 hW7 (k_s.below p6.h) (by omega)
      rw [← hW7]
      clear hW7
      clear B6
      clear c_a_0 c_a_1 c_a_2 c_b_0 c_b_1 c_b_2 c_c_0 c_c_1 c_c_2 c_o_0 c_o_1 c_o_2 c_e_0 c_e_1 c_e_2 f_e_0 f_e_1 f_e_2 c_f_0 c_f_1 c_f_2 f_f_0 f_f_1 f_f_2 c_s_0 c_s_1 c_s_2 f_s_0 f_s_1 f_s_2
      obtain ⟨c_a_0, c_a_1, c_a_2⟩ := bwc3 (k_a)
      obtain ⟨c_b_0, c_b_1, c_b_2⟩ := bwc3 (k_b)
      obtain ⟨c_c_0, c_c_1, c_c_2⟩ := bwc3 (k_c)
      obtain ⟨c_o_0, c_o_1, c_o_2⟩ := bwc3 (k_o)
      obtain ⟨c_e_0, c_e_1, c_e_2⟩ := bwc3 (k_e)
      obtain ⟨f_e_0, f_e_1, f_e_2⟩ := bwf3 (k_e)
      obtain ⟨c_f_0, c_f_1, c_f_2⟩ := bwc3 (k_f)
      obtain ⟨f_f_0, f_f_1, f_f_2⟩ := bwf3 (k_f)
      obtain ⟨c_s_0, c_s_1, c_s_2⟩ := bwc3 (k_s)
      obtain ⟨f_s_0, f_s_1, f_s_2⟩ := bwf3 (k_s)
      obtain ⟨p7, hp7⟩ : ∃ p : BW W7, p.w = W7 := ⟨BW.start W7, rfl⟩
      rw [← hp7]
      clear hp7
      obtain ⟨W8, hW8⟩ : ∃ W, W = ((p7.w.setCell ⟨g_f, 0, none⟩ (.int .i64 f1)).setCell ⟨g_f, 1, none⟩ (.int .i64 f2)).setCell ⟨g_f, 2, none⟩ (.int .i64 f3) := ⟨_, rfl⟩
      have B8 : Below w.heap.size w W8 := by rw [hW8]; exact blp3 (bw_below B7 p7) (by omega)
      have k_a := bkoe3 hW8 (k_a.below p7.h) (by omega)
      have k_b := bkoe3 hW8 (k_b.below p7.h) (by omega)
      have k_c := bkoe3 hW8 (k_c.below p7.h) (by omega)
      have k_o := bkoe3 hW8 (k_o.below p7.h) (by omega)
      have k_e := bkoe3 hW8 (k_e.below p7.h) (by omega)
      have k_f := bkpe3 hW8 (k_f.below p7.h)
      have k_s := bkoe3 hW8 (k_s.below p7.h) (by omega)
      rw [← hW8]
      clear hW8
      clear B7
      clear c_a_0 c_a_1 c_a_2 c_b_0 c_b_1 c_b_2 c_c_0 c_c_1 c_c_2 c_o_0 c_o_1 c_o_2 c_e_0 c_e_1 c_e_2 f_e_0 f_e_1 f_e_2 c_f_0 c_f_1 c_f_2 f_f_0 f_f_1 f_f_2 c_s_0 c_s_1 c_s_2 f_s_0 f_s_1 f_s_2
      obtain ⟨c_a_0, c_a_1, c_a_2⟩ := bwc3 (k_a)
      obtain ⟨c_b_0, c_b_1, c_b_2⟩ := bwc3 (k_b)
      obtain ⟨c_c_0, c_c_1, c_c_2⟩ := bwc3 (k_c)
      obtain ⟨c_o_0, c_o_1, c_o_2⟩ := bwc3 (k_o)
      obtain ⟨c_e_0, c_e_1, c_e_2⟩ := bwc3 (k_e)
      obtain ⟨f_e_0, f_e_1, f_e_2⟩ := bwf3 (k_e)
      obtain ⟨c_f_0, c_f_1, c_f_2⟩ := bwc3 (k_f)
      obtain ⟨f_f_0, f_f_1, f_f_2⟩ := bwf3 (k_f)
      obtain ⟨c_s_0, c_s_1, c_s_2⟩ := bwc3 (k_s)
      obtain ⟨f_s_0, f_s_1, f_s_2⟩ := bwf3 (k_s)
      obtain ⟨p8, hp8⟩ : ∃ p : BW W8, p.w = W8 := ⟨BW.start W8, rfl⟩
      rw [← hp8]
      clear hp8
      obtain ⟨W9, hW9⟩ : ∃ W, W = ((p8.w.setCell ⟨g_s, 0, none⟩ (.int .i64 s1)).setCell ⟨g_s, 1, none⟩ (.int .i64 s2)).setCell ⟨g_s, 2, none⟩ (.int .i64 s3) := ⟨_, rfl⟩
      have B9 : Below w.heap.size w W9 := by rw [hW9]; exact blp3 (bw_below B8 p8) (by omega)
      have k_a := bkoe3 hW9 (k_a.below p8.h) (by omega)
      have k_b := bkoe3 hW9 (k_b.below p8.h) (by omega)
      have k_c := bkoe3 hW9 (k_c.below p8.h) (by omega)
      have k_o := bkoe3 hW9 (k_o.below p8.h) (by omega)
      have k_e := bkoe3 hW9 (k_e.below p8.h) (by omega)
      have k_f := bkoe3 hW9 (k_f.below p8.h) (by omega)
      have k_s := bkpe3 hW9 (k_s.below p8.h)
      rw [← hW9]
      clear hW9
      clear B8
      clear c_a_0 c_a_1 c_a_2 c_b_0 c_b_1 c_b_2 c_c_0 c_c_1 c_c_2 c_o_0 c_o_1 c_o_2 c_e_0 c_e_1 c_e_2 f_e_0 f_e_1 f_e_2 c_f_0 c_f_1 c_f_2 f_f_0 f_f_1 f_f_2 c_s_0 c_s_1 c_s_2 f_s_0 f_s_1 f_s_2
      obtain ⟨c_a_0, c_a_1, c_a_2⟩ := bwc3 (k_a)
      obtain ⟨c_b_0, c_b_1, c_b_2⟩ := bwc3 (k_b)
      obtain ⟨c_c_0, c_c_1, c_c_2⟩ := bwc3 (k_c)
      obtain ⟨c_o_0, c_o_1, c_o_2⟩ := bwc3 (k_o)
      obtain ⟨c_e_0, c_e_1, c_e_2⟩ := bwc3 (k_e)
      obtain ⟨c_f_0, c_f_1, c_f_2⟩ := bwc3 (k_f)
      obtain ⟨c_s_0, c_s_1, c_s_2⟩ := bwc3 (k_s)
      obtain ⟨p9, hp9⟩ : ∃ p : BW W9, p.w = W9 := ⟨BW.start W9, rfl⟩
      rw [← hp9]
      clear hp9
      go_upto_region 11 with (fail)
      obtain ⟨W10, hW10⟩ : ∃ W, W = p9.w.alloc (.cells #[.int .i64 dd1, .int .i64 dd2, .int .i64 dd3] 23) := ⟨_, rfl⟩
      have B10 : Below w.heap.size w W10 := by rw [hW10]; exact (bw_below B9 p9).alloc (bw_below B9 p9).size _
      have l_d : g_s < p9.w.heap.size := (k_s.below p9.h).lt
      have o_d : w.heap.size ≤ p9.w.heap.size := (bw_below B9 p9).size
      have l_d_e : g_e < p9.w.heap.size := (k_e.below p9.h).lt
      have l_d_f : g_f < p9.w.heap.size := (k_f.below p9.h).lt
      have k_a := bka hW10 (k_a.below p9.h)
      have k_b := bka hW10 (k_b.below p9.h)
      have k_c := bka hW10 (k_c.below p9.h)
      have k_o := bka hW10 (k_o.below p9.h)
      have k_e := bka hW10 (k_e.below p9.h)
      have k_f := bka hW10 (k_f.below p9.h)
      have k_s := bka hW10 (k_s.below p9.h)
      have k_d := bkn hW10
      rw [← hW10]
      clear hW10
      clear B9
      clear c_a_0 c_a_1 c_a_2 c_b_0 c_b_1 c_b_2 c_c_0 c_c_1 c_c_2 c_o_0 c_o_1 c_o_2 c_e_0 c_e_1 c_e_2 c_f_0 c_f_1 c_f_2 c_s_0 c_s_1 c_s_2
      generalize p9.w.heap.size = g_d at *
      obtain ⟨c_a_0, c_a_1, c_a_2⟩ := bwc3 (k_a)
      obtain ⟨c_b_0, c_b_1, c_b_2⟩ := bwc3 (k_b)
      obtain ⟨c_c_0, c_c_1, c_c_2⟩ := bwc3 (k_c)
      obtain ⟨c_o_0, c_o_1, c_o_2⟩ := bwc3 (k_o)
      obtain ⟨c_e_0, c_e_1, c_e_2⟩ := bwc3 (k_e)
      obtain ⟨c_f_0, c_f_1, c_f_2⟩ := bwc3 (k_f)
      obtain ⟨c_s_0, c_s_1, c_s_2⟩ := bwc3 (k_s)
      obtain ⟨c_d_0, c_d_1, c_d_2⟩ := bwc3 (k_d)
      obtain ⟨p10, hp10⟩ : ∃ p : BW W10, p.w = W10 := ⟨BW.start W10, rfl⟩
      rw [← hp10]
      clear hp10
      go_upto_region 12 with (first
        | (go_at_call 8; (first | (with_reducible refine (bw_call KH.out _).mono ?_)); rintro e w' ⟨rfl, q, rfl⟩))
      obtain ⟨W11, hW11⟩ : ∃ W, W = q.w.alloc (.cells #[.int .i64 hn, .int .i64 hd] 29) := ⟨_, rfl⟩
      have B11 : Below w.heap.size w W11 := by rw [hW11]; exact (bw_below B10 q).alloc (bw_below B10 q).size _
      have l_t : g_d < q.w.heap.size := (k_d.below q.h).lt
      have o_t : w.heap.size ≤ q.w.heap.size := (bw_below B10 q).size
      have l_t_e : g_e < q.w.heap.size := (k_e.below q.h).lt
      have l_t_f : g_f < q.w.heap.size := (k_f.below q.h).lt
      have l_t_s : g_s < q.w.heap.size := (k_s.below q.h).lt
      have k_a := bka hW11 (k_a.below q.h)
      have k_b := bka hW11 (k_b.below q.h)
      have k_c := bka hW11 (k_c.below q.h)
      have k_o := bka hW11 (k_o.below q.h)
      have k_e := bka hW11 (k_e.below q.h)
      have k_f := bka hW11 (k_f.below q.h)
      have k_s := bka hW11 (k_s.below q.h)
      have k_d := bka hW11 (k_d.below q.h)
      have k_t := bkn hW11
      rw [← hW11]
      clear hW11
      clear B10
      clear c_a_0 c_a_1 c_a_2 c_b_0 c_b_1 c_b_2 c_c_0 c_c_1 c_c_2 c_o_0 c_o_1 c_o_2 c_e_0 c_e_1 c_e_2 c_f_0 c_f_1 c_f_2 c_s_0 c_s_1 c_s_2 c_d_0 c_d_1 c_d_2
      generalize q.w.heap.size = g_t at *
      obtain ⟨c_a_0, c_a_1, c_a_2⟩ := bwc3 (k_a)
      obtain ⟨c_b_0, c_b_1, c_b_2⟩ := bwc3 (k_b)
      obtain ⟨c_c_0, c_c_1, c_c_2⟩ := bwc3 (k_c)
      obtain ⟨c_o_0, c_o_1, c_o_2⟩ := bwc3 (k_o)
      obtain ⟨c_e_0, c_e_1, c_e_2⟩ := bwc3 (k_e)
      obtain ⟨c_f_0, c_f_1, c_f_2⟩ := bwc3 (k_f)
      obtain ⟨c_s_0, c_s_1, c_s_2⟩ := bwc3 (k_s)
      obtain ⟨c_d_0, c_d_1, c_d_2⟩ := bwc3 (k_d)
      obtain ⟨c_t_0, c_t_1⟩ := bwc2 (k_t)
      obtain ⟨p11, hp11⟩ : ∃ p : BW W11, p.w = W11 := ⟨BW.start W11, rfl⟩
      rw [← hp11]
      clear hp11
      rcases HE.out with ⟨rfl, rfl⟩ | ⟨u1, rfl, ⟨u2, u3⟩, u4⟩
      all_goals
        clear HE
        go_wp2_with (first
          | (go_at_call 23; (first | (with_reducible refine (bw_call KV.out _).mono ?_)); rintro e w' ⟨rfl, q, rfl⟩)
          | (go_at_call 18; (first | (with_reducible refine (bw_call HA.out _).mono ?_)); rintro e w' ⟨rfl, q, rfl⟩))
        go_ret
        exact ⟨rfl, bw_below B11 _⟩

end Go.Proofs.Ytnidgokmndnenaa
