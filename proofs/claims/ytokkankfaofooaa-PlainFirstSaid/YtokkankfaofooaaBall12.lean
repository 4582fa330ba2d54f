/- Contracts of package ball: beyond, meet; the exported functions. -/
import Derived.Test.YtokkankfaofooaaTril11
import Derived.Test.YtokkankfaofooaaNum01
import Derived.Test.YtokkankfaofooaaFrac01
import Derived.Test.YtokkankfaofooaaWide01
import Derived.Test.YtokkankfaofooaaMath12
import Derived.Test.YtokkankfaofooaaMem06
import Derived.Test.YtokkankfaofooaaFloat
import Derived.Test.YtokkankfaofooaaBw
import Derived.Deep.DeepCutAuto
namespace Go.Proofs.Ytokkankfaofooaa
open Go.RowKit Go.Proofs.Sky
set_option linter.unusedVariables false
set_option linter.unusedSimpArgs false

set_option maxRecDepth 100000 in
set_option maxHeartbeats 4000000 in
theorem ball_Right (c1 c2 c3 r : Int) (w : World) (hc : I3 (c1, c2, c3)) (hr : I64 r) :
    Calls Try.prog 41 #[.agg #[.int .i64 c1, .int .i64 c2, .int .i64 c3], .int .i64 r] w fun en w' => en = .returned (.bool (ballR (c1, c2, c3) r)) ∧ Below w.heap.size w w' := by
  have KP := Lib.hid (fun w => tri_Place c1 c2 c3 w)
  rw [ballR_eq]
  generalize plc (c1, c2, c3) = e1 at *
  obtain ⟨e2, h2⟩ : ∃ e, e = decide (4 ≤ r) := ⟨_, rfl⟩
  obtain ⟨e3, h3⟩ : ∃ e, e = decide (r ≤ 262144) := ⟨_, rfl⟩
  rw [← h2, ← h3]
  replace h2 := h2.symm
  replace h3 := h3.symm
  go_enter Try.func41, Try.ntmps41
  go_upto_region 1 with (fail)
  obtain ⟨W1, hW1⟩ : ∃ W, W = w.alloc (.cells #[.int .i64 c1, .int .i64 c2, .int .i64 c3] 24) := ⟨_, rfl⟩
  obtain ⟨k_c, B1⟩ := st1 hW1
  rw [← hW1]
  clear hW1
  obtain ⟨c_c_0, c_c_1, c_c_2⟩ := bwc3 (k_c)
  obtain ⟨p1, hp1⟩ : ∃ p : BW W1, p.w = W1 := ⟨BW.start W1, rfl⟩
  rw [← hp1]
  clear hp1
  rcases e1 with _ | _ <;> rcases e2 with _ | _ <;> rcases e3 with _ | _
  all_goals
    go_wp2_with (first
      | (go_at_call 42; (first | (with_reducible refine (bw_call KP.out _).mono ?_)); rintro e w' ⟨rfl, q, rfl⟩))
    go_ret
    exact ⟨rfl, bw_below B1 _⟩

set_option maxRecDepth 100000 in
set_option maxHeartbeats 4000000 in
theorem ball_beyond (c1 c2 c3 r t1 t2 t3 : Int) (w : World) (h1 : plc (c1, c2, c3) = true) (h2 : plc (t1, t2, t3) = true) (h3 : 4 ≤ r ∧ r ≤ 262144) :
    Calls Try.prog 44 #[.agg #[.int .i64 c1, .int .i64 c2, .int .i64 c3], .int .i64 r, .agg #[.int .i64 t1, .int .i64 t2, .int .i64 t3]] w fun en w' => en = .returned (.int .i64 (ballQ (c1, c2, c3) r (t1, t2, t3))) ∧ Below w.heap.size w w' := by
  have r1 := plc_iff.1 h1
  have r2 := plc_iff.1 h2
  have ir := rr_in h3
  have nn := nr_sb h2 h1
  dsimp only at r1 r2
  have KS := Lib.hid (fun w => vec_Sub t1 t2 t3 c1 c2 c3 w (by unfold I64; omega) (by unfold I64; omega) (by unfold I64; omega) (by unfold I64; omega) (by unfold I64; omega) (by unfold I64; omega))
  unfold ballQ
  have KD := Lib.hid (fun w => vec_Dot (sbT (t1, t2, t3) (c1, c2, c3)).1 (sbT (t1, t2, t3) (c1, c2, c3)).2.1 (sbT (t1, t2, t3) (c1, c2, c3)).2.2 (sbT (t1, t2, t3) (c1, c2, c3)).1 (sbT (t1, t2, t3) (c1, c2, c3)).2.1 (sbT (t1, t2, t3) (c1, c2, c3)).2.2 w)
  rw [vdot_dtT nn nn] at KD
  have ds := dtT_near nn nn
  have e1 : vsub t1 c1 = (sbT (t1, t2, t3) (c1, c2, c3)).1 := by unfold sbT; exact vsub_pl (by omega) (by omega)
  have e2 : vsub t2 c2 = (sbT (t1, t2, t3) (c1, c2, c3)).2.1 := by unfold sbT; exact vsub_pl (by omega) (by omega)
  have e3 : vsub t3 c3 = (sbT (t1, t2, t3) (c1, c2, c3)).2.2 := by unfold sbT; exact vsub_pl (by omega) (by omega)
  rw [e1, e2, e3] at KS
  generalize dtT (sbT (t1, t2, t3) (c1, c2, c3)) (sbT (t1, t2, t3) (c1, c2, c3)) = dd at *
  generalize sbT (t1, t2, t3) (c1, c2, c3) = S at *
  obtain ⟨s1, s2, s3⟩ := S
  dsimp only at KS KD
  obtain ⟨rr, hrr⟩ : ∃ t, r * r = t := ⟨_, rfl⟩
  have wrr : wrap64 (r * r) = rr := by rw [hrr]; exact IntWalk.wrap64_in _ (by omega)
  have vrr : IntKind.i64.wrap (r * r) = rr := by rw [hrr, i64w]; omega
  rw [hrr] at ir ⊢
  obtain ⟨z, hz⟩ : ∃ t, dd - rr = t := ⟨_, rfl⟩
  have wz : wrap64 (dd - rr) = z := by rw [hz]; exact IntWalk.wrap64_in _ (by omega)
  have vz : IntKind.i64.wrap (dd - rr) = z := by rw [hz, i64w]; omega
  rw [hz]
  clear h1 h2 h3 r1 r2 ir nn ds e1 e2 e3 hrr hz
  go_enter Try.func44, Try.ntmps44
  go_upto_region 1 with (fail)
  obtain ⟨W1, hW1⟩ : ∃ W, W = (w.alloc (.cells #[.int .i64 c1, .int .i64 c2, .int .i64 c3] 24)).alloc (.cells #[.int .i64 t1, .int .i64 t2, .int .i64 t3] 24) := ⟨_, rfl⟩
  obtain ⟨k_c, k_a, B1⟩ := st2 hW1
  rw [← hW1]
  clear hW1
  have l_a : w.heap.size < w.heap.size + 1 := by omega
  generalize w.heap.size + 1 = g_a at *
  obtain ⟨c_c_0, c_c_1, c_c_2⟩ := bwc3 (k_c)
  obtain ⟨c_a_0, c_a_1, c_a_2⟩ := bwc3 (k_a)
  obtain ⟨p1, hp1⟩ : ∃ p : BW W1, p.w = W1 := ⟨BW.start W1, rfl⟩
  rw [← hp1]
  clear hp1
  go_upto_region 2 with (first
    | (go_at_call 37; (first | (with_reducible refine (bw_call KS.out _).mono ?_)); rintro e w' ⟨rfl, q, rfl⟩))
  obtain ⟨W2, hW2⟩ : ∃ W, W = q.w.alloc (.cells #[.int .i64 s1, .int .i64 s2, .int .i64 s3] 24) := ⟨_, rfl⟩
  have B2 : Below w.heap.size w W2 := by rw [hW2]; exact (bw_below B1 q).alloc (bw_below B1 q).size _
  have l_y : g_a < q.w.heap.size := (k_a.below q.h).lt
  have o_y : w.heap.size ≤ q.w.heap.size := (bw_below B1 q).size
  have k_c := bka hW2 (k_c.below q.h)
  have k_a := bka hW2 (k_a.below q.h)
  have k_y := bkn hW2
  rw [← hW2]
  clear hW2
  clear B1
  clear c_c_0 c_c_1 c_c_2 c_a_0 c_a_1 c_a_2
  generalize q.w.heap.size = g_y at *
  obtain ⟨c_c_0, c_c_1, c_c_2⟩ := bwc3 (k_c)
  obtain ⟨c_a_0, c_a_1, c_a_2⟩ := bwc3 (k_a)
  obtain ⟨c_y_0, c_y_1, c_y_2⟩ := bwc3 (k_y)
  obtain ⟨p2, hp2⟩ : ∃ p : BW W2, p.w = W2 := ⟨BW.start W2, rfl⟩
  rw [← hp2]
  clear hp2
  go_wp2_with (first
    | (go_at_call 57; (first | (with_reducible refine (bw_call KD.out _).mono ?_)); rintro e w' ⟨rfl, q, rfl⟩))
  go_ret
  exact ⟨rfl, bw_below B2 _⟩

set_option maxRecDepth 100000 in
set_option maxHeartbeats 4000000 in
theorem ball_meet_any (c1 c2 c3 o1 o2 o3 d1 d2 d3 fr z a b S x1 x2 : Int) (w : World) (ok xk : Bool) (h1 : plc (c1, c2, c3) = true) (h2 : plc (o1, o2, o3) = true) (ha : vdot d1 d2 d3 d1 d2 d3 = a) (hb : vdot (o1 - c1) (o2 - c2) (o3 - c3) d1 d2 d3 = b) (hb2 : -3298534883328 ≤ b ∧ b ≤ 3298534883328) (ha2 : 0 ≤ a ∧ a ≤ 3298534883328) (hz : -3298534883328 ≤ z ∧ z ≤ 3298534883328) (hs0 : ((if b * b - a * z < 0 then 0 else isq (b * b - a * z).toNat : Nat) : Int) = S) (hok : decide (0 ≤ b * b - a * z) = ok) (hS : 0 ≤ S ∧ S ≤ 8796093022208) (h0 : a = 0 → b = 0 ∧ S = 0) (hp : ok = true → 0 < z → b < 0 → 1 ≤ a → S < -b) (HX : ((x1, x2), xk) = if ok = true ∧ 1 ≤ a then ballF a b z S else ((0, 0), false)) :
    Calls Try.prog 43 #[.agg #[.int .i64 c1, .int .i64 c2, .int .i64 c3], .agg #[.int .i64 o1, .int .i64 o2, .int .i64 o3, .int .i64 d1, .int .i64 d2, .int .i64 d3, .int .i64 fr], .int .i64 z] w fun en w' => en = .returned (.tuple #[.agg #[.int .i64 x1, .int .i64 x2], .bool xk]) ∧ Below w.heap.size w w' := by
  have r1 := plc_iff.1 h1
  have r2 := plc_iff.1 h2
  dsimp only at r1 r2
  have KS := Lib.hid (fun w => vec_Sub o1 o2 o3 c1 c2 c3 w (by unfold I64; omega) (by unfold I64; omega) (by unfold I64; omega) (by unfold I64; omega) (by unfold I64; omega) (by unfold I64; omega))
  have e1 : vsub o1 c1 = o1 - c1 := vsub_pl (by omega) (by omega)
  have e2 : vsub o2 c2 = o2 - c2 := vsub_pl (by omega) (by omega)
  have e3 : vsub o3 c3 = o3 - c3 := vsub_pl (by omega) (by omega)
  rw [e1, e2, e3] at KS
  have KA := Lib.hid (fun w => vec_Dot d1 d2 d3 d1 d2 d3 w)
  have KB := Lib.hid (fun w => vec_Dot (o1 - c1) (o2 - c2) (o3 - c3) d1 d2 d3 w)
  rw [ha] at KA
  rw [hb] at KB
  generalize o1 - c1 = s1 at *
  generalize o2 - c2 = s2 at *
  generalize o3 - c3 = s3 at *
  clear e1 e2 e3 r1 r2 h1 h2 ha hb
  have sx := mul_in (x := b) (a := b) (N := 3298534883328) (M := 3298534883328) (by omega) (by omega)
  have sy := mul_in (x := a) (a := z) (N := 3298534883328) (M := 3298534883328) (by omega) (by omega)
  have K1 := Lib.hid (fun w => wide_Mul b b w (by unfold I64; omega) (by unfold I64; omega))
  have K2 := Lib.hid (fun w => wide_Mul a z w (by unfold I64; omega) (by unfold I64; omega))
  have K3 := Lib.hid (fun w => wide_Sub (b * b) (a * z) w)
  have K4 := Lib.hid (fun w => wide_Root (b * b - a * z) w (by unfold W128; omega))
  rw [hok, hs0] at K4
  have ew : wrap64 S = S := IntWalk.wrap64_in _ (by omega)
  have ew2 : IntKind.i64.wrap S = S := by rw [i64w]; omega
  have H := Lib.hid (show (0 ≤ S ∧ S ≤ 8796093022208) ∧ (-3298534883328 ≤ b ∧ b ≤ 3298534883328) ∧ (0 ≤ a ∧ a ≤ 3298534883328) ∧ (-3298534883328 ≤ z ∧ z ≤ 3298534883328) from ⟨hS, hb2, ha2, hz⟩)
  have H0 := Lib.hid h0
  have HP := Lib.hid hp
  have HX' := Lib.hid HX
  generalize b * b = bb at *
  generalize a * z = az at *
  clear sx sy hs0 hok hS hb2 ha2 hz h0 hp HX
  go_enter Try.func43, Try.ntmps43
  go_upto_region 1 with (fail)
  obtain ⟨W1, hW1⟩ : ∃ W, W = ((w.alloc (.cells #[.int .i64 c1, .int .i64 c2, .int .i64 c3] 24)).alloc (.cells #[.int .i64 o1, .int .i64 o2, .int .i64 o3, .int .i64 d1, .int .i64 d2, .int .i64 d3, .int .i64 fr] 28)).alloc (.cells #[.int .i64 0, .int .i64 0] 30) := ⟨_, rfl⟩
  obtain ⟨k_c, k_y, k_r, B1⟩ := st3 hW1
  rw [← hW1]
  clear hW1
  have l_y : w.heap.size < w.heap.size + 1 := by omega
  have l_r : w.heap.size + 1 < w.heap.size + 1 + 1 := by omega
  generalize w.heap.size + 1 + 1 = g_r at *
  generalize w.heap.size + 1 = g_y at *
  obtain ⟨c_c_0, c_c_1, c_c_2⟩ := bwc3 (k_c)
  obtain ⟨c_y_0, c_y_1, c_y_2, c_y_3, c_y_4, c_y_5, c_y_6⟩ := bwc7 (k_y)
  obtain ⟨c_r_0, c_r_1⟩ := bwc2 (k_r)
  obtain ⟨f_r_0, f_r_1⟩ := bwf2 (k_r)
  obtain ⟨p1, hp1⟩ : ∃ p : BW W1, p.w = W1 := ⟨BW.start W1, rfl⟩
  rw [← hp1]
  clear hp1
  refine wp_region_bw (by kernel_rfl) (by kernel_rfl) ?_
  repeat (go_big_quiet_step (first
    | (go_at_call 37; (first | (with_reducible exact bw_call KS.out _)))
    | (go_at_call 57; (first | (with_reducible exact bw_call KA.out _) | (with_reducible exact bw_call KB.out _)))))
  refine wpQuiet_nil ?_
  intro _ hw'
  obtain ⟨q, rfl⟩ := hw'
  clear KS KA KB
  go_upto_region 3 with (first
    | (go_at_call 34; (first | (with_reducible refine (bw_call K1.out _).mono ?_) | (with_reducible refine (bw_call K2.out _).mono ?_)); rintro e w' ⟨rfl, q, rfl⟩)
    | (go_at_call 59; (first | (with_reducible refine (bw_call K3.out _).mono ?_)); rintro e w' ⟨rfl, q, rfl⟩)
    | (go_at_call 58; (first | (with_reducible refine (bw_call K4.out _).mono ?_)); rintro e w' ⟨rfl, q, rfl⟩))
  clear K1 K2 K3 K4
  by_cases g1 : 0 < z
  · have t1 : decide (0 < z) = true := decide_eq_true g1
    by_cases g2 : b < 0
    · have t2 : decide (b < 0) = true := decide_eq_true g2
      cases ok with
      | false =>
        obtain ⟨i1, i2, i3, i4⟩ := H.out
        obtain ⟨m, hm⟩ : ∃ t, -S = t := ⟨_, rfl⟩
        have wm : wrap64 (-S) = m := by rw [hm]; exact IntWalk.wrap64_in _ (by omega)
        have vm : IntKind.i64.wrap (-S) = m := by rw [hm, i64w]; omega
        obtain ⟨n, hn⟩ : ∃ t, m - b = t := ⟨_, rfl⟩
        have wn : wrap64 (m - b) = n := by rw [hn]; exact IntWalk.wrap64_in _ (by omega)
        have vn : IntKind.i64.wrap (m - b) = n := by rw [hn, i64w]; omega
        have hx : x1 = 0 ∧ x2 = 0 ∧ xk = false := by
          have h := HX'.out
          rw [if_neg (fun e => by cases e.1)] at h
          simpa only [Prod.mk.injEq, and_assoc] using h
        clear H H0 HP HX' i1 i2 i3 i4 hm hn g1 g2
        have HE := Lib.hid hx
        clear hx
        go_wp2
        have kr := bkp2 (k_r.below q.h) (.int .i64 0) (.int .i64 0)
        obtain ⟨rc0, rc1⟩ := rwc2 kr
        exact bodyPost_ret (v := .tuple #[.agg #[.int .i64 0, .int .i64 0], .bool false]) (by simp [results, Try.results43, go_sem, rc0, rc1]) rfl ⟨by rw [HE.out.1, HE.out.2.1, HE.out.2.2], blp2 (bw_below B1 q) (by omega)⟩
      | true =>
        have a1 : 1 ≤ a := by
          have j0 := H0.out
          have j1 := H.out.2.2.1
          by_cases j : a = 0
          · have := (j0 j).1; omega
          · omega
        have a2 := HP.out rfl g1 g2 a1
        obtain ⟨i1, i2, i3, i4⟩ := H.out
        obtain ⟨m, hm⟩ : ∃ t, -S = t := ⟨_, rfl⟩
        have wm : wrap64 (-S) = m := by rw [hm]; exact IntWalk.wrap64_in _ (by omega)
        have vm : IntKind.i64.wrap (-S) = m := by rw [hm, i64w]; omega
        obtain ⟨n, hn⟩ : ∃ t, m - b = t := ⟨_, rfl⟩
        have wn : wrap64 (m - b) = n := by rw [hn]; exact IntWalk.wrap64_in _ (by omega)
        have vn : IntKind.i64.wrap (m - b) = n := by rw [hn, i64w]; omega
        have hx : x1 = n ∧ x2 = a ∧ xk = true := by
          have h := HX'.out
          rw [if_pos ⟨rfl, a1⟩, show ballF a b z S = ((n, a), true) by unfold ballF; rw [if_pos ⟨g1, g2⟩, show -b - S = n by omega]] at h
          simpa only [Prod.mk.injEq, and_assoc] using h
        have tz : decide (n ≤ 0) = false := decide_eq_false (by omega)
        have okm : fmakeOk n a = true := decide_eq_true ⟨by omega, by omega, by omega⟩
        have KM := Lib.hid (fun w => frac_Make n a w (by unfold I64; omega) (by unfold I64; omega))
        rw [show fmake n a = (n, a) by unfold fmake; rw [if_pos okm, if_neg (by omega)], okm] at KM
        dsimp only at KM
        clear okm
        clear H H0 HP HX' i1 i2 i3 i4 hm hn g1 g2 a1 a2
        have HE := Lib.hid hx
        clear hx
        go_wp2_with (first | (go_at_call 38; (with_reducible refine (bw_call KM.out _).mono ?_); rintro e w' ⟨rfl, q, rfl⟩))
        have kr := bkp2 (k_r.below q.h) (.int .i64 n) (.int .i64 a)
        obtain ⟨rc0, rc1⟩ := rwc2 kr
        exact bodyPost_ret (v := .tuple #[.agg #[.int .i64 n, .int .i64 a], .bool true]) (by simp [results, Try.results43, go_sem, rc0, rc1]) rfl ⟨by rw [HE.out.1, HE.out.2.1, HE.out.2.2], blp2 (bw_below B1 q) (by omega)⟩
    · have t2 : decide (b < 0) = false := decide_eq_false g2
      cases ok with
      | false =>
        obtain ⟨i1, i2, i3, i4⟩ := H.out
        have hx : x1 = 0 ∧ x2 = 0 ∧ xk = false := by
          have h := HX'.out
          rw [if_neg (fun e => by cases e.1)] at h
          simpa only [Prod.mk.injEq, and_assoc] using h
        clear H H0 HP HX' i1 i2 i3 i4 g1 g2
        have HE := Lib.hid hx
        clear hx
        go_wp2
        have kr := bkp2 (k_r.below q.h) (.int .i64 0) (.int .i64 0)
        obtain ⟨rc0, rc1⟩ := rwc2 kr
        exact bodyPost_ret (v := .tuple #[.agg #[.int .i64 0, .int .i64 0], .bool false]) (by simp [results, Try.results43, go_sem, rc0, rc1]) rfl ⟨by rw [HE.out.1, HE.out.2.1, HE.out.2.2], blp2 (bw_below B1 q) (by omega)⟩
      | true =>
        obtain ⟨i1, i2, i3, i4⟩ := H.out
        have hx : x1 = 0 ∧ x2 = 0 ∧ xk = false := by
          have h := HX'.out
          rw [show ballF a b z S = ((0, 0), false) by unfold ballF; rw [if_neg (by omega), if_neg (by omega)], ite_self] at h
          simpa only [Prod.mk.injEq, and_assoc] using h
        have tz : decide ((0 : Int) ≤ 0) = true := rfl
        clear H H0 HP HX' i1 i2 i3 i4 g1 g2
        have HE := Lib.hid hx
        clear hx
        go_wp2
        have kr := bkp2 (k_r.below q.h) (.int .i64 0) (.int .i64 0)
        obtain ⟨rc0, rc1⟩ := rwc2 kr
        exact bodyPost_ret (v := .tuple #[.agg #[.int .i64 0, .int .i64 0], .bool false]) (by simp [results, Try.results43, go_sem, rc0, rc1]) rfl ⟨by rw [HE.out.1, HE.out.2.1, HE.out.2.2], blp2 (bw_below B1 q) (by omega)⟩
  · have t1 : decide (0 < z) = false := decide_eq_false g1
    cases ok with
    | false =>
      obtain ⟨i1, i2, i3, i4⟩ := H.out
      obtain ⟨n, hn⟩ : ∃ t, S - b = t := ⟨_, rfl⟩
      have wn : wrap64 (S - b) = n := by rw [hn]; exact IntWalk.wrap64_in _ (by omega)
      have vn : IntKind.i64.wrap (S - b) = n := by rw [hn, i64w]; omega
      have hx : x1 = 0 ∧ x2 = 0 ∧ xk = false := by
        have h := HX'.out
        rw [if_neg (fun e => by cases e.1)] at h
        simpa only [Prod.mk.injEq, and_assoc] using h
      clear H H0 HP HX' i1 i2 i3 i4 hn g1
      have HE := Lib.hid hx
      clear hx
      go_wp2
      have kr := bkp2 (k_r.below q.h) (.int .i64 0) (.int .i64 0)
      obtain ⟨rc0, rc1⟩ := rwc2 kr
      exact bodyPost_ret (v := .tuple #[.agg #[.int .i64 0, .int .i64 0], .bool false]) (by simp [results, Try.results43, go_sem, rc0, rc1]) rfl ⟨by rw [HE.out.1, HE.out.2.1, HE.out.2.2], blp2 (bw_below B1 q) (by omega)⟩
    | true =>
      by_cases g3 : S - b ≤ 0
      · obtain ⟨i1, i2, i3, i4⟩ := H.out
        obtain ⟨n, hn⟩ : ∃ t, S - b = t := ⟨_, rfl⟩
        have wn : wrap64 (S - b) = n := by rw [hn]; exact IntWalk.wrap64_in _ (by omega)
        have vn : IntKind.i64.wrap (S - b) = n := by rw [hn, i64w]; omega
        have hx : x1 = 0 ∧ x2 = 0 ∧ xk = false := by
          have h := HX'.out
          rw [show ballF a b z S = ((0, 0), false) by unfold ballF; rw [if_neg (by omega), if_neg (by omega)], ite_self] at h
          simpa only [Prod.mk.injEq, and_assoc] using h
        have tz : decide (n ≤ 0) = true := decide_eq_true (by omega)
        clear H H0 HP HX' i1 i2 i3 i4 hn g1 g3
        have HE := Lib.hid hx
        clear hx
        go_wp2
        have kr := bkp2 (k_r.below q.h) (.int .i64 0) (.int .i64 0)
        obtain ⟨rc0, rc1⟩ := rwc2 kr
        exact bodyPost_ret (v := .tuple #[.agg #[.int .i64 0, .int .i64 0], .bool false]) (by simp [results, Try.results43, go_sem, rc0, rc1]) rfl ⟨by rw [HE.out.1, HE.out.2.1, HE.out.2.2], blp2 (bw_below B1 q) (by omega)⟩
      · have a1 : 1 ≤ a := by
          have j0 := H0.out
          have j1 := H.out.2.2.1
          by_cases j : a = 0
          · have := j0 j; omega
          · omega
        obtain ⟨i1, i2, i3, i4⟩ := H.out
        obtain ⟨n, hn⟩ : ∃ t, S - b = t := ⟨_, rfl⟩
        have wn : wrap64 (S - b) = n := by rw [hn]; exact IntWalk.wrap64_in _ (by omega)
        have vn : IntKind.i64.wrap (S - b) = n := by rw [hn, i64w]; omega
        have hx : x1 = n ∧ x2 = a ∧ xk = true := by
          have h := HX'.out
          rw [if_pos ⟨rfl, a1⟩, show ballF a b z S = ((n, a), true) by unfold ballF; rw [if_neg (by omega), if_pos ⟨by omega, by omega⟩, show S - b = n by omega]] at h
          simpa only [Prod.mk.injEq, and_assoc] using h
        have tz : decide (n ≤ 0) = false := decide_eq_false (by omega)
        have okm : fmakeOk n a = true := decide_eq_true ⟨by omega, by omega, by omega⟩
        have KM := Lib.hid (fun w => frac_Make n a w (by unfold I64; omega) (by unfold I64; omega))
        rw [show fmake n a = (n, a) by unfold fmake; rw [if_pos okm, if_neg (by omega)], okm] at KM
        dsimp only at KM
        clear okm
        clear H H0 HP HX' i1 i2 i3 i4 hn g1 g3 a1
        have HE := Lib.hid hx
        clear hx
        go_wp2_with (first | (go_at_call 38; (with_reducible refine (bw_call KM.out _).mono ?_); rintro e w' ⟨rfl, q, rfl⟩))
        have kr := bkp2 (k_r.below q.h) (.int .i64 n) (.int .i64 a)
        obtain ⟨rc0, rc1⟩ := rwc2 kr
        exact bodyPost_ret (v := .tuple #[.agg #[.int .i64 n, .int .i64 a], .bool true]) (by simp [results, Try.results43, go_sem, rc0, rc1]) rfl ⟨by rw [HE.out.1, HE.out.2.1, HE.out.2.2], blp2 (bw_below B1 q) (by omega)⟩

theorem ball_meet (c1 c2 c3 o1 o2 o3 d1 d2 d3 fr z : Int) (w : World) (h1 : plc (c1, c2, c3) = true) (h2 : plc (o1, o2, o3) = true) (hz : -3298534883328 ≤ z ∧ z ≤ 3298534883328) :
    Calls Try.prog 43 #[.agg #[.int .i64 c1, .int .i64 c2, .int .i64 c3], .agg #[.int .i64 o1, .int .i64 o2, .int .i64 o3, .int .i64 d1, .int .i64 d2, .int .i64 d3, .int .i64 fr], .int .i64 z] w fun en w' => en = .returned (.tuple #[.agg #[.int .i64 (ballG (vdot d1 d2 d3 d1 d2 d3) (vdot (o1 - c1) (o2 - c2) (o3 - c3) d1 d2 d3) z).1.1, .int .i64 (ballG (vdot d1 d2 d3 d1 d2 d3) (vdot (o1 - c1) (o2 - c2) (o3 - c3) d1 d2 d3) z).1.2], .bool (ballG (vdot d1 d2 d3 d1 d2 d3) (vdot (o1 - c1) (o2 - c2) (o3 - c3) d1 d2 d3) z).2]) ∧ Below w.heap.size w w' := by
  have ha := vdot_in d1 d2 d3 d1 d2 d3
  have ha0 := vdot_self d1 d2 d3
  have hb := vdot_in (o1 - c1) (o2 - c2) (o3 - c3) d1 d2 d3
  have h00 : vdot d1 d2 d3 d1 d2 d3 = 0 → vdot (o1 - c1) (o2 - c2) (o3 - c3) d1 d2 d3 = 0 := fun e => by
    unfold vdot at e ⊢
    by_cases hn : vnear d1 d2 d3 = true
    · rw [if_pos ⟨hn, hn⟩] at e
      have a4 := sq_nonneg d1; have a5 := sq_nonneg d2; have a6 := sq_nonneg d3
      have z1 : d1 = 0 := sq_zero (by omega)
      have z2 : d2 = 0 := sq_zero (by omega)
      have z3 : d3 = 0 := sq_zero (by omega)
      rw [z1, z2, z3]
      split <;> simp
    · rw [if_neg (fun e => hn e.2)]
  obtain ⟨a, ea⟩ : ∃ a, vdot d1 d2 d3 d1 d2 d3 = a := ⟨_, rfl⟩
  obtain ⟨b, eb⟩ : ∃ b, vdot (o1 - c1) (o2 - c2) (o3 - c3) d1 d2 d3 = b := ⟨_, rfl⟩
  rw [ea] at ha ha0 h00 ⊢
  rw [eb] at hb h00 ⊢
  have sx := mul_in (x := b) (a := b) (N := 3298534883328) (M := 3298534883328) (by omega) (by omega)
  have sy := mul_in (x := a) (a := z) (N := 3298534883328) (M := 3298534883328) (by omega) (by omega)
  have hS : 0 ≤ ((if b * b - a * z < 0 then 0 else isq (b * b - a * z).toNat : Nat) : Int) ∧ ((if b * b - a * z < 0 then 0 else isq (b * b - a * z).toNat : Nat) : Int) ≤ 8796093022208 := by
    split
    · omega
    · have h := isq_lt (n := (b * b - a * z).toNat) (k := 8796093022208) (by omega)
      omega
  obtain ⟨S, hs0⟩ : ∃ S : Int, ((if b * b - a * z < 0 then 0 else isq (b * b - a * z).toNat : Nat) : Int) = S := ⟨_, rfl⟩
  rw [hs0] at hS
  refine ball_meet_any c1 c2 c3 o1 o2 o3 d1 d2 d3 fr z a b S _ _ w _ _ h1 h2 ea eb hb ⟨ha0, ha.2⟩ hz hs0 rfl hS (fun e => ?_) (fun e1 e2 e3 e4 => ?_) ?_
  · have hb0 := h00 e
    refine ⟨hb0, ?_⟩
    rw [← hs0, e, hb0]
    simp
    decide
  · have e1' := of_decide_eq_true e1
    rw [if_neg (by omega)] at hs0
    have s1 := (isq_spec (b * b - a * z).toNat).1
    have pz : 0 < a * z := Int.mul_pos (by omega) e2
    refine sq_le_of hS.1 ?_ e3
    have : ((isq (b * b - a * z).toNat * isq (b * b - a * z).toNat : Nat) : Int) ≤ ((b * b - a * z).toNat : Int) := Int.ofNat_le.2 s1
    rw [Int.natCast_mul, hs0] at this
    omega
  · show ballG a b z = _
    unfold ballG
    by_cases hd : 0 ≤ b * b - a * z
    · rw [if_neg (by omega)] at hs0
      rw [hs0]
      simp [hd]
    · rw [if_neg (fun e => hd e.1), if_neg (fun e => hd (of_decide_eq_true e.1))]

set_option maxRecDepth 100000 in
set_option maxHeartbeats 4000000 in
theorem ball_Hit_no (c1 c2 c3 r o1 o2 o3 d1 d2 d3 fr : Int) (w : World) (hc : I3 (c1, c2, c3)) (hr : I64 r) (hp : (ballR (c1, c2, c3) r && plc (o1, o2, o3)) = false) :
    Calls Try.prog 32 #[.agg #[.int .i64 c1, .int .i64 c2, .int .i64 c3], .int .i64 r, .agg #[.int .i64 o1, .int .i64 o2, .int .i64 o3, .int .i64 d1, .int .i64 d2, .int .i64 d3, .int .i64 fr]] w fun en w' => en = .returned (.tuple #[.agg #[.int .i64 0, .int .i64 0], .bool false]) ∧ Below w.heap.size w w' := by
  have KR := Lib.hid (fun w => ball_Right c1 c2 c3 r w hc hr)
  have KP := Lib.hid (fun w => tri_Place o1 o2 o3 w)
  generalize ballR (c1, c2, c3) r = e1 at *
  generalize plc (o1, o2, o3) = e2 at *
  clear hc hr
  cases e1 with
  | false =>
    clear hp
    go_enter Try.func32, Try.ntmps32
    go_upto_region 1 with (fail)
    obtain ⟨W1, hW1⟩ : ∃ W, W = ((w.alloc (.cells #[.int .i64 c1, .int .i64 c2, .int .i64 c3] 24)).alloc (.cells #[.int .i64 o1, .int .i64 o2, .int .i64 o3, .int .i64 d1, .int .i64 d2, .int .i64 d3, .int .i64 fr] 28)).alloc (.cells #[.int .i64 0, .int .i64 0] 30) := ⟨_, rfl⟩
    obtain ⟨k_c, k_y, k_r, B1⟩ := st3 hW1
    rw [← hW1]
    clear hW1
    have l_y : w.heap.size < w.heap.size + 1 := by omega
    have l_r : w.heap.size + 1 < w.heap.size + 1 + 1 := by omega
    generalize w.heap.size + 1 + 1 = g_r at *
    generalize w.heap.size + 1 = g_y at *
    obtain ⟨c_c_0, c_c_1, c_c_2⟩ := bwc3 (k_c)
    obtain ⟨c_y_0, c_y_1, c_y_2, c_y_3, c_y_4, c_y_5, c_y_6⟩ := bwc7 (k_y)
    obtain ⟨c_r_0, c_r_1⟩ := bwc2 (k_r)
    obtain ⟨f_r_0, f_r_1⟩ := bwf2 (k_r)
    obtain ⟨p1, hp1⟩ : ∃ p : BW W1, p.w = W1 := ⟨BW.start W1, rfl⟩
    rw [← hp1]
    clear hp1
    go_wp2_with (first
      | (go_at_call 41; (first | (with_reducible refine (bw_call KR.out _).mono ?_)); rintro e w' ⟨rfl, q, rfl⟩)
      | (go_at_call 42; (first | (with_reducible refine (bw_call KP.out _).mono ?_)); rintro e w' ⟨rfl, q, rfl⟩))
    have kr := bkp2 (k_r.below q.h) (.int .i64 0) (.int .i64 0)
    obtain ⟨rc0, rc1⟩ := rwc2 kr
    exact bodyPost_ret (v := .tuple #[.agg #[.int .i64 0, .int .i64 0], .bool false]) (by simp [results, Try.results32, go_sem, rc0, rc1]) rfl ⟨rfl, blp2 (bw_below B1 q) (by omega)⟩
  | true =>
    cases e2 with
    | true => cases hp
    | false =>
    clear hp
    go_enter Try.func32, Try.ntmps32
    go_upto_region 1 with (fail)
    obtain ⟨W1, hW1⟩ : ∃ W, W = ((w.alloc (.cells #[.int .i64 c1, .int .i64 c2, .int .i64 c3] 24)).alloc (.cells #[.int .i64 o1, .int .i64 o2, .int .i64 o3, .int .i64 d1, .int .i64 d2, .int .i64 d3, .int .i64 fr] 28)).alloc (.cells #[.int .i64 0, .int .i64 0] 30) := ⟨_, rfl⟩
    obtain ⟨k_c, k_y, k_r, B1⟩ := st3 hW1
    rw [← hW1]
    clear hW1
    have l_y : w.heap.size < w.heap.size + 1 := by omega
    have l_r : w.heap.size + 1 < w.heap.size + 1 + 1 := by omega
    generalize w.heap.size + 1 + 1 = g_r at *
    generalize w.heap.size + 1 = g_y at *
    obtain ⟨c_c_0, c_c_1, c_c_2⟩ := bwc3 (k_c)
    obtain ⟨c_y_0, c_y_1, c_y_2, c_y_3, c_y_4, c_y_5, c_y_6⟩ := bwc7 (k_y)
    obtain ⟨c_r_0, c_r_1⟩ := bwc2 (k_r)
    obtain ⟨f_r_0, f_r_1⟩ := bwf2 (k_r)
    obtain ⟨p1, hp1⟩ : ∃ p : BW W1, p.w = W1 := ⟨BW.start W1, rfl⟩
    rw [← hp1]
    clear hp1
    go_wp2_with (first
      | (go_at_call 41; (first | (with_reducible refine (bw_call KR.out _).mono ?_)); rintro e w' ⟨rfl, q, rfl⟩)
      | (go_at_call 42; (first | (with_reducible refine (bw_call KP.out _).mono ?_)); rintro e w' ⟨rfl, q, rfl⟩))
    have kr := bkp2 (k_r.below q.h) (.int .i64 0) (.int .i64 0)
    obtain ⟨rc0, rc1⟩ := rwc2 kr
    exact bodyPost_ret (v := .tuple #[.agg #[.int .i64 0, .int .i64 0], .bool false]) (by simp [results, Try.results32, go_sem, rc0, rc1]) rfl ⟨rfl, blp2 (bw_below B1 q) (by omega)⟩

set_option maxRecDepth 100000 in
set_option maxHeartbeats 4000000 in
theorem ball_Hit_yes (c1 c2 c3 r o1 o2 o3 d1 d2 d3 fr : Int) (w : World) (hc : I3 (c1, c2, c3)) (hr : I64 r) (hp : ballR (c1, c2, c3) r = true) (h2 : plc (o1, o2, o3) = true) :
    Calls Try.prog 32 #[.agg #[.int .i64 c1, .int .i64 c2, .int .i64 c3], .int .i64 r, .agg #[.int .i64 o1, .int .i64 o2, .int .i64 o3, .int .i64 d1, .int .i64 d2, .int .i64 d3, .int .i64 fr]] w fun en w' => en = .returned (.tuple #[.agg #[.int .i64 (ballG (vdot d1 d2 d3 d1 d2 d3) (vdot (o1 - c1) (o2 - c2) (o3 - c3) d1 d2 d3) (ballQ (c1, c2, c3) r (o1, o2, o3))).1.1, .int .i64 (ballG (vdot d1 d2 d3 d1 d2 d3) (vdot (o1 - c1) (o2 - c2) (o3 - c3) d1 d2 d3) (ballQ (c1, c2, c3) r (o1, o2, o3))).1.2], .bool (ballG (vdot d1 d2 d3 d1 d2 d3) (vdot (o1 - c1) (o2 - c2) (o3 - c3) d1 d2 d3) (ballQ (c1, c2, c3) r (o1, o2, o3))).2]) ∧ Below w.heap.size w w' := by
  have h1 := (ballR_iff.1 hp).1
  have h3 := (ballR_iff.1 hp).2
  have KR := Lib.hid (fun w => ball_Right c1 c2 c3 r w hc hr)
  have KP := Lib.hid (fun w => tri_Place o1 o2 o3 w)
  rw [hp] at KR
  rw [h2] at KP
  have KQ := Lib.hid (fun w => ball_beyond c1 c2 c3 r o1 o2 o3 w h1 h2 h3)
  have hq := ballQ_in h1 h2 h3
  generalize ballQ (c1, c2, c3) r (o1, o2, o3) = z at *
  have KM := Lib.hid (fun w => ball_meet c1 c2 c3 o1 o2 o3 d1 d2 d3 fr z w h1 h2 hq)
  generalize ballG (vdot d1 d2 d3 d1 d2 d3) (vdot (o1 - c1) (o2 - c2) (o3 - c3) d1 d2 d3) z = G at *
  obtain ⟨⟨x1, x2⟩, xk⟩ := G
  dsimp only at KM ⊢
  clear h1 h2 h3 hp hc hr hq
  go_enter Try.func32, Try.ntmps32
  go_upto_region 1 with (fail)
  obtain ⟨W1, hW1⟩ : ∃ W, W = ((w.alloc (.cells #[.int .i64 c1, .int .i64 c2, .int .i64 c3] 24)).alloc (.cells #[.int .i64 o1, .int .i64 o2, .int .i64 o3, .int .i64 d1, .int .i64 d2, .int .i64 d3, .int .i64 fr] 28)).alloc (.cells #[.int .i64 0, .int .i64 0] 30) := ⟨_, rfl⟩
  obtain ⟨k_c, k_y, k_r, B1⟩ := st3 hW1
  rw [← hW1]
  clear hW1
  have l_y : w.heap.size < w.heap.size + 1 := by omega
  have l_r : w.heap.size + 1 < w.heap.size + 1 + 1 := by omega
  generalize w.heap.size + 1 + 1 = g_r at *
  generalize w.heap.size + 1 = g_y at *
  obtain ⟨c_c_0, c_c_1, c_c_2⟩ := bwc3 (k_c)
  obtain ⟨c_y_0, c_y_1, c_y_2, c_y_3, c_y_4, c_y_5, c_y_6⟩ := bwc7 (k_y)
  obtain ⟨c_r_0, c_r_1⟩ := bwc2 (k_r)
  obtain ⟨f_r_0, f_r_1⟩ := bwf2 (k_r)
  obtain ⟨p1, hp1⟩ : ∃ p : BW W1, p.w = W1 := ⟨BW.start W1, rfl⟩
  rw [← hp1]
  clear hp1
  go_upto_region 3 with (first
    | (go_at_call 41; (first | (with_reducible refine (bw_call KR.out _).mono ?_)); rintro e w' ⟨rfl, q, rfl⟩)
    | (go_at_call 42; (first | (with_reducible refine (bw_call KP.out _).mono ?_)); rintro e w' ⟨rfl, q, rfl⟩))
  refine wp_region_bw_tail 10 (by kernel_rfl) (by kernel_rfl) (by kernel_rfl) ?_
  simp only [List.take_succ_cons, List.take_zero, List.drop_succ_cons, List.drop_zero]
  repeat (go_big_quiet_step (first
    | (go_at_call 44; (first | (with_reducible exact bw_call KQ.out _)))
    | (go_at_call 43; (first | (with_reducible exact bw_call KM.out _)))))
  refine wpQuiet_nil ?_
  intro _ hw'
  obtain ⟨q, rfl⟩ := hw'
  go_wp2
  have kr := bkp2 (k_r.below q.h) (.int .i64 x1) (.int .i64 x2)
  obtain ⟨rc0, rc1⟩ := rwc2 kr
  exact bodyPost_ret (v := .tuple #[.agg #[.int .i64 x1, .int .i64 x2], .bool xk]) (by simp [results, Try.results32, go_sem, rc0, rc1]) rfl ⟨rfl, blp2 (bw_below B1 q) (by omega)⟩

theorem ball_Hit (c1 c2 c3 r o1 o2 o3 d1 d2 d3 fr : Int) (w : World) (hc : I3 (c1, c2, c3)) (hr : I64 r) (ho : I3 (o1, o2, o3)) (hd : I3 (d1, d2, d3)) :
    Calls Try.prog 32 #[.agg #[.int .i64 c1, .int .i64 c2, .int .i64 c3], .int .i64 r, .agg #[.int .i64 o1, .int .i64 o2, .int .i64 o3, .int .i64 d1, .int .i64 d2, .int .i64 d3, .int .i64 fr]] w fun en w' => en = .returned (.tuple #[.agg #[.int .i64 (ballH (c1, c2, c3) r (o1, o2, o3) (d1, d2, d3)).1.1, .int .i64 (ballH (c1, c2, c3) r (o1, o2, o3) (d1, d2, d3)).1.2], .bool (ballH (c1, c2, c3) r (o1, o2, o3) (d1, d2, d3)).2]) ∧ Below w.heap.size w w' := by
  by_cases hp : ballR (c1, c2, c3) r = true ∧ plc (o1, o2, o3) = true
  · rw [ballH_G hp.1 hp.2]
    exact ball_Hit_yes c1 c2 c3 r o1 o2 o3 d1 d2 d3 fr w hc hr hp.1 hp.2
  · rw [show ballH (c1, c2, c3) r (o1, o2, o3) (d1, d2, d3) = ((0, 0), false) by
      unfold ballH ballM
      rw [if_neg]
      rintro ⟨h, _⟩
      simp only [Bool.and_eq_true] at h
      exact hp ⟨h.1, h.2.1⟩]
    exact ball_Hit_no c1 c2 c3 r o1 o2 o3 d1 d2 d3 fr w hc hr (by rw [Bool.eq_false_iff, Ne, Bool.and_eq_true]; exact hp)

set_option maxRecDepth 100000 in
set_option maxHeartbeats 4000000 in
theorem ball_Through_no (c1 c2 c3 r o1 o2 o3 d1 d2 d3 fr : Int) (w : World) (hc : I3 (c1, c2, c3)) (hr : I64 r) (hp : (ballR (c1, c2, c3) r && plc (o1, o2, o3)) = false) :
    Calls Try.prog 31 #[.agg #[.int .i64 c1, .int .i64 c2, .int .i64 c3], .int .i64 r, .agg #[.int .i64 o1, .int .i64 o2, .int .i64 o3, .int .i64 d1, .int .i64 d2, .int .i64 d3, .int .i64 fr]] w fun en w' => en = .returned (.tuple #[.agg #[.int .i64 0, .int .i64 0], .bool false]) ∧ Below w.heap.size w w' := by
  have KR := Lib.hid (fun w => ball_Right c1 c2 c3 r w hc hr)
  have KP := Lib.hid (fun w => tri_Place o1 o2 o3 w)
  generalize ballR (c1, c2, c3) r = e1 at *
  generalize plc (o1, o2, o3) = e2 at *
  clear hc hr
  cases e1 with
  | false =>
    clear hp
    go_enter Try.func31, Try.ntmps31
    go_upto_region 1 with (fail)
    obtain ⟨W1, hW1⟩ : ∃ W, W = ((w.alloc (.cells #[.int .i64 c1, .int .i64 c2, .int .i64 c3] 24)).alloc (.cells #[.int .i64 o1, .int .i64 o2, .int .i64 o3, .int .i64 d1, .int .i64 d2, .int .i64 d3, .int .i64 fr] 28)).alloc (.cells #[.int .i64 0, .int .i64 0] 30) := ⟨_, rfl⟩
    obtain ⟨k_c, k_y, k_r, B1⟩ := st3 hW1
    rw [← hW1]
    clear hW1
    have l_y : w.heap.size < w.heap.size + 1 := by omega
    have l_r : w.heap.size + 1 < w.heap.size + 1 + 1 := by omega
    generalize w.heap.size + 1 + 1 = g_r at *
    generalize w.heap.size + 1 = g_y at *
    obtain ⟨c_c_0, c_c_1, c_c_2⟩ := bwc3 (k_c)
    obtain ⟨c_y_0, c_y_1, c_y_2, c_y_3, c_y_4, c_y_5, c_y_6⟩ := bwc7 (k_y)
    obtain ⟨c_r_0, c_r_1⟩ := bwc2 (k_r)
    obtain ⟨f_r_0, f_r_1⟩ := bwf2 (k_r)
    obtain ⟨p1, hp1⟩ : ∃ p : BW W1, p.w = W1 := ⟨BW.start W1, rfl⟩
    rw [← hp1]
    clear hp1
    go_wp2_with (first
      | (go_at_call 41; (first | (with_reducible refine (bw_call KR.out _).mono ?_)); rintro e w' ⟨rfl, q, rfl⟩)
      | (go_at_call 42; (first | (with_reducible refine (bw_call KP.out _).mono ?_)); rintro e w' ⟨rfl, q, rfl⟩))
    have kr := bkp2 (k_r.below q.h) (.int .i64 0) (.int .i64 0)
    obtain ⟨rc0, rc1⟩ := rwc2 kr
    exact bodyPost_ret (v := .tuple #[.agg #[.int .i64 0, .int .i64 0], .bool false]) (by simp [results, Try.results31, go_sem, rc0, rc1]) rfl ⟨rfl, blp2 (bw_below B1 q) (by omega)⟩
  | true =>
    cases e2 with
    | true => cases hp
    | false =>
    clear hp
    go_enter Try.func31, Try.ntmps31
    go_upto_region 1 with (fail)
    obtain ⟨W1, hW1⟩ : ∃ W, W = ((w.alloc (.cells #[.int .i64 c1, .int .i64 c2, .int .i64 c3] 24)).alloc (.cells #[.int .i64 o1, .int .i64 o2, .int .i64 o3, .int .i64 d1, .int .i64 d2, .int .i64 d3, .int .i64 fr] 28)).alloc (.cells #[.int .i64 0, .int .i64 0] 30) := ⟨_, rfl⟩
    obtain ⟨k_c, k_y, k_r, B1⟩ := st3 hW1
    rw [← hW1]
    clear hW1
    have l_y : w.heap.size < w.heap.size + 1 := by omega
    have l_r : w.heap.size + 1 < w.heap.size + 1 + 1 := by omega
    generalize w.heap.size + 1 + 1 = g_r at *
    generalize w.heap.size + 1 = g_y at *
    obtain ⟨c_c_0, c_c_1, c_c_2⟩ := bwc3 (k_c)
    obtain ⟨c_y_0, c_y_1, c_y_2, c_y_3, c_y_4, c_y_5, c_y_6⟩ := bwc7 (k_y)
    obtain ⟨c_r_0, c_r_1⟩ := bwc2 (k_r)
    obtain ⟨f_r_0, f_r_1⟩ := bwf2 (k_r)
    obtain ⟨p1, hp1⟩ : ∃ p : BW W1, p.w = W1 := ⟨BW.start W1, rfl⟩
    rw [← hp1]
    clear hp1
    go_wp2_with (first
      | (go_at_call 41; (first | (with_reducible refine (bw_call KR.out _).mono ?_)); rintro e w' ⟨rfl, q, rfl⟩)
      | (go_at_call 42; (first | (with_reducible refine (bw_call KP.out _).mono ?_)); rintro e w' ⟨rfl, q, rfl⟩))
    have kr := bkp2 (k_r.below q.h) (.int .i64 0) (.int .i64 0)
    obtain ⟨rc0, rc1⟩ := rwc2 kr
    exact bodyPost_ret (v := .tuple #[.agg #[.int .i64 0, .int .i64 0], .bool false]) (by simp [results, Try.results31, go_sem, rc0, rc1]) rfl ⟨rfl, blp2 (bw_below B1 q) (by omega)⟩

set_option maxRecDepth 100000 in
set_option maxHeartbeats 4000000 in
theorem ball_Through_yes (c1 c2 c3 r o1 o2 o3 d1 d2 d3 fr : Int) (w : World) (hc : I3 (c1, c2, c3)) (hr : I64 r) (hp : ballR (c1, c2, c3) r = true) (h2 : plc (o1, o2, o3) = true) :
    Calls Try.prog 31 #[.agg #[.int .i64 c1, .int .i64 c2, .int .i64 c3], .int .i64 r, .agg #[.int .i64 o1, .int .i64 o2, .int .i64 o3, .int .i64 d1, .int .i64 d2, .int .i64 d3, .int .i64 fr]] w fun en w' => en = .returned (.tuple #[.agg #[.int .i64 (ballG (vdot d1 d2 d3 d1 d2 d3) (vdot (o1 - c1) (o2 - c2) (o3 - c3) d1 d2 d3) 0).1.1, .int .i64 (ballG (vdot d1 d2 d3 d1 d2 d3) (vdot (o1 - c1) (o2 - c2) (o3 - c3) d1 d2 d3) 0).1.2], .bool (ballG (vdot d1 d2 d3 d1 d2 d3) (vdot (o1 - c1) (o2 - c2) (o3 - c3) d1 d2 d3) 0).2]) ∧ Below w.heap.size w w' := by
  have h1 := (ballR_iff.1 hp).1
  have h3 := (ballR_iff.1 hp).2
  have KR := Lib.hid (fun w => ball_Right c1 c2 c3 r w hc hr)
  have KP := Lib.hid (fun w => tri_Place o1 o2 o3 w)
  rw [hp] at KR
  rw [h2] at KP
  have KM := Lib.hid (fun w => ball_meet c1 c2 c3 o1 o2 o3 d1 d2 d3 fr 0 w h1 h2 (by omega))
  generalize ballG (vdot d1 d2 d3 d1 d2 d3) (vdot (o1 - c1) (o2 - c2) (o3 - c3) d1 d2 d3) 0 = G at *
  obtain ⟨⟨x1, x2⟩, xk⟩ := G
  dsimp only at KM ⊢
  clear h1 h2 h3 hp hc hr
  go_enter Try.func31, Try.ntmps31
  go_upto_region 1 with (fail)
  obtain ⟨W1, hW1⟩ : ∃ W, W = ((w.alloc (.cells #[.int .i64 c1, .int .i64 c2, .int .i64 c3] 24)).alloc (.cells #[.int .i64 o1, .int .i64 o2, .int .i64 o3, .int .i64 d1, .int .i64 d2, .int .i64 d3, .int .i64 fr] 28)).alloc (.cells #[.int .i64 0, .int .i64 0] 30) := ⟨_, rfl⟩
  obtain ⟨k_c, k_y, k_r, B1⟩ := st3 hW1
  rw [← hW1]
  clear hW1
  have l_y : w.heap.size < w.heap.size + 1 := by omega
  have l_r : w.heap.size + 1 < w.heap.size + 1 + 1 := by omega
  generalize w.heap.size + 1 + 1 = g_r at *
  generalize w.heap.size + 1 = g_y at *
  obtain ⟨c_c_0, c_c_1, c_c_2⟩ := bwc3 (k_c)
  obtain ⟨c_y_0, c_y_1, c_y_2, c_y_3, c_y_4, c_y_5, c_y_6⟩ := bwc7 (k_y)
  obtain ⟨c_r_0, c_r_1⟩ := bwc2 (k_r)
  obtain ⟨f_r_0, f_r_1⟩ := bwf2 (k_r)
  obtain ⟨p1, hp1⟩ : ∃ p : BW W1, p.w = W1 := ⟨BW.start W1, rfl⟩
  rw [← hp1]
  clear hp1
  go_upto_region 3 with (first
    | (go_at_call 41; (first | (with_reducible refine (bw_call KR.out _).mono ?_)); rintro e w' ⟨rfl, q, rfl⟩)
    | (go_at_call 42; (first | (with_reducible refine (bw_call KP.out _).mono ?_)); rintro e w' ⟨rfl, q, rfl⟩))
  go_wp2_with (first
    | (go_at_call 43; (first | (with_reducible refine (bw_call KM.out _).mono ?_)); rintro e w' ⟨rfl, q, rfl⟩))
  have kr := bkp2 (k_r.below q.h) (.int .i64 x1) (.int .i64 x2)
  obtain ⟨rc0, rc1⟩ := rwc2 kr
  exact bodyPost_ret (v := .tuple #[.agg #[.int .i64 x1, .int .i64 x2], .bool xk]) (by simp [results, Try.results31, go_sem, rc0, rc1]) rfl ⟨rfl, blp2 (bw_below B1 q) (by omega)⟩

theorem ball_Through (c1 c2 c3 r o1 o2 o3 d1 d2 d3 fr : Int) (w : World) (hc : I3 (c1, c2, c3)) (hr : I64 r) (ho : I3 (o1, o2, o3)) (hd : I3 (d1, d2, d3)) :
    Calls Try.prog 31 #[.agg #[.int .i64 c1, .int .i64 c2, .int .i64 c3], .int .i64 r, .agg #[.int .i64 o1, .int .i64 o2, .int .i64 o3, .int .i64 d1, .int .i64 d2, .int .i64 d3, .int .i64 fr]] w fun en w' => en = .returned (.tuple #[.agg #[.int .i64 (ballT (c1, c2, c3) r (o1, o2, o3) (d1, d2, d3)).1.1, .int .i64 (ballT (c1, c2, c3) r (o1, o2, o3) (d1, d2, d3)).1.2], .bool (ballT (c1, c2, c3) r (o1, o2, o3) (d1, d2, d3)).2]) ∧ Below w.heap.size w w' := by
  by_cases hp : ballR (c1, c2, c3) r = true ∧ plc (o1, o2, o3) = true
  · rw [ballT_G hp.1 hp.2]
    exact ball_Through_yes c1 c2 c3 r o1 o2 o3 d1 d2 d3 fr w hc hr hp.1 hp.2
  · rw [show ballT (c1, c2, c3) r (o1, o2, o3) (d1, d2, d3) = ((0, 0), false) by
      unfold ballT ballM
      rw [if_neg]
      rintro ⟨h, _⟩
      simp only [Bool.and_eq_true] at h
      exact hp ⟨h.1, h.2.1⟩]
    exact ball_Through_no c1 c2 c3 r o1 o2 o3 d1 d2 d3 fr w hc hr (by rw [Bool.eq_false_iff, Ne, Bool.and_eq_true]; exact hp)

end Go.Proofs.Ytokkankfaofooaa
