/- Contracts of package ball: beyond, meet; the exported functions. -/
import Derived.Test.YtbmpmjdlaahekaaGreatWs22
set_option maxRecDepth 100000
set_option maxHeartbeats 8000000
set_option linter.unusedVariables false
set_option linter.unusedSimpArgs false
open Go.Proofs.Tryz
namespace Go.Proofs.YtbmpmjdlaahekaaGreat
section
open Go.RowKit Go.Proofs.Sky
theorem ball_Right (c1 c2 c3 r : Int) (w : World) (hc : I3 (c1, c2, c3)) (hr : I64 r) :
  Rt prog 144 #[.agg #[c1, c2, c3], r] w (.bool (ballR (c1, c2, c3) r)) := by
 have KP := zh (fun w => tri_Place c1 c2 c3 w)
 rw [ballR_eq]
 generalize plc (c1, c2, c3) = e1 at *
 obtain ⟨e2, h2⟩ := nmd (decide (4 ≤ r))
 obtain ⟨e3, h3⟩ := nmd (decide (r ≤ 262144))
 rw [← h2, ← h3]
 replace h2 := h2.symm
 replace h3 := h3.symm
 go_enter func144, ntmps144
 go_upto_region 1 with (fail)
 refine wst1 fun W1 kc B1 => ?_
 have cc := bwc3 kc
 refine bws fun p1 => ?_
 rcases e1 with _ | _ <;> rcases e2 with _ | _ <;> rcases e3 with _ | _
 all_goals
  go_wp2_with ((go_at_call 145; (with_reducible refine (z02 KP.out _).mono ?_); rintro e w' ⟨rfl, q, rfl⟩))
  go_ret
  exact ⟨rfl, z00 B1 _⟩
theorem ball_beyond (c1 c2 c3 r t1 t2 t3 : Int) (w : World) (h1 : plc (c1, c2, c3) = true) (h2 : plc (t1, t2, t3) = true) (h3 : 4 ≤ r ∧ r ≤ 262144) :
  Rt prog 147 #[.agg #[c1, c2, c3], r, .agg #[t1, t2, t3]] w (.int .i64 (ballQ (c1, c2, c3) r (t1, t2, t3))) := by
 have r1 := z0a.1 h1
 have r2 := z0a.1 h2
 have ir := rr_in h3
 have nn := nr_sb h2 h1
 dsimp only at r1 r2
 have KS := zh (fun w => z0u t1 t2 t3 c1 c2 c3 w (by unfold I64; omega) (by unfold I64; omega) (by unfold I64; omega) (by unfold I64; omega) (by unfold I64; omega) (by unfold I64; omega))
 unfold ballQ
 have KD := zh (fun w => vec_Dot (sbT (t1, t2, t3) (c1, c2, c3)).1 (sbT (t1, t2, t3) (c1, c2, c3)).2.1 (sbT (t1, t2, t3) (c1, c2, c3)).2.2 (sbT (t1, t2, t3) (c1, c2, c3)).1 (sbT (t1, t2, t3) (c1, c2, c3)).2.1 (sbT (t1, t2, t3) (c1, c2, c3)).2.2 w)
 rw [vdot_dtT nn nn] at KD
 have ds := dtT_near nn nn
 have e1 : vsub t1 c1 = (sbT (t1, t2, t3) (c1, c2, c3)).1 := by unfold sbT; exact z05 (by omega) (by omega)
 have e2 : vsub t2 c2 = (sbT (t1, t2, t3) (c1, c2, c3)).2.1 := by unfold sbT; exact z05 (by omega) (by omega)
 have e3 : vsub t3 c3 = (sbT (t1, t2, t3) (c1, c2, c3)).2.2 := by unfold sbT; exact z05 (by omega) (by omega)
 rw [e1, e2, e3] at KS
 generalize dtT (sbT (t1, t2, t3) (c1, c2, c3)) (sbT (t1, t2, t3) (c1, c2, c3)) = dd at *
 generalize sbT (t1, t2, t3) (c1, c2, c3) = S at *
 obtain ⟨s1, s2, s3⟩ := S
 dsimp only at KS KD
 obtain ⟨rr, hrr⟩ : ∃ t, r * r = t := ⟨_, rfl⟩
 have wrr : wrap64 (r * r) = rr := by rw [hrr]; exact IntWalk.wrap64_in _ (by omega)
 have vrr : IntKind.i64.wrap (r * r) = rr := by rw [hrr, i64w]; omega
 rw [hrr] at ir ⊢
 obtain ⟨z, hz⟩ : ∃ t, dd - rr = t := ⟨_, rfl⟩
 have wz : wrap64 (dd - rr) = z := by rw [hz]; exact IntWalk.wrap64_in _ (by omega)
 have vz : IntKind.i64.wrap (dd - rr) = z := by rw [hz, i64w]; omega
 rw [hz]
 clear h1 h2 h3 r1 r2 ir nn ds e1 e2 e3 hrr hz
 go_enter func147, ntmps147
 go_upto_region 1 with (fail)
 refine wst2 fun W1 kc ka B1 => ?_
 have la : w.heap.size < w.heap.size + 1 := by omega
 generalize w.heap.size + 1 = ga at *
 have cc := bwc3 kc
 have c_a := bwc3 ka
 refine bws fun p1 => ?_
 go_upto_region 2 with ((go_at_call 46; (with_reducible refine (z02 KS.out _).mono ?_); rintro e w' ⟨rfl, q, rfl⟩))
 refine wnm fun W2 hW2 => ?_
 have B2 := bwA q hW2 B1
 have ly : ga < q.w.heap.size := (ka.below q.h).lt
 have oy : w.heap.size ≤ q.w.heap.size := (z00 B1 q).size
 have kc := bka hW2 (kc.below q.h)
 have ka := bka hW2 (ka.below q.h)
 have ky := bkn hW2
 clear hW2
 clear B1
 clear cc c_a
 generalize q.w.heap.size = gy at *
 have cc := bwc3 kc
 have c_a := bwc3 ka
 have cy := bwc3 ky
 refine bws fun p2 => ?_
 go_wp2_with ((go_at_call 151; (with_reducible refine (z02 KD.out _).mono ?_); rintro e w' ⟨rfl, q, rfl⟩))
 go_ret
 exact ⟨rfl, z00 B2 _⟩
theorem ball_meet_any (c1 c2 c3 o1 o2 o3 d1 d2 d3 fr z a b S x1 x2 : Int) (w : World) (ok xk : Bool) (h1 : plc (c1, c2, c3) = true) (h2 : plc (o1, o2, o3) = true) (ha : vdot d1 d2 d3 d1 d2 d3 = a) (hb : vdot (o1 - c1) (o2 - c2) (o3 - c3) d1 d2 d3 = b) (hb2 : -3298534883328 ≤ b ∧ b ≤ 3298534883328) (ha2 : 0 ≤ a ∧ a ≤ 3298534883328) (hz : -3298534883328 ≤ z ∧ z ≤ 3298534883328) (hs0 : ((if b * b - a * z < 0 then 0 else isq (b * b - a * z).toNat : Nat) : Int) = S) (hok : decide (0 ≤ b * b - a * z) = ok) (hS : 0 ≤ S ∧ S ≤ 8796093022208) (h0 : a = 0 → b = 0 ∧ S = 0) (hp : ok = true → 0 < z → b < 0 → 1 ≤ a → S < -b) (HX : ((x1, x2), xk) = if ok = true ∧ 1 ≤ a then ballF a b z S else ((0, 0), false)) :
  Rt prog 146 #[.agg #[c1, c2, c3], .agg #[o1, o2, o3, d1, d2, d3, fr], z] w (.tuple #[.agg #[x1, x2], .bool xk]) := by
 have r1 := z0a.1 h1
 have r2 := z0a.1 h2
 dsimp only at r1 r2
 have KS := zh (fun w => z0u o1 o2 o3 c1 c2 c3 w (by unfold I64; omega) (by unfold I64; omega) (by unfold I64; omega) (by unfold I64; omega) (by unfold I64; omega) (by unfold I64; omega))
 have e1 : vsub o1 c1 = o1 - c1 := z05 (by omega) (by omega)
 have e2 : vsub o2 c2 = o2 - c2 := z05 (by omega) (by omega)
 have e3 : vsub o3 c3 = o3 - c3 := z05 (by omega) (by omega)
 rw [e1, e2, e3] at KS
 have KA := zh (fun w => vec_Dot d1 d2 d3 d1 d2 d3 w)
 have KB := zh (fun w => vec_Dot (o1 - c1) (o2 - c2) (o3 - c3) d1 d2 d3 w)
 rw [ha] at KA
 rw [hb] at KB
 generalize o1 - c1 = s1 at *
 generalize o2 - c2 = s2 at *
 generalize o3 - c3 = s3 at *
 clear e1 e2 e3 r1 r2 h1 h2 ha hb
 have sx := mul_in (x := b) (a := b) (N := 3298534883328) (M := 3298534883328) (by omega) (by omega)
 have sy := mul_in (x := a) (a := z) (N := 3298534883328) (M := 3298534883328) (by omega) (by omega)
 have K1 := zh (fun w => wide_Mul b b w (by unfold I64; omega) (by unfold I64; omega))
 have K2 := zh (fun w => wide_Mul a z w (by unfold I64; omega) (by unfold I64; omega))
 have K3 := zh (fun w => wide_Sub (b * b) (a * z) w)
 have K4 := zh (fun w => wide_Root (b * b - a * z) w (by unfold W128; omega))
 rw [hok, hs0] at K4
 have ew : wrap64 S = S := IntWalk.wrap64_in _ (by omega)
 have ew2 : IntKind.i64.wrap S = S := by rw [i64w]; omega
 have H := zh (show (0 ≤ S ∧ S ≤ 8796093022208) ∧ (-3298534883328 ≤ b ∧ b ≤ 3298534883328) ∧ (0 ≤ a ∧ a ≤ 3298534883328) ∧ (-3298534883328 ≤ z ∧ z ≤ 3298534883328) from ⟨hS, hb2, ha2, hz⟩)
 have H0 := zh h0
 have HP := zh hp
 have HX' := zh HX
 generalize b * b = bb at *
 generalize a * z = az at *
 clear sx sy hs0 hok hS hb2 ha2 hz h0 hp HX
 go_enter func146, ntmps146
 go_upto_region 1 with (fail)
 refine wst3 fun W1 kc ky k_r B1 => ?_
 have ly : w.heap.size < w.heap.size + 1 := by omega
 have lr : w.heap.size + 1 < w.heap.size + 1 + 1 := by omega
 generalize w.heap.size + 1 + 1 = gr at *
 generalize w.heap.size + 1 = gy at *
 have cc := bwc3 kc
 have cy := bwc7 ky
 have cr := bwc2 k_r
 have f_r := bwf2 k_r
 refine bws fun p1 => ?_
 refine z03 (by kernel_rfl) (by kernel_rfl) ?_
 repeat (go_big_quiet_step (first
  | (go_at_call 46; (with_reducible exact z02 KS.out _))
  | (go_at_call 151; (first | (with_reducible exact z02 KA.out _) | (with_reducible exact z02 KB.out _)))))
 refine wpQuiet_nil ?_
 intro _ hw'
 obtain ⟨q, rfl⟩ := hw'
 clear KS KA KB
 go_upto_region 3 with (first
  | (go_at_call 93; (first | (with_reducible refine (z02 K1.out _).mono ?_) | (with_reducible refine (z02 K2.out _).mono ?_)); rintro e w' ⟨rfl, q, rfl⟩)
  | (go_at_call 153; (with_reducible refine (z02 K3.out _).mono ?_); rintro e w' ⟨rfl, q, rfl⟩)
  | (go_at_call 152; (with_reducible refine (z02 K4.out _).mono ?_); rintro e w' ⟨rfl, q, rfl⟩))
 clear K1 K2 K3 K4
 by_cases g1 : 0 < z
 · have t1 : decide (0 < z) = true := zt g1
   by_cases g2 : b < 0
   · have t2 : decide (b < 0) = true := zt g2
     cases ok with
     | false =>
      obtain ⟨i1, i2, i3, i4⟩ := H.out
      obtain ⟨m, hm⟩ : ∃ t, -S = t := ⟨_, rfl⟩
      have wm : wrap64 (-S) = m := by rw [hm]; exact IntWalk.wrap64_in _ (by omega)
      have vm : IntKind.i64.wrap (-S) = m := by rw [hm, i64w]; omega
      obtain ⟨n, hn⟩ : ∃ t, m - b = t := ⟨_, rfl⟩
      have wn : wrap64 (m - b) = n := by rw [hn]; exact IntWalk.wrap64_in _ (by omega)
      have vn : IntKind.i64.wrap (m - b) = n := by rw [hn, i64w]; omega
      have hx : x1 = 0 ∧ x2 = 0 ∧ xk = false := by
       have h := HX'.out
       rw [if_neg (fun e => by cases e.1)] at h
       simpa only [Prod.mk.injEq, and_assoc] using h
      clear H H0 HP HX' i1 i2 i3 i4 hm hn g1 g2
      have HE := zh hx
      clear hx
      go_wp2
      have kr := bkp2 (k_r.below q.h) (.int .i64 0) (.int .i64 0)
      have rc := rwc2 kr
      exact bodyPost_ret (v := .tuple #[.agg #[.int .i64 0, .int .i64 0], .bool false]) (by simp [results, results146, go_sem, rc]) rfl ⟨by rw [HE.out.1, HE.out.2.1, HE.out.2.2], blp2 (z00 B1 q) (by omega)⟩
     | true =>
      have a1 : 1 ≤ a := by
       have j0 := H0.out
       have j1 := H.out.2.2.1
       by_cases j : a = 0
       · have := (j0 j).1; omega
       · omega
      have a2 := HP.out rfl g1 g2 a1
      obtain ⟨i1, i2, i3, i4⟩ := H.out
      obtain ⟨m, hm⟩ : ∃ t, -S = t := ⟨_, rfl⟩
      have wm : wrap64 (-S) = m := by rw [hm]; exact IntWalk.wrap64_in _ (by omega)
      have vm : IntKind.i64.wrap (-S) = m := by rw [hm, i64w]; omega
      obtain ⟨n, hn⟩ : ∃ t, m - b = t := ⟨_, rfl⟩
      have wn : wrap64 (m - b) = n := by rw [hn]; exact IntWalk.wrap64_in _ (by omega)
      have vn : IntKind.i64.wrap (m - b) = n := by rw [hn, i64w]; omega
      have hx : x1 = n ∧ x2 = a ∧ xk = true := by
       have h := HX'.out
       rw [if_pos ⟨rfl, a1⟩, show ballF a b z S = ((n, a), true) by unfold ballF; rw [if_pos ⟨g1, g2⟩, show -b - S = n by omega]] at h
       simpa only [Prod.mk.injEq, and_assoc] using h
      have tz : decide (n ≤ 0) = false := zf (by omega)
      have okm : fmakeOk n a = true := zt ⟨by omega, by omega, by omega⟩
      have KM := zh (fun w => frac_Make n a w (by unfold I64; omega) (by unfold I64; omega))
      rw [show fmake n a = (n, a) by unfold fmake; rw [if_pos okm, if_neg (by omega)], okm] at KM
      dsimp only at KM
      clear okm
      clear H H0 HP HX' i1 i2 i3 i4 hm hn g1 g2 a1 a2
      have HE := zh hx
      clear hx
      go_wp2_with ((go_at_call 125; (with_reducible refine (z02 KM.out _).mono ?_); rintro e w' ⟨rfl, q, rfl⟩))
      have kr := bkp2 (k_r.below q.h) (.int .i64 n) (.int .i64 a)
      have rc := rwc2 kr
      exact bodyPost_ret (v := .tuple #[.agg #[n, a], .bool true]) (by simp [results, results146, go_sem, rc]) rfl ⟨by rw [HE.out.1, HE.out.2.1, HE.out.2.2], blp2 (z00 B1 q) (by omega)⟩
   · have t2 : decide (b < 0) = false := zf g2
     cases ok with
     | false =>
      obtain ⟨i1, i2, i3, i4⟩ := H.out
      have hx : x1 = 0 ∧ x2 = 0 ∧ xk = false := by
       have h := HX'.out
       rw [if_neg (fun e => by cases e.1)] at h
       simpa only [Prod.mk.injEq, and_assoc] using h
      clear H H0 HP HX' i1 i2 i3 i4 g1 g2
      have HE := zh hx
      clear hx
      go_wp2
      have kr := bkp2 (k_r.below q.h) (.int .i64 0) (.int .i64 0)
      have rc := rwc2 kr
      exact bodyPost_ret (v := .tuple #[.agg #[.int .i64 0, .int .i64 0], .bool false]) (by simp [results, results146, go_sem, rc]) rfl ⟨by rw [HE.out.1, HE.out.2.1, HE.out.2.2], blp2 (z00 B1 q) (by omega)⟩
     | true =>
      obtain ⟨i1, i2, i3, i4⟩ := H.out
      have hx : x1 = 0 ∧ x2 = 0 ∧ xk = false := by
       have h := HX'.out
       rw [show ballF a b z S = ((0, 0), false) by unfold ballF; rw [if_neg (by omega), if_neg (by omega)], ite_self] at h
       simpa only [Prod.mk.injEq, and_assoc] using h
      have tz : decide ((0 : Int) ≤ 0) = true := rfl
      clear H H0 HP HX' i1 i2 i3 i4 g1 g2
      have HE := zh hx
      clear hx
      go_wp2
      have kr := bkp2 (k_r.below q.h) (.int .i64 0) (.int .i64 0)
      have rc := rwc2 kr
      exact bodyPost_ret (v := .tuple #[.agg #[.int .i64 0, .int .i64 0], .bool false]) (by simp [results, results146, go_sem, rc]) rfl ⟨by rw [HE.out.1, HE.out.2.1, HE.out.2.2], blp2 (z00 B1 q) (by omega)⟩
 · have t1 : decide (0 < z) = false := zf g1
   cases ok with
   | false =>
    obtain ⟨i1, i2, i3, i4⟩ := H.out
    obtain ⟨n, hn⟩ : ∃ t, S - b = t := ⟨_, rfl⟩
    have wn : wrap64 (S - b) = n := by rw [hn]; exact IntWalk.wrap64_in _ (by omega)
    have vn : IntKind.i64.wrap (S - b) = n := by rw [hn, i64w]; omega
    have hx : x1 = 0 ∧ x2 = 0 ∧ xk = false := by
     have h := HX'.out
     rw [if_neg (fun e => by cases e.1)] at h
     simpa only [Prod.mk.injEq, and_assoc] using h
    clear H H0 HP HX' i1 i2 i3 i4 hn g1
    have HE := zh hx
    clear hx
    go_wp2
    have kr := bkp2 (k_r.below q.h) (.int .i64 0) (.int .i64 0)
    have rc := rwc2 kr
    exact bodyPost_ret (v := .tuple #[.agg #[.int .i64 0, .int .i64 0], .bool false]) (by simp [results, results146, go_sem, rc]) rfl ⟨by rw [HE.out.1, HE.out.2.1, HE.out.2.2], blp2 (z00 B1 q) (by omega)⟩
   | true =>
    by_cases g3 : S - b ≤ 0
    · obtain ⟨i1, i2, i3, i4⟩ := H.out
      obtain ⟨n, hn⟩ : ∃ t, S - b = t := ⟨_, rfl⟩
      have wn : wrap64 (S - b) = n := by rw [hn]; exact IntWalk.wrap64_in _ (by omega)
      have vn : IntKind.i64.wrap (S - b) = n := by rw [hn, i64w]; omega
      have hx : x1 = 0 ∧ x2 = 0 ∧ xk = false := by
       have h := HX'.out
       rw [show ballF a b z S = ((0, 0), false) by unfold ballF; rw [if_neg (by omega), if_neg (by omega)], ite_self] at h
       simpa only [Prod.mk.injEq, and_assoc] using h
      have tz : decide (n ≤ 0) = true := zt (by omega)
      clear H H0 HP HX' i1 i2 i3 i4 hn g1 g3
      have HE := zh hx
      clear hx
      go_wp2
      have kr := bkp2 (k_r.below q.h) (.int .i64 0) (.int .i64 0)
      have rc := rwc2 kr
      exact bodyPost_ret (v := .tuple #[.agg #[.int .i64 0, .int .i64 0], .bool false]) (by simp [results, results146, go_sem, rc]) rfl ⟨by rw [HE.out.1, HE.out.2.1, HE.out.2.2], blp2 (z00 B1 q) (by omega)⟩
    · have a1 : 1 ≤ a := by
       have j0 := H0.out
       have j1 := H.out.2.2.1
       by_cases j : a = 0
       · have := j0 j; omega
       · omega
      obtain ⟨i1, i2, i3, i4⟩ := H.out
      obtain ⟨n, hn⟩ : ∃ t, S - b = t := ⟨_, rfl⟩
      have wn : wrap64 (S - b) = n := by rw [hn]; exact IntWalk.wrap64_in _ (by omega)
      have vn : IntKind.i64.wrap (S - b) = n := by rw [hn, i64w]; omega
      have hx : x1 = n ∧ x2 = a ∧ xk = true := by
       have h := HX'.out
       rw [if_pos ⟨rfl, a1⟩, show ballF a b z S = ((n, a), true) by unfold ballF; rw [if_neg (by omega), if_pos ⟨by omega, by omega⟩, show S - b = n by omega]] at h
       simpa only [Prod.mk.injEq, and_assoc] using h
      have tz : decide (n ≤ 0) = false := zf (by omega)
      have okm : fmakeOk n a = true := zt ⟨by omega, by omega, by omega⟩
      have KM := zh (fun w => frac_Make n a w (by unfold I64; omega) (by unfold I64; omega))
      rw [show fmake n a = (n, a) by unfold fmake; rw [if_pos okm, if_neg (by omega)], okm] at KM
      dsimp only at KM
      clear okm
      clear H H0 HP HX' i1 i2 i3 i4 hn g1 g3 a1
      have HE := zh hx
      clear hx
      go_wp2_with ((go_at_call 125; (with_reducible refine (z02 KM.out _).mono ?_); rintro e w' ⟨rfl, q, rfl⟩))
      have kr := bkp2 (k_r.below q.h) (.int .i64 n) (.int .i64 a)
      have rc := rwc2 kr
      exact bodyPost_ret (v := .tuple #[.agg #[n, a], .bool true]) (by simp [results, results146, go_sem, rc]) rfl ⟨by rw [HE.out.1, HE.out.2.1, HE.out.2.2], blp2 (z00 B1 q) (by omega)⟩
theorem ball_meet (c1 c2 c3 o1 o2 o3 d1 d2 d3 fr z : Int) (w : World) (h1 : plc (c1, c2, c3) = true) (h2 : plc (o1, o2, o3) = true) (hz : -3298534883328 ≤ z ∧ z ≤ 3298534883328) :
  Rt prog 146 #[.agg #[c1, c2, c3], .agg #[o1, o2, o3, d1, d2, d3, fr], z] w (.tuple #[.agg #[.int .i64 (ballG (vdot d1 d2 d3 d1 d2 d3) (vdot (o1 - c1) (o2 - c2) (o3 - c3) d1 d2 d3) z).1.1, .int .i64 (ballG (vdot d1 d2 d3 d1 d2 d3) (vdot (o1 - c1) (o2 - c2) (o3 - c3) d1 d2 d3) z).1.2], .bool (ballG (vdot d1 d2 d3 d1 d2 d3) (vdot (o1 - c1) (o2 - c2) (o3 - c3) d1 d2 d3) z).2]) := by
 have ha := vdot_in d1 d2 d3 d1 d2 d3
 have ha0 := vdot_self d1 d2 d3
 have hb := vdot_in (o1 - c1) (o2 - c2) (o3 - c3) d1 d2 d3
 have h00 : vdot d1 d2 d3 d1 d2 d3 = 0 → vdot (o1 - c1) (o2 - c2) (o3 - c3) d1 d2 d3 = 0 := fun e => by
  unfold vdot at e ⊢
  by_cases hn : vnear d1 d2 d3 = true
  · rw [if_pos ⟨hn, hn⟩] at e
    have a4 := z0i d1; have a5 := z0i d2; have a6 := z0i d3
    have z1 : d1 = 0 := sq_zero (by omega)
    have z2 : d2 = 0 := sq_zero (by omega)
    have z3 : d3 = 0 := sq_zero (by omega)
    rw [z1, z2, z3]
    split <;> simp
  · rw [if_neg (fun e => hn e.2)]
 obtain ⟨a, ea⟩ : ∃ a, vdot d1 d2 d3 d1 d2 d3 = a := ⟨_, rfl⟩
 obtain ⟨b, eb⟩ : ∃ b, vdot (o1 - c1) (o2 - c2) (o3 - c3) d1 d2 d3 = b := ⟨_, rfl⟩
 rw [ea] at ha ha0 h00 ⊢
 rw [eb] at hb h00 ⊢
 have sx := mul_in (x := b) (a := b) (N := 3298534883328) (M := 3298534883328) (by omega) (by omega)
 have sy := mul_in (x := a) (a := z) (N := 3298534883328) (M := 3298534883328) (by omega) (by omega)
 have hS : 0 ≤ ((if b * b - a * z < 0 then 0 else isq (b * b - a * z).toNat : Nat) : Int) ∧ ((if b * b - a * z < 0 then 0 else isq (b * b - a * z).toNat : Nat) : Int) ≤ 8796093022208 := by
  split
  · omega
  · have h := isq_lt (n := (b * b - a * z).toNat) (k := 8796093022208) (by omega)
    omega
 obtain ⟨S, hs0⟩ : ∃ S : Int, ((if b * b - a * z < 0 then 0 else isq (b * b - a * z).toNat : Nat) : Int) = S := ⟨_, rfl⟩
 rw [hs0] at hS
 refine ball_meet_any c1 c2 c3 o1 o2 o3 d1 d2 d3 fr z a b S _ _ w _ _ h1 h2 ea eb hb ⟨ha0, ha.2⟩ hz hs0 rfl hS (fun e => ?_) (fun e1 e2 e3 e4 => ?_) ?_
 · have hb0 := h00 e
   refine ⟨hb0, ?_⟩
   rw [← hs0, e, hb0]
   simp
   decide
 · have e1' := of_decide_eq_true e1
   rw [if_neg (by omega)] at hs0
   have s1 := (isq_spec (b * b - a * z).toNat).1
   have pz : 0 < a * z := Int.mul_pos (by omega) e2
   refine sq_le_of hS.1 ?_ e3
   have : ((isq (b * b - a * z).toNat * isq (b * b - a * z).toNat : Nat) : Int) ≤ ((b * b - a * z).toNat : Int) := Int.ofNat_le.2 s1
   rw [Int.natCast_mul, hs0] at this
   omega
 · show ballG a b z = _
   unfold ballG
   by_cases hd : 0 ≤ b * b - a * z
   · rw [if_neg (by omega)] at hs0
     rw [hs0]
     simp [hd]
   · rw [if_neg (fun e => hd e.1), if_neg (fun e => hd (of_decide_eq_true e.1))]
theorem ball_Hit_no (c1 c2 c3 r o1 o2 o3 d1 d2 d3 fr : Int) (w : World) (hc : I3 (c1, c2, c3)) (hr : I64 r) (hp : (ballR (c1, c2, c3) r && plc (o1, o2, o3)) = false) :
  Rt prog 131 #[.agg #[c1, c2, c3], r, .agg #[o1, o2, o3, d1, d2, d3, fr]] w (.tuple #[.agg #[.int .i64 0, .int .i64 0], .bool false]) := by
 have KR := zh (fun w => ball_Right c1 c2 c3 r w hc hr)
 have KP := zh (fun w => tri_Place o1 o2 o3 w)
 generalize ballR (c1, c2, c3) r = e1 at *
 generalize plc (o1, o2, o3) = e2 at *
 clear hc hr
 cases e1 with
 | false =>
  clear hp
  go_enter func131, ntmps131
  go_upto_region 1 with (fail)
  refine wst3 fun W1 kc ky k_r B1 => ?_
  have ly : w.heap.size < w.heap.size + 1 := by omega
  have lr : w.heap.size + 1 < w.heap.size + 1 + 1 := by omega
  generalize w.heap.size + 1 + 1 = gr at *
  generalize w.heap.size + 1 = gy at *
  have cc := bwc3 kc
  have cy := bwc7 ky
  have cr := bwc2 k_r
  have f_r := bwf2 k_r
  refine bws fun p1 => ?_
  go_wp2_with (first
   | (go_at_call 144; (with_reducible refine (z02 KR.out _).mono ?_); rintro e w' ⟨rfl, q, rfl⟩)
   | (go_at_call 145; (with_reducible refine (z02 KP.out _).mono ?_); rintro e w' ⟨rfl, q, rfl⟩))
  have kr := bkp2 (k_r.below q.h) (.int .i64 0) (.int .i64 0)
  have rc := rwc2 kr
  exact bodyPost_ret (v := .tuple #[.agg #[.int .i64 0, .int .i64 0], .bool false]) (by simp [results, results131, go_sem, rc]) rfl ⟨rfl, blp2 (z00 B1 q) (by omega)⟩
 | true =>
  cases e2 with
  | true => cases hp
  | false =>
  clear hp
  go_enter func131, ntmps131
  go_upto_region 1 with (fail)
  refine wst3 fun W1 kc ky k_r B1 => ?_
  have ly : w.heap.size < w.heap.size + 1 := by omega
  have lr : w.heap.size + 1 < w.heap.size + 1 + 1 := by omega
  generalize w.heap.size + 1 + 1 = gr at *
  generalize w.heap.size + 1 = gy at *
  have cc := bwc3 kc
  have cy := bwc7 ky
  have cr := bwc2 k_r
  have f_r := bwf2 k_r
  refine bws fun p1 => ?_
  go_wp2_with (first
   | (go_at_call 144; (with_reducible refine (z02 KR.out _).mono ?_); rintro e w' ⟨rfl, q, rfl⟩)
   | (go_at_call 145; (with_reducible refine (z02 KP.out _).mono ?_); rintro e w' ⟨rfl, q, rfl⟩))
  have kr := bkp2 (k_r.below q.h) (.int .i64 0) (.int .i64 0)
  have rc := rwc2 kr
  exact bodyPost_ret (v := .tuple #[.agg #[.int .i64 0, .int .i64 0], .bool false]) (by simp [results, results131, go_sem, rc]) rfl ⟨rfl, blp2 (z00 B1 q) (by omega)⟩
theorem ball_Hit_yes (c1 c2 c3 r o1 o2 o3 d1 d2 d3 fr : Int) (w : World) (hc : I3 (c1, c2, c3)) (hr : I64 r) (hp : ballR (c1, c2, c3) r = true) (h2 : plc (o1, o2, o3) = true) :
  Rt prog 131 #[.agg #[c1, c2, c3], r, .agg #[o1, o2, o3, d1, d2, d3, fr]] w (.tuple #[.agg #[.int .i64 (ballG (vdot d1 d2 d3 d1 d2 d3) (vdot (o1 - c1) (o2 - c2) (o3 - c3) d1 d2 d3) (ballQ (c1, c2, c3) r (o1, o2, o3))).1.1, .int .i64 (ballG (vdot d1 d2 d3 d1 d2 d3) (vdot (o1 - c1) (o2 - c2) (o3 - c3) d1 d2 d3) (ballQ (c1, c2, c3) r (o1, o2, o3))).1.2], .bool (ballG (vdot d1 d2 d3 d1 d2 d3) (vdot (o1 - c1) (o2 - c2) (o3 - c3) d1 d2 d3) (ballQ (c1, c2, c3) r (o1, o2, o3))).2]) := by
 have h1 := (ballR_iff.1 hp).1
 have h3 := (ballR_iff.1 hp).2
 have KR := zh (fun w => ball_Right c1 c2 c3 r w hc hr)
 have KP := zh (fun w => tri_Place o1 o2 o3 w)
 rw [hp] at KR
 rw [h2] at KP
 have KQ := zh (fun w => ball_beyond c1 c2 c3 r o1 o2 o3 w h1 h2 h3)
 have hq := ballQ_in h1 h2 h3
 generalize ballQ (c1, c2, c3) r (o1, o2, o3) = z at *
 have KM := zh (fun w => ball_meet c1 c2 c3 o1 o2 o3 d1 d2 d3 fr z w h1 h2 hq)
 generalize ballG (vdot d1 d2 d3 d1 d2 d3) (vdot (o1 - c1) (o2 - c2) (o3 - c3) d1 d2 d3) z = G at *
 obtain ⟨⟨x1, x2⟩, xk⟩ := G
 dsimp only at KM ⊢
 clear h1 h2 h3 hp hc hr hq
 go_enter func131, ntmps131
 go_upto_region 1 with (fail)
 refine wst3 fun W1 kc ky k_r B1 => ?_
 have ly : w.heap.size < w.heap.size + 1 := by omega
 have lr : w.heap.size + 1 < w.heap.size + 1 + 1 := by omega
 generalize w.heap.size + 1 + 1 = gr at *
 generalize w.heap.size + 1 = gy at *
 have cc := bwc3 kc
 have cy := bwc7 ky
 have cr := bwc2 k_r
 have f_r := bwf2 k_r
 refine bws fun p1 => ?_
 go_upto_region 3 with (first
  | (go_at_call 144; (with_reducible refine (z02 KR.out _).mono ?_); rintro e w' ⟨rfl, q, rfl⟩)
  | (go_at_call 145; (with_reducible refine (z02 KP.out _).mono ?_); rintro e w' ⟨rfl, q, rfl⟩))
 refine z0h 10 (by kernel_rfl) (by kernel_rfl) (by kernel_rfl) ?_
 simp only [List.take_succ_cons, List.take_zero, List.drop_succ_cons, List.drop_zero]
 repeat (go_big_quiet_step (first
  | (go_at_call 147; (with_reducible exact z02 KQ.out _))
  | (go_at_call 146; (with_reducible exact z02 KM.out _))))
 refine wpQuiet_nil ?_
 intro _ hw'
 obtain ⟨q, rfl⟩ := hw'
 go_wp2
 have kr := bkp2 (k_r.below q.h) (.int .i64 x1) (.int .i64 x2)
 have rc := rwc2 kr
 exact bodyPost_ret (v := .tuple #[.agg #[x1, x2], .bool xk]) (by simp [results, results131, go_sem, rc]) rfl ⟨rfl, blp2 (z00 B1 q) (by omega)⟩
theorem ball_Hit (c1 c2 c3 r o1 o2 o3 d1 d2 d3 fr : Int) (w : World) (hc : I3 (c1, c2, c3)) (hr : I64 r) (ho : I3 (o1, o2, o3)) (hd : I3 (d1, d2, d3)) :
  Rt prog 131 #[.agg #[c1, c2, c3], r, .agg #[o1, o2, o3, d1, d2, d3, fr]] w (.tuple #[.agg #[(ballH (c1, c2, c3) r (o1, o2, o3) (d1, d2, d3)).1.1, (ballH (c1, c2, c3) r (o1, o2, o3) (d1, d2, d3)).1.2], .bool (ballH (c1, c2, c3) r (o1, o2, o3) (d1, d2, d3)).2]) := by
 by_cases hp : ballR (c1, c2, c3) r = true ∧ plc (o1, o2, o3) = true
 · rw [ballH_G hp.1 hp.2]
   exact ball_Hit_yes c1 c2 c3 r o1 o2 o3 d1 d2 d3 fr w hc hr hp.1 hp.2
 · rw [show ballH (c1, c2, c3) r (o1, o2, o3) (d1, d2, d3) = ((0, 0), false) by
    unfold ballH ballM
    rw [if_neg]
    rintro ⟨h, _⟩
    simp only [Bool.and_eq_true] at h
    exact hp ⟨h.1, h.2.1⟩]
   exact ball_Hit_no c1 c2 c3 r o1 o2 o3 d1 d2 d3 fr w hc hr (by rw [Bool.eq_false_iff, Ne, Bool.and_eq_true]; exact hp)
theorem ball_Through_no (c1 c2 c3 r o1 o2 o3 d1 d2 d3 fr : Int) (w : World) (hc : I3 (c1, c2, c3)) (hr : I64 r) (hp : (ballR (c1, c2, c3) r && plc (o1, o2, o3)) = false) :
  Rt prog 130 #[.agg #[c1, c2, c3], r, .agg #[o1, o2, o3, d1, d2, d3, fr]] w (.tuple #[.agg #[.int .i64 0, .int .i64 0], .bool false]) := by
 have KR := zh (fun w => ball_Right c1 c2 c3 r w hc hr)
 have KP := zh (fun w => tri_Place o1 o2 o3 w)
 generalize ballR (c1, c2, c3) r = e1 at *
 generalize plc (o1, o2, o3) = e2 at *
 clear hc hr
 cases e1 with
 | false =>
  clear hp
  go_enter func130, ntmps130
  go_upto_region 1 with (fail)
  refine wst3 fun W1 kc ky k_r B1 => ?_
  have ly : w.heap.size < w.heap.size + 1 := by omega
  have lr : w.heap.size + 1 < w.heap.size + 1 + 1 := by omega
  generalize w.heap.size + 1 + 1 = gr at *
  generalize w.heap.size + 1 = gy at *
  have cc := bwc3 kc
  have cy := bwc7 ky
  have cr := bwc2 k_r
  have f_r := bwf2 k_r
  refine bws fun p1 => ?_
  go_wp2_with (first
   | (go_at_call 144; (with_reducible refine (z02 KR.out _).mono ?_); rintro e w' ⟨rfl, q, rfl⟩)
   | (go_at_call 145; (with_reducible refine (z02 KP.out _).mono ?_); rintro e w' ⟨rfl, q, rfl⟩))
  have kr := bkp2 (k_r.below q.h) (.int .i64 0) (.int .i64 0)
  have rc := rwc2 kr
  exact bodyPost_ret (v := .tuple #[.agg #[.int .i64 0, .int .i64 0], .bool false]) (by simp [results, results130, go_sem, rc]) rfl ⟨rfl, blp2 (z00 B1 q) (by omega)⟩
 | true =>
  cases e2 with
  | true => cases hp
  | false =>
  clear hp
  go_enter func130, ntmps130
  go_upto_region 1 with (fail)
  refine wst3 fun W1 kc ky k_r B1 => ?_
  have ly : w.heap.size < w.heap.size + 1 := by omega
  have lr : w.heap.size + 1 < w.heap.size + 1 + 1 := by omega
  generalize w.heap.size + 1 + 1 = gr at *
  generalize w.heap.size + 1 = gy at *
  have cc := bwc3 kc
  have cy := bwc7 ky
  have cr := bwc2 k_r
  have f_r := bwf2 k_r
  refine bws fun p1 => ?_
  go_wp2_with (first
   | (go_at_call 144; (with_reducible refine (z02 KR.out _).mono ?_); rintro e w' ⟨rfl, q, rfl⟩)
   | (go_at_call 145; (with_reducible refine (z02 KP.out _).mono ?_); rintro e w' ⟨rfl, q, rfl⟩))
  have kr := bkp2 (k_r.below q.h) (.int .i64 0) (.int .i64 0)
  have rc := rwc2 kr
  exact bodyPost_ret (v := .tuple #[.agg #[.int .i64 0, .int .i64 0], .bool false]) (by simp [results, results130, go_sem, rc]) rfl ⟨rfl, blp2 (z00 B1 q) (by omega)⟩
theorem ball_Through_yes (c1 c2 c3 r o1 o2 o3 d1 d2 d3 fr : Int) (w : World) (hc : I3 (c1, c2, c3)) (hr : I64 r) (hp : ballR (c1, c2, c3) r = true) (h2 : plc (o1, o2, o3) = true) :
  Rt prog 130 #[.agg #[c1, c2, c3], r, .agg #[o1, o2, o3, d1, d2, d3, fr]] w (.tuple #[.agg #[.int .i64 (ballG (vdot d1 d2 d3 d1 d2 d3) (vdot (o1 - c1) (o2 - c2) (o3 - c3) d1 d2 d3) 0).1.1, .int .i64 (ballG (vdot d1 d2 d3 d1 d2 d3) (vdot (o1 - c1) (o2 - c2) (o3 - c3) d1 d2 d3) 0).1.2], .bool (ballG (vdot d1 d2 d3 d1 d2 d3) (vdot (o1 - c1) (o2 - c2) (o3 - c3) d1 d2 d3) 0).2]) := by
 have h1 := (ballR_iff.1 hp).1
 have h3 := (ballR_iff.1 hp).2
 have KR := zh (fun w => ball_Right c1 c2 c3 r w hc hr)
 have KP := zh (fun w => tri_Place o1 o2 o3 w)
 rw [hp] at KR
 rw [h2] at KP
 have KM := zh (fun w => ball_meet c1 c2 c3 o1 o2 o3 d1 d2 d3 fr 0 w h1 h2 (by omega))
 generalize ballG (vdot d1 d2 d3 d1 d2 d3) (vdot (o1 - c1) (o2 - c2) (o3 - c3) d1 d2 d3) 0 = G at *
 obtain ⟨⟨x1, x2⟩, xk⟩ := G
 dsimp only at KM ⊢
 clear h1 h2 h3 hp hc hr
 go_enter func130, ntmps130
 go_upto_region 1 with (fail)
 refine wst3 fun W1 kc ky k_r B1 => ?_
 have ly : w.heap.size < w.heap.size + 1 := by omega
 have lr : w.heap.size + 1 < w.heap.size + 1 + 1 := by omega
 generalize w.heap.size + 1 + 1 = gr at *
 generalize w.heap.size + 1 = gy at *
 have cc := bwc3 kc
 have cy := bwc7 ky
 have cr := bwc2 k_r
 have f_r := bwf2 k_r
 refine bws fun p1 => ?_
 go_upto_region 3 with (first
  | (go_at_call 144; (with_reducible refine (z02 KR.out _).mono ?_); rintro e w' ⟨rfl, q, rfl⟩)
  | (go_at_call 145; (with_reducible refine (z02 KP.out _).mono ?_); rintro e w' ⟨rfl, q, rfl⟩))
 go_wp2_with ((go_at_call 146; (with_reducible refine (z02 KM.out _).mono ?_); rintro e w' ⟨rfl, q, rfl⟩))
 have kr := bkp2 (k_r.below q.h) (.int .i64 x1) (.int .i64 x2)
 have rc := rwc2 kr
 exact bodyPost_ret (v := .tuple #[.agg #[x1, x2], .bool xk]) (by simp [results, results130, go_sem, rc]) rfl ⟨rfl, blp2 (z00 B1 q) (by omega)⟩
theorem ball_Through (c1 c2 c3 r o1 o2 o3 d1 d2 d3 fr : Int) (w : World) (hc : I3 (c1, c2, c3)) (hr : I64 r) (ho : I3 (o1, o2, o3)) (hd : I3 (d1, d2, d3)) :
  Rt prog 130 #[.agg #[c1, c2, c3], r, .agg #[o1, o2, o3, d1, d2, d3, fr]] w (.tuple #[.agg #[(ballT (c1, c2, c3) r (o1, o2, o3) (d1, d2, d3)).1.1, (ballT (c1, c2, c3) r (o1, o2, o3) (d1, d2, d3)).1.2], .bool (ballT (c1, c2, c3) r (o1, o2, o3) (d1, d2, d3)).2]) := by
 by_cases hp : ballR (c1, c2, c3) r = true ∧ plc (o1, o2, o3) = true
 · rw [ballT_G hp.1 hp.2]
   exact ball_Through_yes c1 c2 c3 r o1 o2 o3 d1 d2 d3 fr w hc hr hp.1 hp.2
 · rw [show ballT (c1, c2, c3) r (o1, o2, o3) (d1, d2, d3) = ((0, 0), false) by
    unfold ballT ballM
    rw [if_neg]
    rintro ⟨h, _⟩
    simp only [Bool.and_eq_true] at h
    exact hp ⟨h.1, h.2.1⟩]
   exact ball_Through_no c1 c2 c3 r o1 o2 o3 d1 d2 d3 fr w hc hr (by rw [Bool.eq_false_iff, Ne, Bool.and_eq_true]; exact hp)
end
end Go.Proofs.YtbmpmjdlaahekaaGreat
