/- Contracts of the document's own answers, layer 12 (all but Hit). Contr -/
import Derived.Test.YtbmpmjdlaahekaaGreatWs21
set_option maxRecDepth 100000
set_option maxHeartbeats 8000000
set_option linter.unusedVariables false
set_option linter.unusedSimpArgs false
open Go.Proofs.Tryz
namespace Go.Proofs.YtbmpmjdlaahekaaGreat
section
section
open Go.RowKit Go.Proofs.Sky
theorem ref12_Right (c1 c2 c3 r : Int) (w : World) :
  Rt prog 48 #[.agg #[c1, c2, c3], r] w (.bool (ballR (c1, c2, c3) r)) := by
 have KP := zh (fun w => z0v c1 c2 c3 w)
 rw [ballR_eq]
 generalize plc (c1, c2, c3) = e1 at *
 obtain ⟨e2, h2⟩ := nmd (decide (4 ≤ r))
 obtain ⟨e3, h3⟩ := nmd (decide (r ≤ 262144))
 rw [← h2, ← h3]
 replace h2 := h2.symm
 replace h3 := h3.symm
 go_enter func48, ntmps48
 go_upto_region 1 with (fail)
 refine wst1 fun W1 kc B1 => ?_
 have cc := bwc3 kc
 refine bws fun p1 => ?_
 rcases e1 with _ | _ <;> rcases e2 with _ | _ <;> rcases e3 with _ | _
 all_goals
  go_wp2_with ((go_at_call 19; (with_reducible refine (z02 KP.out _).mono ?_); rintro e w' ⟨rfl, q, rfl⟩))
  go_ret
  exact ⟨rfl, z00 B1 _⟩
theorem ref12_may (c1 c2 c3 r o1 o2 o3 d1 d2 d3 fr : Int) (w : World) :
  Rt prog 117 #[.agg #[c1, c2, c3], r, .agg #[o1, o2, o3, d1, d2, d3, fr]] w (.bool (ballM (c1, c2, c3) r (o1, o2, o3) (d1, d2, d3))) := by
 have KR := zh (fun w => ref12_Right c1 c2 c3 r w)
 have KP := zh (fun w => z0v o1 o2 o3 w)
 have KN := zh (fun w => z0b d1 d2 d3 w)
 rw [show vnear d1 d2 d3 = nrT (d1, d2, d3) from rfl] at KN
 unfold ballM
 generalize ballR (c1, c2, c3) r = e1 at *
 generalize plc (o1, o2, o3) = e2 at *
 generalize nrT (d1, d2, d3) = e3 at *
 by_cases n1 : d1 = 0
 · subst n1
   by_cases n2 : d2 = 0
   · subst n2
     by_cases n3 : d3 = 0
     · subst n3
       rw [show isZ (0, 0, 0) = true by decide]
       go_enter func117, ntmps117
       go_upto_region 1 with (fail)
       refine wst2 fun W1 kc ky B1 => ?_
       have ly : w.heap.size < w.heap.size + 1 := by omega
       generalize w.heap.size + 1 = gy at *
       have cc := bwc3 kc
       have cy := bwc7 ky
       refine bws fun p1 => ?_
       rcases e1 with _ | _ <;> rcases e2 with _ | _ <;> rcases e3 with _ | _
       all_goals
        go_wp2_with (first
         | (go_at_call 48; (with_reducible refine (z02 KR.out _).mono ?_); rintro e w' ⟨rfl, q, rfl⟩)
         | (go_at_call 19; (with_reducible refine (z02 KP.out _).mono ?_); rintro e w' ⟨rfl, q, rfl⟩)
         | (go_at_call 20; (with_reducible refine (z02 KN.out _).mono ?_); rintro e w' ⟨rfl, q, rfl⟩))
        go_ret
        exact ⟨rfl, z00 B1 _⟩
     · rw [show isZ (0, 0, d3) = false by unfold isZ; simp [n3]]
       go_enter func117, ntmps117
       go_upto_region 1 with (fail)
       refine wst2 fun W1 kc ky B1 => ?_
       have ly : w.heap.size < w.heap.size + 1 := by omega
       generalize w.heap.size + 1 = gy at *
       have cc := bwc3 kc
       have cy := bwc7 ky
       refine bws fun p1 => ?_
       rcases e1 with _ | _ <;> rcases e2 with _ | _ <;> rcases e3 with _ | _
       all_goals
        go_wp2_with (first
         | (go_at_call 48; (with_reducible refine (z02 KR.out _).mono ?_); rintro e w' ⟨rfl, q, rfl⟩)
         | (go_at_call 19; (with_reducible refine (z02 KP.out _).mono ?_); rintro e w' ⟨rfl, q, rfl⟩)
         | (go_at_call 20; (with_reducible refine (z02 KN.out _).mono ?_); rintro e w' ⟨rfl, q, rfl⟩))
        go_ret
        exact ⟨rfl, z00 B1 _⟩
   · rw [show isZ (0, d2, d3) = false by unfold isZ; simp [n2]]
     go_enter func117, ntmps117
     go_upto_region 1 with (fail)
     refine wst2 fun W1 kc ky B1 => ?_
     have ly : w.heap.size < w.heap.size + 1 := by omega
     generalize w.heap.size + 1 = gy at *
     have cc := bwc3 kc
     have cy := bwc7 ky
     refine bws fun p1 => ?_
     rcases e1 with _ | _ <;> rcases e2 with _ | _ <;> rcases e3 with _ | _
     all_goals
      go_wp2_with (first
       | (go_at_call 48; (with_reducible refine (z02 KR.out _).mono ?_); rintro e w' ⟨rfl, q, rfl⟩)
       | (go_at_call 19; (with_reducible refine (z02 KP.out _).mono ?_); rintro e w' ⟨rfl, q, rfl⟩)
       | (go_at_call 20; (with_reducible refine (z02 KN.out _).mono ?_); rintro e w' ⟨rfl, q, rfl⟩))
      go_ret
      exact ⟨rfl, z00 B1 _⟩
 · rw [show isZ (d1, d2, d3) = false by unfold isZ; simp [n1]]
   go_enter func117, ntmps117
   go_upto_region 1 with (fail)
   refine wst2 fun W1 kc ky B1 => ?_
   have ly : w.heap.size < w.heap.size + 1 := by omega
   generalize w.heap.size + 1 = gy at *
   have cc := bwc3 kc
   have cy := bwc7 ky
   refine bws fun p1 => ?_
   rcases e1 with _ | _ <;> rcases e2 with _ | _ <;> rcases e3 with _ | _
   all_goals
    go_wp2_with (first
     | (go_at_call 48; (with_reducible refine (z02 KR.out _).mono ?_); rintro e w' ⟨rfl, q, rfl⟩)
     | (go_at_call 19; (with_reducible refine (z02 KP.out _).mono ?_); rintro e w' ⟨rfl, q, rfl⟩)
     | (go_at_call 20; (with_reducible refine (z02 KN.out _).mono ?_); rintro e w' ⟨rfl, q, rfl⟩))
    go_ret
    exact ⟨rfl, z00 B1 _⟩
theorem ref12_Through_any (c1 c2 c3 r o1 o2 o3 d1 d2 d3 fr b a : Int) (w : World) (hc : I3 (c1, c2, c3)) (ho : I3 (o1, o2, o3)) (hb : vdot (vsub o1 c1) (vsub o2 c2) (vsub o3 c3) d1 d2 d3 = b) (hb2 : -3298534883328 ≤ b ∧ b ≤ 3298534883328) (ha : vdot d1 d2 d3 d1 d2 d3 = a) :
  Rt prog 90 #[.agg #[c1, c2, c3], r, .agg #[o1, o2, o3, d1, d2, d3, fr]] w (.tuple #[.agg #[.int .i64 (if ballM (c1, c2, c3) r (o1, o2, o3) (d1, d2, d3) = true ∧ b < 0 then -2 * b else 0), .int .i64 (if ballM (c1, c2, c3) r (o1, o2, o3) (d1, d2, d3) = true ∧ b < 0 then a else 0)], .bool (decide (ballM (c1, c2, c3) r (o1, o2, o3) (d1, d2, d3) = true ∧ b < 0))]) := by
 have KM := zh (fun w => ref12_may c1 c2 c3 r o1 o2 o3 d1 d2 d3 fr w)
 have KS := zh (fun w => ref6_Sub o1 o2 o3 c1 c2 c3 w ho.1 ho.2.1 ho.2.2 hc.1 hc.2.1 hc.2.2)
 generalize vsub o1 c1 = s1 at *
 generalize vsub o2 c2 = s2 at *
 generalize vsub o3 c3 = s3 at *
 have KB := zh (fun w => ref6_Dot s1 s2 s3 d1 d2 d3 w)
 have KA := zh (fun w => ref6_Dot d1 d2 d3 d1 d2 d3 w)
 rw [hb] at KB
 rw [ha] at KA
 generalize ballM (c1, c2, c3) r (o1, o2, o3) (d1, d2, d3) = e1 at *
 obtain ⟨m, hm⟩ : ∃ m, -2 * b = m := ⟨_, rfl⟩
 have wm : wrap64 (-2 * b) = m := by rw [hm]; exact IntWalk.wrap64_in _ (by omega)
 have vm : IntKind.i64.wrap (-2 * b) = m := by rw [hm, i64w]; omega
 rw [hm]
 clear hb ha hc ho
 cases e1
 all_goals by_cases h : b < 0
 · have t : decide (0 ≤ b) = false := zf (by omega)
   simp [h]
   clear h hm hb2
   go_enter func90, ntmps90
   go_upto_region 1 with (fail)
   refine wst3 fun W1 kc ky k_r B1 => ?_
   have ly : w.heap.size < w.heap.size + 1 := by omega
   have lr : w.heap.size + 1 < w.heap.size + 1 + 1 := by omega
   generalize w.heap.size + 1 + 1 = gr at *
   generalize w.heap.size + 1 = gy at *
   have cc := bwc3 kc
   have cy := bwc7 ky
   have cr := bwc2 k_r
   have f_r := bwf2 k_r
   refine bws fun p1 => ?_
   refine z03 (by kernel_rfl) (by kernel_rfl) ?_
   repeat (go_big_quiet_step (first
    | (go_at_call 21; (with_reducible exact z02 KS.out _))
    | (go_at_call 116; (with_reducible exact z02 KB.out _))))
   refine wpQuiet_nil ?_
   intro _ hw'
   obtain ⟨q, rfl⟩ := hw'
   go_wp2_with (first
    | (go_at_call 117; (with_reducible refine (z02 KM.out _).mono ?_); rintro e w' ⟨rfl, q, rfl⟩)
    | (go_at_call 116; (with_reducible refine (z02 KA.out _).mono ?_); rintro e w' ⟨rfl, q, rfl⟩))
   have kr := bkp2 (k_r.below q.h) (.int .i64 0) (.int .i64 0)
   have rc := rwc2 kr
   exact bodyPost_ret (v := .tuple #[.agg #[.int .i64 0, .int .i64 0], .bool false]) (by simp [results, results90, go_sem, rc]) rfl ⟨rfl, blp2 (z00 B1 q) (by omega)⟩
 · have t : decide (0 ≤ b) = true := zt (by omega)
   simp [h]
   clear h hm hb2
   go_enter func90, ntmps90
   go_upto_region 1 with (fail)
   refine wst3 fun W1 kc ky k_r B1 => ?_
   have ly : w.heap.size < w.heap.size + 1 := by omega
   have lr : w.heap.size + 1 < w.heap.size + 1 + 1 := by omega
   generalize w.heap.size + 1 + 1 = gr at *
   generalize w.heap.size + 1 = gy at *
   have cc := bwc3 kc
   have cy := bwc7 ky
   have cr := bwc2 k_r
   have f_r := bwf2 k_r
   refine bws fun p1 => ?_
   refine z03 (by kernel_rfl) (by kernel_rfl) ?_
   repeat (go_big_quiet_step (first
    | (go_at_call 21; (with_reducible exact z02 KS.out _))
    | (go_at_call 116; (with_reducible exact z02 KB.out _))))
   refine wpQuiet_nil ?_
   intro _ hw'
   obtain ⟨q, rfl⟩ := hw'
   go_wp2_with (first
    | (go_at_call 117; (with_reducible refine (z02 KM.out _).mono ?_); rintro e w' ⟨rfl, q, rfl⟩)
    | (go_at_call 116; (with_reducible refine (z02 KA.out _).mono ?_); rintro e w' ⟨rfl, q, rfl⟩))
   have kr := bkp2 (k_r.below q.h) (.int .i64 0) (.int .i64 0)
   have rc := rwc2 kr
   exact bodyPost_ret (v := .tuple #[.agg #[.int .i64 0, .int .i64 0], .bool false]) (by simp [results, results90, go_sem, rc]) rfl ⟨rfl, blp2 (z00 B1 q) (by omega)⟩
 · have t : decide (0 ≤ b) = false := zf (by omega)
   simp [h]
   clear h hm hb2
   go_enter func90, ntmps90
   go_upto_region 1 with (fail)
   refine wst3 fun W1 kc ky k_r B1 => ?_
   have ly : w.heap.size < w.heap.size + 1 := by omega
   have lr : w.heap.size + 1 < w.heap.size + 1 + 1 := by omega
   generalize w.heap.size + 1 + 1 = gr at *
   generalize w.heap.size + 1 = gy at *
   have cc := bwc3 kc
   have cy := bwc7 ky
   have cr := bwc2 k_r
   have f_r := bwf2 k_r
   refine bws fun p1 => ?_
   refine z03 (by kernel_rfl) (by kernel_rfl) ?_
   repeat (go_big_quiet_step (first
    | (go_at_call 21; (with_reducible exact z02 KS.out _))
    | (go_at_call 116; (with_reducible exact z02 KB.out _))))
   refine wpQuiet_nil ?_
   intro _ hw'
   obtain ⟨q, rfl⟩ := hw'
   go_wp2_with (first
    | (go_at_call 117; (with_reducible refine (z02 KM.out _).mono ?_); rintro e w' ⟨rfl, q, rfl⟩)
    | (go_at_call 116; (with_reducible refine (z02 KA.out _).mono ?_); rintro e w' ⟨rfl, q, rfl⟩))
   have kr := bkp2 (k_r.below q.h) (.int .i64 m) (.int .i64 a)
   have rc := rwc2 kr
   exact bodyPost_ret (v := .tuple #[.agg #[m, a], .bool true]) (by simp [results, results90, go_sem, rc]) rfl ⟨rfl, blp2 (z00 B1 q) (by omega)⟩
 · have t : decide (0 ≤ b) = true := zt (by omega)
   simp [h]
   clear h hm hb2
   go_enter func90, ntmps90
   go_upto_region 1 with (fail)
   refine wst3 fun W1 kc ky k_r B1 => ?_
   have ly : w.heap.size < w.heap.size + 1 := by omega
   have lr : w.heap.size + 1 < w.heap.size + 1 + 1 := by omega
   generalize w.heap.size + 1 + 1 = gr at *
   generalize w.heap.size + 1 = gy at *
   have cc := bwc3 kc
   have cy := bwc7 ky
   have cr := bwc2 k_r
   have f_r := bwf2 k_r
   refine bws fun p1 => ?_
   refine z03 (by kernel_rfl) (by kernel_rfl) ?_
   repeat (go_big_quiet_step (first
    | (go_at_call 21; (with_reducible exact z02 KS.out _))
    | (go_at_call 116; (with_reducible exact z02 KB.out _))))
   refine wpQuiet_nil ?_
   intro _ hw'
   obtain ⟨q, rfl⟩ := hw'
   go_wp2_with (first
    | (go_at_call 117; (with_reducible refine (z02 KM.out _).mono ?_); rintro e w' ⟨rfl, q, rfl⟩)
    | (go_at_call 116; (with_reducible refine (z02 KA.out _).mono ?_); rintro e w' ⟨rfl, q, rfl⟩))
   have kr := bkp2 (k_r.below q.h) (.int .i64 0) (.int .i64 0)
   have rc := rwc2 kr
   exact bodyPost_ret (v := .tuple #[.agg #[.int .i64 0, .int .i64 0], .bool false]) (by simp [results, results90, go_sem, rc]) rfl ⟨rfl, blp2 (z00 B1 q) (by omega)⟩
theorem ref12_Through (c1 c2 c3 r o1 o2 o3 d1 d2 d3 fr : Int) (w : World) (hc : I3 (c1, c2, c3)) (hr : I64 r) (ho : I3 (o1, o2, o3)) (hd : I3 (d1, d2, d3)) :
  Rt prog 90 #[.agg #[c1, c2, c3], r, .agg #[o1, o2, o3, d1, d2, d3, fr]] w (.tuple #[.agg #[(ballT (c1, c2, c3) r (o1, o2, o3) (d1, d2, d3)).1.1, (ballT (c1, c2, c3) r (o1, o2, o3) (d1, d2, d3)).1.2], .bool (ballT (c1, c2, c3) r (o1, o2, o3) (d1, d2, d3)).2]) := by
 by_cases hm : ballM (c1, c2, c3) r (o1, o2, o3) (d1, d2, d3) = true
 · have hm' := hm
   unfold ballM at hm'
   simp only [Bool.and_eq_true] at hm'
   obtain ⟨h1, h2, h3, h4⟩ := hm'
   have h5 := (ballR_iff.1 h1).1
   have es := sbT_vs h2 h5
   dsimp only at es
   have nn := sbT_near h2 h5
   have h := ref12_Through_any c1 c2 c3 r o1 o2 o3 d1 d2 d3 fr (dtT (sbT (o1, o2, o3) (c1, c2, c3)) (d1, d2, d3)) (dtT (d1, d2, d3) (d1, d2, d3)) w hc ho (by rw [← vdot_dtT nn h3, ← es]) (dtT_near nn h3) (vdot_dtT h3 h3)
   unfold ballT
   by_cases hb : dtT (sbT (o1, o2, o3) (c1, c2, c3)) (d1, d2, d3) < 0
   · rw [if_pos ⟨hm, hb⟩]
     rw [if_pos ⟨hm, hb⟩, if_pos ⟨hm, hb⟩, zt ⟨hm, hb⟩] at h
     exact h
   · rw [if_neg (fun e => hb e.2)]
     rw [if_neg (fun e => hb e.2), if_neg (fun e => hb e.2), zf (fun e => hb e.2)] at h
     exact h
 · have h := ref12_Through_any c1 c2 c3 r o1 o2 o3 d1 d2 d3 fr (vdot (vsub o1 c1) (vsub o2 c2) (vsub o3 c3) d1 d2 d3) (vdot d1 d2 d3 d1 d2 d3) w hc ho rfl (vdot_in _ _ _ _ _ _) rfl
   unfold ballT
   rw [if_neg (fun e => hm e.1)]
   rw [if_neg (fun e => hm e.1), if_neg (fun e => hm e.1), zf (fun e => hm e.1)] at h
   exact h
end
end
section
section
open Go.RowKit Go.Proofs.Sky
theorem ref12_Hit_no (c1 c2 c3 r o1 o2 o3 d1 d2 d3 fr : Int) (w : World) (h : ¬ ballM (c1, c2, c3) r (o1, o2, o3) (d1, d2, d3) = true) :
  Rt prog 91 #[.agg #[c1, c2, c3], r, .agg #[o1, o2, o3, d1, d2, d3, fr]] w (.tuple #[.agg #[(ballH (c1, c2, c3) r (o1, o2, o3) (d1, d2, d3)).1.1, (ballH (c1, c2, c3) r (o1, o2, o3) (d1, d2, d3)).1.2], .bool (ballH (c1, c2, c3) r (o1, o2, o3) (d1, d2, d3)).2]) := by
 rw [show ballH (c1, c2, c3) r (o1, o2, o3) (d1, d2, d3) = ((0, 0), false) by unfold ballH; rw [if_neg (fun e => h e.1)]]
 dsimp only
 have KM := zh (fun w => ref12_may c1 c2 c3 r o1 o2 o3 d1 d2 d3 fr w)
 rw [Bool.not_eq_true] at h
 rw [h] at KM
 clear h
 go_enter func91, ntmps91
 go_upto_region 1 with (fail)
 refine wst3 fun W1 kc ky k_r B1 => ?_
 have ly : w.heap.size < w.heap.size + 1 := by omega
 have lr : w.heap.size + 1 < w.heap.size + 1 + 1 := by omega
 generalize w.heap.size + 1 + 1 = gr at *
 generalize w.heap.size + 1 = gy at *
 have cc := bwc3 kc
 have cy := bwc7 ky
 have cr := bwc2 k_r
 have f_r := bwf2 k_r
 refine bws fun p1 => ?_
 go_wp2_with ((go_at_call 117; (with_reducible refine (z02 KM.out _).mono ?_); rintro e w' ⟨rfl, q, rfl⟩))
 have kr := bkp2 (k_r.below q.h) (.int .i64 0) (.int .i64 0)
 have rc := rwc2 kr
 exact bodyPost_ret (v := .tuple #[.agg #[.int .i64 0, .int .i64 0], .bool false]) (by simp [results, results91, go_sem, rc]) rfl ⟨rfl, blp2 (z00 B1 q) (by omega)⟩
theorem ball_bounds {a b q : Int} (ha : 0 ≤ a ∧ a ≤ 3298534883328) (hb : -3298534883328 ≤ b ∧ b ≤ 3298534883328) (hq : -68719476736 ≤ q ∧ q ≤ 3298534883328) :
  (0 ≤ b * b ∧ b * b ≤ 10880332376531662153875584 + 1000000000000000000000000) ∧ (-1000000000000000000000000 ≤ a * q ∧ a * q ≤ 11000000000000000000000000) := by
 have p1 := mul_in (x := b) (a := b) (N := 3298534883328) (M := 3298534883328) hb hb
 have p2 := z0i b
 refine ⟨by omega, ?_⟩
 by_cases h : 0 ≤ q
 · have p3 := Int.mul_nonneg ha.1 h
   have p4 := mul_in (x := a) (a := q) (N := 3298534883328) (M := 3298534883328) (by omega) (by omega)
   omega
 · have p4 := mul_in (x := a) (a := q) (N := 3298534883328) (M := 68719476736) (by omega) (by omega)
   have p5 := Int.mul_nonneg ha.1 (show 0 ≤ -q by omega)
   rw [Int.mul_neg] at p5
   omega
theorem ref12_Hit_yes (c1 c2 c3 r o1 o2 o3 d1 d2 d3 fr : Int) (w : World) (hc : I3 (c1, c2, c3)) (hr : I64 r) (ho : I3 (o1, o2, o3)) (hd : I3 (d1, d2, d3)) (h : ballM (c1, c2, c3) r (o1, o2, o3) (d1, d2, d3) = true) :
  Rt prog 91 #[.agg #[c1, c2, c3], r, .agg #[o1, o2, o3, d1, d2, d3, fr]] w (.tuple #[.agg #[(ballH (c1, c2, c3) r (o1, o2, o3) (d1, d2, d3)).1.1, (ballH (c1, c2, c3) r (o1, o2, o3) (d1, d2, d3)).1.2], .bool (ballH (c1, c2, c3) r (o1, o2, o3) (d1, d2, d3)).2]) := by
 have hm' := h
 unfold ballM at hm'
 simp only [Bool.and_eq_true] at hm'
 obtain ⟨h1, h2, h3, h4⟩ := hm'
 obtain ⟨h5, h6⟩ := ballR_iff.1 h1
 have ir := rr_in h6
 have es := sbT_vs h2 h5
 dsimp only at es
 have nn := sbT_near h2 h5
 have KM := zh (fun w => ref12_may c1 c2 c3 r o1 o2 o3 d1 d2 d3 fr w)
 rw [h] at KM
 have KS := zh (fun w => ref6_Sub o1 o2 o3 c1 c2 c3 w ho.1 ho.2.1 ho.2.2 hc.1 hc.2.1 hc.2.2)
 have b1 := dtT_near h3 h3
 have b2 := dtT_near nn h3
 have b3 := dtT_near nn nn
 have b4 : 0 ≤ dtT (d1, d2, d3) (d1, d2, d3) := by unfold dtT; have := z0i d1; have := z0i d2; have := z0i d3; dsimp only; omega
 have b5 : 0 ≤ dtT (sbT (o1, o2, o3) (c1, c2, c3)) (sbT (o1, o2, o3) (c1, c2, c3)) := by unfold dtT; have := z0i (sbT (o1, o2, o3) (c1, c2, c3)).1; have := z0i (sbT (o1, o2, o3) (c1, c2, c3)).2.1; have := z0i (sbT (o1, o2, o3) (c1, c2, c3)).2.2; omega
 have eh : ballH (c1, c2, c3) r (o1, o2, o3) (d1, d2, d3) = if 0 ≤ ballD (c1, c2, c3) r (o1, o2, o3) (d1, d2, d3) then ballF (dtT (d1, d2, d3) (d1, d2, d3)) (dtT (sbT (o1, o2, o3) (c1, c2, c3)) (d1, d2, d3)) (ballQ (c1, c2, c3) r (o1, o2, o3)) (isq (ballD (c1, c2, c3) r (o1, o2, o3) (d1, d2, d3)).toNat : Int) else ((0, 0), false) := by
  unfold ballH ballS
  by_cases g : 0 ≤ ballD (c1, c2, c3) r (o1, o2, o3) (d1, d2, d3)
  · rw [if_pos ⟨h, g⟩, if_pos g]
  · rw [if_neg (fun e => g e.2), if_neg g]
 rw [eh]
 unfold ballD ballQ
 have v1 := vdot_dtT h3 h3
 have v2 := vdot_dtT nn h3
 have v3 := vdot_dtT nn nn
 rw [← es] at v2 v3
 dsimp only at v1 v2 v3
 generalize vsub o1 c1 = s1 at *
 generalize vsub o2 c2 = s2 at *
 generalize vsub o3 c3 = s3 at *
 rw [← es] at b2 b3 b5 ⊢
 have KA := zh (fun w => ref6_Dot d1 d2 d3 d1 d2 d3 w)
 have KB := zh (fun w => ref6_Dot s1 s2 s3 d1 d2 d3 w)
 have KC := zh (fun w => ref6_Dot s1 s2 s3 s1 s2 s3 w)
 rw [v1] at KA
 rw [v2] at KB
 rw [v3] at KC
 generalize dtT (d1, d2, d3) (d1, d2, d3) = a at *
 generalize dtT (s1, s2, s3) (d1, d2, d3) = b at *
 generalize dtT (s1, s2, s3) (s1, s2, s3) = k at *
 obtain ⟨rr, hrr⟩ : ∃ t, r * r = t := ⟨_, rfl⟩
 have wrr : wrap64 (r * r) = rr := by rw [hrr]; exact IntWalk.wrap64_in _ (by omega)
 have vrr : IntKind.i64.wrap (r * r) = rr := by rw [hrr, i64w]; omega
 rw [hrr] at ir ⊢
 have ir0 : 0 ≤ rr := by rw [← hrr]; exact z0i r
 obtain ⟨qq, hq⟩ : ∃ t, k - rr = t := ⟨_, rfl⟩
 have wq : wrap64 (k - rr) = qq := by rw [hq]; exact IntWalk.wrap64_in _ (by omega)
 have vq : IntKind.i64.wrap (k - rr) = qq := by rw [hq, i64w]; omega
 rw [hq]
 have iq : -68719476736 ≤ qq ∧ qq ≤ 3298534883328 := by omega
 obtain ⟨u1, u2⟩ := ball_bounds ⟨b4, b1.2⟩ b2 iq
 have M1 := zh (fun w => ref2_Mul b b w (by unfold I64; omega) (by unfold I64; omega))
 have M2 := zh (fun w => ref2_Mul a qq w (by unfold I64; omega) (by unfold I64; omega))
 have SB := zh (fun w => ref2_Sub (b * b) (a * qq) w)
 obtain ⟨dd, hdd⟩ : ∃ t, b * b - a * qq = t := ⟨_, rfl⟩
 rw [hdd] at SB ⊢
 have idd : dd ≤ 19342813113834066795298816 := by omega
 have RT := zh (fun w => ref2_Root dd w (by unfold W128; omega))
 have il : isq dd.toNat < 4398046511104 := isq_lt (by omega)
 have HB := zh (And.intro b1 (And.intro b2 (And.intro b4 iq)))
 generalize hii (b * b) = p1 at *
 generalize lon (b * b) = l1 at *
 generalize hii (a * qq) = p2 at *
 generalize lon (a * qq) = l2 at *
 generalize hii dd = p3 at *
 generalize lon dd = l3 at *
 generalize (l1 : Int) = l1 at *
 generalize (l2 : Int) = l2 at *
 generalize (l3 : Int) = l3 at *
 clear v1 v2 v3 es eh nn h h1 h2 h3 h4 h5 h6 b1 b2 b3 b4 b5 ir ir0 u1 u2 hdd hrr hq iq idd hc ho hd hr
 by_cases g : 0 ≤ dd
 rotate_left
 · rw [if_neg g]
   dsimp only
   rw [if_pos (show dd < 0 by omega), zf g] at RT
   clear g il HB
   go_enter func91, ntmps91
   go_upto_region 1 with (fail)
   refine wst3 fun W1 kc ky k_r B1 => ?_
   have ly : w.heap.size < w.heap.size + 1 := by omega
   have lr : w.heap.size + 1 < w.heap.size + 1 + 1 := by omega
   generalize w.heap.size + 1 + 1 = gr at *
   generalize w.heap.size + 1 = gy at *
   have cc := bwc3 kc
   have cy := bwc7 ky
   have cr := bwc2 k_r
   have f_r := bwf2 k_r
   refine bws fun p1 => ?_
   go_upto_region 4 with (first
    | (go_at_call 117; (with_reducible refine (z02 KM.out _).mono ?_); rintro e w' ⟨rfl, q, rfl⟩)
    | (go_at_call 21; (with_reducible refine (z02 KS.out _).mono ?_); rintro e w' ⟨rfl, q, rfl⟩))
   refine wnm fun W2 hW2 => ?_
   have B2 := bwA q hW2 B1
   have lo : gr < q.w.heap.size := (k_r.below q.h).lt
   have oo : w.heap.size ≤ q.w.heap.size := (z00 B1 q).size
   have kc := bka hW2 (kc.below q.h)
   have ky := bka hW2 (ky.below q.h)
   have k_r := bka hW2 (k_r.below q.h)
   have ko := bkn hW2
   clear hW2
   clear B1
   clear cc cy cr f_r
   generalize q.w.heap.size = go at *
   have cc := bwc3 kc
   have cy := bwc7 ky
   have cr := bwc2 k_r
   have f_r := bwf2 k_r
   have co := bwc3 ko
   refine bws fun p2 => ?_
   refine z03 (by kernel_rfl) (by kernel_rfl) ?_
   repeat (go_big_quiet_step ((go_at_call 116; (first | (with_reducible exact z02 KA.out _) | (with_reducible exact z02 KB.out _) | (with_reducible exact z02 KC.out _)))))
   refine wpQuiet_nil ?_
   intro _ hw'
   obtain ⟨q, rfl⟩ := hw'
   go_upto_region 6 with (first
    | (go_at_call 120; (first | (with_reducible refine (z02 M1.out _).mono ?_) | (with_reducible refine (z02 M2.out _).mono ?_)); rintro e w' ⟨rfl, q, rfl⟩)
    | (go_at_call 119; (with_reducible refine (z02 SB.out _).mono ?_); rintro e w' ⟨rfl, q, rfl⟩)
    | (go_at_call 118; (with_reducible refine (z02 RT.out _).mono ?_); rintro e w' ⟨rfl, q, rfl⟩))
   repeat (first | go_values | go_skip | go_guarded | go_step | go_upon)
   have kr := bkp2 (k_r.below q.h) (.int .i64 0) (.int .i64 0)
   have rc := rwc2 kr
   exact bodyPost_ret (v := .tuple #[.agg #[.int .i64 0, .int .i64 0], .bool false]) (by simp [results, results91, go_sem, rc]) rfl ⟨rfl, blp2 (z00 B2 q) (by omega)⟩
 · rw [if_pos g]
   rw [if_neg (show ¬ dd < 0 by omega), zt g] at RT
   generalize isq dd.toNat = s0 at *
   have ws1 : IntKind.i64.wrap (s0 : Int) = (s0 : Int) := by rw [i64w]; omega
   have ws2 : wrap64 (s0 : Int) = (s0 : Int) := IntWalk.wrap64_in _ (by omega)
   have is : 0 ≤ (s0 : Int) ∧ (s0 : Int) < 4398046511104 := by omega
   generalize (s0 : Int) = s at *
   have HI := zh is
   obtain ⟨GG, hGG⟩ := nmd (ballF a b qq s)
   rw [← hGG]
   have HG := zh hGG
   clear hGG g il is
   go_enter func91, ntmps91
   go_upto_region 1 with (fail)
   refine wst3 fun W1 kc ky k_r B1 => ?_
   have ly : w.heap.size < w.heap.size + 1 := by omega
   have lr : w.heap.size + 1 < w.heap.size + 1 + 1 := by omega
   generalize w.heap.size + 1 + 1 = gr at *
   generalize w.heap.size + 1 = gy at *
   have cc := bwc3 kc
   have cy := bwc7 ky
   have cr := bwc2 k_r
   have f_r := bwf2 k_r
   refine bws fun p1 => ?_
   go_upto_region 4 with (first
    | (go_at_call 117; (with_reducible refine (z02 KM.out _).mono ?_); rintro e w' ⟨rfl, q, rfl⟩)
    | (go_at_call 21; (with_reducible refine (z02 KS.out _).mono ?_); rintro e w' ⟨rfl, q, rfl⟩))
   refine wnm fun W2 hW2 => ?_
   have B2 := bwA q hW2 B1
   have lo : gr < q.w.heap.size := (k_r.below q.h).lt
   have oo : w.heap.size ≤ q.w.heap.size := (z00 B1 q).size
   have kc := bka hW2 (kc.below q.h)
   have ky := bka hW2 (ky.below q.h)
   have k_r := bka hW2 (k_r.below q.h)
   have ko := bkn hW2
   clear hW2
   clear B1
   clear cc cy cr f_r
   generalize q.w.heap.size = go at *
   have cc := bwc3 kc
   have cy := bwc7 ky
   have cr := bwc2 k_r
   have f_r := bwf2 k_r
   have co := bwc3 ko
   refine bws fun p2 => ?_
   refine z03 (by kernel_rfl) (by kernel_rfl) ?_
   repeat (go_big_quiet_step ((go_at_call 116; (first | (with_reducible exact z02 KA.out _) | (with_reducible exact z02 KB.out _) | (with_reducible exact z02 KC.out _)))))
   refine wpQuiet_nil ?_
   intro _ hw'
   obtain ⟨q, rfl⟩ := hw'
   go_upto_region 6 with (first
    | (go_at_call 120; (first | (with_reducible refine (z02 M1.out _).mono ?_) | (with_reducible refine (z02 M2.out _).mono ?_)); rintro e w' ⟨rfl, q, rfl⟩)
    | (go_at_call 119; (with_reducible refine (z02 SB.out _).mono ?_); rintro e w' ⟨rfl, q, rfl⟩)
    | (go_at_call 118; (with_reducible refine (z02 RT.out _).mono ?_); rintro e w' ⟨rfl, q, rfl⟩))
   clear KM KS KA KB KC M1 M2 SB RT
   have hb := HB.out
   have hi := HI.out
   clear HB HI
   obtain ⟨nb, hnb⟩ : ∃ t, -b = t := ⟨_, rfl⟩
   obtain ⟨n1, hn1⟩ : ∃ t, nb - s = t := ⟨_, rfl⟩
   obtain ⟨n2, hn2⟩ : ∃ t, s - b = t := ⟨_, rfl⟩
   have wnb : wrap64 (-b) = nb := by rw [hnb]; exact IntWalk.wrap64_in _ (by omega)
   have vnb : IntKind.i64.wrap (-b) = nb := by rw [hnb, i64w]; omega
   have wn1 : wrap64 (nb - s) = n1 := by rw [hn1]; exact IntWalk.wrap64_in _ (by omega)
   have vn1 : IntKind.i64.wrap (nb - s) = n1 := by rw [hn1, i64w]; omega
   have wn2 : wrap64 (s - b) = n2 := by rw [hn2]; exact IntWalk.wrap64_in _ (by omega)
   have vn2 : IntKind.i64.wrap (s - b) = n2 := by rw [hn2, i64w]; omega
   by_cases k1 : 0 < qq
   · by_cases k2 : b < 0
     · have hv : ballF a b qq s = ((n1, a), true) := by
        unfold ballF
        rw [if_pos ⟨k1, k2⟩, hnb, hn1]
       have HV := zh hv
       have t0 : decide (0 < qq) = true := zt (by omega)
       have t1 : decide (b < 0) = true := zt (by omega)
       clear hv k1 k2 hb hi hnb hn1 hn2
       repeat (first | go_values | go_skip | go_guarded | go_step | go_upon)
       have kr := bkp2 (k_r.below q.h) (.int .i64 n1) (.int .i64 a)
       have rc := rwc2 kr
       exact bodyPost_ret (v := .tuple #[.agg #[n1, a], .bool true]) (by simp [results, results91, go_sem, rc]) rfl ⟨by rw [HG.out, HV.out], blp2 (z00 B2 q) (by omega)⟩
     · have hv : ballF a b qq s = ((0, 0), false) := by
        unfold ballF
        rw [if_neg (by omega), if_neg (by omega)]
       have HV := zh hv
       have t0 : decide (0 < qq) = true := zt (by omega)
       have t1 : decide (b < 0) = false := zf (by omega)
       have t2 : decide (qq ≤ 0) = false := zf (by omega)
       clear hv k1 k2 hb hi hnb hn1 hn2
       repeat (first | go_values | go_skip | go_guarded | go_step | go_upon)
       have kr := bkp2 (k_r.below q.h) (.int .i64 0) (.int .i64 0)
       have rc := rwc2 kr
       exact bodyPost_ret (v := .tuple #[.agg #[.int .i64 0, .int .i64 0], .bool false]) (by simp [results, results91, go_sem, rc]) rfl ⟨by rw [HG.out, HV.out], blp2 (z00 B2 q) (by omega)⟩
   · by_cases k2 : 0 < n2
     · have hv : ballF a b qq s = ((n2, a), true) := by
        unfold ballF
        rw [if_neg (by omega), if_pos (by omega), hn2]
       have HV := zh hv
       have t0 : decide (0 < qq) = false := zf (by omega)
       have t1 : decide (qq ≤ 0) = true := zt (by omega)
       have t2 : decide (0 < n2) = true := zt (by omega)
       clear hv k1 k2 hb hi hnb hn1 hn2
       repeat (first | go_values | go_skip | go_guarded | go_step | go_upon)
       have kr := bkp2 (k_r.below q.h) (.int .i64 n2) (.int .i64 a)
       have rc := rwc2 kr
       exact bodyPost_ret (v := .tuple #[.agg #[n2, a], .bool true]) (by simp [results, results91, go_sem, rc]) rfl ⟨by rw [HG.out, HV.out], blp2 (z00 B2 q) (by omega)⟩
     · have hv : ballF a b qq s = ((0, 0), false) := by
        unfold ballF
        rw [if_neg (by omega), if_neg (by omega)]
       have HV := zh hv
       have t0 : decide (0 < qq) = false := zf (by omega)
       have t1 : decide (qq ≤ 0) = true := zt (by omega)
       have t2 : decide (0 < n2) = false := zf (by omega)
       clear hv k1 k2 hb hi hnb hn1 hn2
       repeat (first | go_values | go_skip | go_guarded | go_step | go_upon)
       have kr := bkp2 (k_r.below q.h) (.int .i64 0) (.int .i64 0)
       have rc := rwc2 kr
       exact bodyPost_ret (v := .tuple #[.agg #[.int .i64 0, .int .i64 0], .bool false]) (by simp [results, results91, go_sem, rc]) rfl ⟨by rw [HG.out, HV.out], blp2 (z00 B2 q) (by omega)⟩
theorem ref12_Hit (c1 c2 c3 r o1 o2 o3 d1 d2 d3 fr : Int) (w : World) (hc : I3 (c1, c2, c3)) (hr : I64 r) (ho : I3 (o1, o2, o3)) (hd : I3 (d1, d2, d3)) :
  Rt prog 91 #[.agg #[c1, c2, c3], r, .agg #[o1, o2, o3, d1, d2, d3, fr]] w (.tuple #[.agg #[(ballH (c1, c2, c3) r (o1, o2, o3) (d1, d2, d3)).1.1, (ballH (c1, c2, c3) r (o1, o2, o3) (d1, d2, d3)).1.2], .bool (ballH (c1, c2, c3) r (o1, o2, o3) (d1, d2, d3)).2]) := by
 by_cases h : ballM (c1, c2, c3) r (o1, o2, o3) (d1, d2, d3) = true
 · exact ref12_Hit_yes c1 c2 c3 r o1 o2 o3 d1 d2 d3 fr w hc hr ho hd h
 · exact ref12_Hit_no c1 c2 c3 r o1 o2 o3 d1 d2 d3 fr w h
end
end
section
section
open Go.RowKit Go.Proofs.Sky
end
end
section
section
open Go.RowKit Go.Proofs.Sky
end
end
end Go.Proofs.YtbmpmjdlaahekaaGreat
