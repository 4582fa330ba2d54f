/- Contracts of the document's own answers: layer 10's Mid, Join and Area -/
import Derived.Test.YtbmpmjdlaahekaaGreatWs32
set_option maxRecDepth 100000
set_option maxHeartbeats 8000000
set_option linter.unusedVariables false
set_option linter.unusedSimpArgs false
open Go.Proofs.Tryz
namespace Go.Proofs.YtbmpmjdlaahekaaGreat
section
section
open Go.RowKit Go.Proofs.Sky
theorem ref10_Mid_no (a1 a2 a3 a4 a5 a6 i : Int) (w : World) (h : bRight ((a1, a2, a3), (a4, a5, a6)) = false) :
  Rt prog 80 #[.agg #[a1, a2, a3, a4, a5, a6], i] w (.int .i64 0) := by
 have KA := zh (fun w => z0p a1 a2 a3 a4 a5 a6 w)
 rw [h] at KA
 clear h
 go_enter func80, ntmps80
 go_upto_region 1 with (fail)
 refine wst1 fun W1 kb B1 => ?_
 have cb := bwc6 kb
 refine bws fun p1 => ?_
 go_wp2_with ((go_at_call 65; (with_reducible refine (z02 KA.out _).mono ?_); rintro e w' ⟨rfl, q, rfl⟩))
 go_ret
 exact ⟨rfl, z00 B1 _⟩
theorem ref10_Mid_neg (a1 a2 a3 a4 a5 a6 i : Int) (w : World) (h : bRight ((a1, a2, a3), (a4, a5, a6)) = true) (h2 : i < 0) :
  Rt prog 80 #[.agg #[a1, a2, a3, a4, a5, a6], i] w (.int .i64 0) := by
 have KA := zh (fun w => z0p a1 a2 a3 a4 a5 a6 w)
 rw [h] at KA
 have t1 : decide (i < 0) = true := zt h2
 clear h2
 clear h
 go_enter func80, ntmps80
 go_upto_region 1 with (fail)
 refine wst1 fun W1 kb B1 => ?_
 have cb := bwc6 kb
 refine bws fun p1 => ?_
 go_wp2_with ((go_at_call 65; (with_reducible refine (z02 KA.out _).mono ?_); rintro e w' ⟨rfl, q, rfl⟩))
 go_ret
 exact ⟨rfl, z00 B1 _⟩
theorem ref10_Mid_far (a1 a2 a3 a4 a5 a6 i : Int) (w : World) (h : bRight ((a1, a2, a3), (a4, a5, a6)) = true) (h2 : ¬ i < 0) (h3 : 2 < i) :
  Rt prog 80 #[.agg #[a1, a2, a3, a4, a5, a6], i] w (.int .i64 0) := by
 have KA := zh (fun w => z0p a1 a2 a3 a4 a5 a6 w)
 rw [h] at KA
 have t1 : decide (i < 0) = false := zf h2
 have t2 : decide (2 < i) = true := zt h3
 clear h2 h3
 clear h
 go_enter func80, ntmps80
 go_upto_region 1 with (fail)
 refine wst1 fun W1 kb B1 => ?_
 have cb := bwc6 kb
 refine bws fun p1 => ?_
 go_wp2_with ((go_at_call 65; (with_reducible refine (z02 KA.out _).mono ?_); rintro e w' ⟨rfl, q, rfl⟩))
 go_ret
 exact ⟨rfl, z00 B1 _⟩
theorem ref10_Mid_yes (a1 a2 a3 a4 a5 a6 i : Int) (w : World) (h : bRight ((a1, a2, a3), (a4, a5, a6)) = true) (h2 : ¬ i < 0) (h3 : ¬ 2 < i) :
  Rt prog 80 #[.agg #[a1, a2, a3, a4, a5, a6], i] w (.int .i64 (crd (a1, a2, a3) i + crd (a4, a5, a6) i)) := by
 have KA := zh (fun w => z0p a1 a2 a3 a4 a5 a6 w)
 rw [h] at KA
 have t1 : decide (i < 0) = false := zf h2
 have t2 : decide (2 < i) = false := zf h3
 have KL := zh (fun w => z16 a1 a2 a3 i w)
 have KH := zh (fun w => z16 a4 a5 a6 i w)
 have hin : -2097152 ≤ crd (a1, a2, a3) i + crd (a4, a5, a6) i ∧ crd (a1, a2, a3) i + crd (a4, a5, a6) i ≤ 2097152 := by
  have hm := bMid_in ((a1, a2, a3), (a4, a5, a6)) i
  unfold bMid at hm
  rw [if_pos ⟨h, by omega, by omega⟩] at hm
  exact hm
 clear h2 h3
 generalize crd (a1, a2, a3) i = c1 at *
 generalize crd (a4, a5, a6) i = c2 at *
 have e1 : wrap64 (c1 + c2) = c1 + c2 := IntWalk.wrap64_in _ (by omega)
 clear hin
 clear h
 go_enter func80, ntmps80
 go_upto_region 1 with (fail)
 refine wst1 fun W1 kb B1 => ?_
 have cb := bwc6 kb
 refine bws fun p1 => ?_
 go_upto_region 3 with ((go_at_call 65; (with_reducible refine (z02 KA.out _).mono ?_); rintro e w' ⟨rfl, q, rfl⟩))
 refine z03 (by kernel_rfl) (by kernel_rfl) ?_
 repeat (go_big_quiet_step ((go_at_call 66; (first | (with_reducible exact z02 KL.out _) | (with_reducible exact z02 KH.out _)))))
 refine wpQuiet_nil ?_
 intro _ hw'
 obtain ⟨q, rfl⟩ := hw'
 go_wp2
 go_ret
 exact ⟨z0m e1, z00 B1 _⟩
theorem ref10_Mid (a1 a2 a3 a4 a5 a6 i : Int) (w : World) :
  Rt prog 80 #[.agg #[a1, a2, a3, a4, a5, a6], i] w (.int .i64 (bMid ((a1, a2, a3), (a4, a5, a6)) i)) := by
 unfold bMid
 dsimp only
 cases h : bRight ((a1, a2, a3), (a4, a5, a6)) with
 | false => rw [if_neg (fun k => by cases k.1)]; exact ref10_Mid_no a1 a2 a3 a4 a5 a6 i w h
 | true =>
  by_cases h2 : i < 0
  · rw [if_neg (fun k => by omega)]; exact ref10_Mid_neg a1 a2 a3 a4 a5 a6 i w h h2
  · by_cases h3 : 2 < i
    · rw [if_neg (fun k => by omega)]; exact ref10_Mid_far a1 a2 a3 a4 a5 a6 i w h h2 h3
    · rw [if_pos ⟨rfl, by omega, by omega⟩]; exact ref10_Mid_yes a1 a2 a3 a4 a5 a6 i w h h2 h3
theorem ref10_Join_noa (a1 a2 a3 a4 a5 a6 b1 b2 b3 b4 b5 b6 : Int) (w : World) (h1 : bRight ((a1, a2, a3), (a4, a5, a6)) = false) :
  Rt prog 68 #[.agg #[a1, a2, a3, a4, a5, a6], .agg #[b1, b2, b3, b4, b5, b6]] w (.agg #[.int .i64 0, .int .i64 0, .int .i64 0, .int .i64 0, .int .i64 0, .int .i64 0]) := by
 have KA := zh (fun w => z0p a1 a2 a3 a4 a5 a6 w)
 rw [h1] at KA
 clear h1
 go_enter func68, ntmps68
 go_upto_region 1 with (fail)
 refine wst3 fun W1 ka kb k_r B1 => ?_
 have lb : w.heap.size < w.heap.size + 1 := by omega
 have lr : w.heap.size + 1 < w.heap.size + 1 + 1 := by omega
 generalize w.heap.size + 1 + 1 = gr at *
 generalize w.heap.size + 1 = gb at *
 have c_a := bwc6 ka
 have cb := bwc6 kb
 have cr := bwc6 k_r
 have fr := bwf6 k_r
 refine bws fun p1 => ?_
 go_wp2_with ((go_at_call 65; (with_reducible refine (z02 KA.out _).mono ?_); rintro e w' ⟨rfl, q, rfl⟩))
 have kr := bkp6 (k_r.below q.h) (.int .i64 0) (.int .i64 0) (.int .i64 0) (.int .i64 0) (.int .i64 0) (.int .i64 0)
 have rc := rwc6 kr
 exact bodyPost_ret (v := .agg #[.int .i64 0, .int .i64 0, .int .i64 0, .int .i64 0, .int .i64 0, .int .i64 0]) (by simp [results, results68, go_sem, rc]) rfl ⟨rfl, blp6 (z00 B1 q) (by omega)⟩
theorem ref10_Join_nob (a1 a2 a3 a4 a5 a6 b1 b2 b3 b4 b5 b6 : Int) (w : World) (h1 : bRight ((a1, a2, a3), (a4, a5, a6)) = true) (h2 : bRight ((b1, b2, b3), (b4, b5, b6)) = false) :
  Rt prog 68 #[.agg #[a1, a2, a3, a4, a5, a6], .agg #[b1, b2, b3, b4, b5, b6]] w (.agg #[.int .i64 0, .int .i64 0, .int .i64 0, .int .i64 0, .int .i64 0, .int .i64 0]) := by
 have KA := zh (fun w => z0p a1 a2 a3 a4 a5 a6 w)
 rw [h1] at KA
 have KB := zh (fun w => z0p b1 b2 b3 b4 b5 b6 w)
 rw [h2] at KB
 clear h1 h2
 go_enter func68, ntmps68
 go_upto_region 1 with (fail)
 refine wst3 fun W1 ka kb k_r B1 => ?_
 have lb : w.heap.size < w.heap.size + 1 := by omega
 have lr : w.heap.size + 1 < w.heap.size + 1 + 1 := by omega
 generalize w.heap.size + 1 + 1 = gr at *
 generalize w.heap.size + 1 = gb at *
 have c_a := bwc6 ka
 have cb := bwc6 kb
 have cr := bwc6 k_r
 have fr := bwf6 k_r
 refine bws fun p1 => ?_
 go_wp2_with ((go_at_call 65; (first | (with_reducible refine (z02 KA.out _).mono ?_) | (with_reducible refine (z02 KB.out _).mono ?_)); rintro e w' ⟨rfl, q, rfl⟩))
 have kr := bkp6 (k_r.below q.h) (.int .i64 0) (.int .i64 0) (.int .i64 0) (.int .i64 0) (.int .i64 0) (.int .i64 0)
 have rc := rwc6 kr
 exact bodyPost_ret (v := .agg #[.int .i64 0, .int .i64 0, .int .i64 0, .int .i64 0, .int .i64 0, .int .i64 0]) (by simp [results, results68, go_sem, rc]) rfl ⟨rfl, blp6 (z00 B1 q) (by omega)⟩
theorem ref10_Join_yes (a1 a2 a3 a4 a5 a6 b1 b2 b3 b4 b5 b6 : Int) (w : World) (h1 : bRight ((a1, a2, a3), (a4, a5, a6)) = true) (h2 : bRight ((b1, b2, b3), (b4, b5, b6)) = true) :
  Rt prog 68 #[.agg #[a1, a2, a3, a4, a5, a6], .agg #[b1, b2, b3, b4, b5, b6]] w (.agg #[.int .i64 (min a1 b1), .int .i64 (min a2 b2), .int .i64 (min a3 b3), .int .i64 (max a4 b4), .int .i64 (max a5 b5), .int .i64 (max a6 b6)]) := by
 have KA := zh (fun w => z0p a1 a2 a3 a4 a5 a6 w)
 rw [h1] at KA
 have KB := zh (fun w => z0p b1 b2 b3 b4 b5 b6 w)
 rw [h2] at KB
 obtain ⟨m1, e1⟩ : ∃ m, min a1 b1 = m := ⟨_, rfl⟩
 obtain ⟨m2, e2⟩ : ∃ m, min a2 b2 = m := ⟨_, rfl⟩
 obtain ⟨m3, e3⟩ : ∃ m, min a3 b3 = m := ⟨_, rfl⟩
 obtain ⟨m4, e4⟩ : ∃ m, max a4 b4 = m := ⟨_, rfl⟩
 obtain ⟨m5, e5⟩ : ∃ m, max a5 b5 = m := ⟨_, rfl⟩
 obtain ⟨m6, e6⟩ : ∃ m, max a6 b6 = m := ⟨_, rfl⟩
 rw [e1, e2, e3, e4, e5, e6]
 clear h1 h2
 go_enter func68, ntmps68
 go_upto_region 1 with (fail)
 refine wst3 fun W1 ka kb k_r B1 => ?_
 have lb : w.heap.size < w.heap.size + 1 := by omega
 have lr : w.heap.size + 1 < w.heap.size + 1 + 1 := by omega
 generalize w.heap.size + 1 + 1 = gr at *
 generalize w.heap.size + 1 = gb at *
 have c_a := bwc6 ka
 have cb := bwc6 kb
 have cr := bwc6 k_r
 have fr := bwf6 k_r
 refine bws fun p1 => ?_
 go_upto_region 4 with ((go_at_call 65; (first | (with_reducible refine (z02 KA.out _).mono ?_) | (with_reducible refine (z02 KB.out _).mono ?_)); rintro e w' ⟨rfl, q, rfl⟩))
 refine wnm fun W2 hW2 => ?_
 have B2 := bwA q hW2 B1
 have llo : gr < q.w.heap.size := (k_r.below q.h).lt
 have olo : w.heap.size ≤ q.w.heap.size := (z00 B1 q).size
 have ka := bka hW2 (ka.below q.h)
 have kb := bka hW2 (kb.below q.h)
 have k_r := bka hW2 (k_r.below q.h)
 have klo := bkn hW2
 clear hW2
 clear B1
 clear c_a cb cr fr
 generalize q.w.heap.size = glo at *
 have c_a := bwc6 ka
 have cb := bwc6 kb
 have cr := bwc6 k_r
 have clo := bwc3 klo
 refine bws fun p2 => ?_
 go_upto_region 5 with (fail)
 refine wnm fun W3 hW3 => ?_
 have B3 := bwA p2 hW3 B2
 have lhi : glo < p2.w.heap.size := (klo.below p2.h).lt
 have ohi : w.heap.size ≤ p2.w.heap.size := (z00 B2 p2).size
 have ka := bka hW3 (ka.below p2.h)
 have kb := bka hW3 (kb.below p2.h)
 have k_r := bka hW3 (k_r.below p2.h)
 have klo := bka hW3 (klo.below p2.h)
 have khi := bkn hW3
 clear hW3
 clear B2
 clear c_a cb cr clo
 generalize p2.w.heap.size = ghi at *
 have c_a := bwc6 ka
 have cb := bwc6 kb
 have cr := bwc6 k_r
 have fr := bwf6 k_r
 have clo := bwc3 klo
 have chi := bwc3 khi
 refine bws fun p3 => ?_
 go_wp2
 have kr := bkp6 (k_r.below p3.h) (.int .i64 m1) (.int .i64 m2) (.int .i64 m3) (.int .i64 m4) (.int .i64 m5) (.int .i64 m6)
 have rc := rwc6 kr
 exact bodyPost_ret (v := .agg #[m1, m2, m3, m4, m5, m6]) (by simp [results, results68, go_sem, rc]) rfl ⟨rfl, blp6 (z00 B3 p3) (by omega)⟩
theorem ref10_Join (a1 a2 a3 a4 a5 a6 b1 b2 b3 b4 b5 b6 : Int) (w : World) :
  Rt prog 68 #[.agg #[a1, a2, a3, a4, a5, a6], .agg #[b1, b2, b3, b4, b5, b6]] w (.agg (bx6 (bJoin ((a1, a2, a3), (a4, a5, a6)) ((b1, b2, b3), (b4, b5, b6))))) := by
 unfold bJoin
 cases h1 : bRight ((a1, a2, a3), (a4, a5, a6)) with
 | false => rw [if_neg (fun k => by cases k.1)]; exact ref10_Join_noa a1 a2 a3 a4 a5 a6 b1 b2 b3 b4 b5 b6 w h1
 | true =>
  cases h2 : bRight ((b1, b2, b3), (b4, b5, b6)) with
  | false => rw [if_neg (fun k => by cases k.2)]; exact ref10_Join_nob a1 a2 a3 a4 a5 a6 b1 b2 b3 b4 b5 b6 w h1 h2
  | true => rw [if_pos ⟨rfl, rfl⟩]; exact ref10_Join_yes a1 a2 a3 a4 a5 a6 b1 b2 b3 b4 b5 b6 w h1 h2
theorem ref10_Area_no (a1 a2 a3 a4 a5 a6 : Int) (w : World) (h : bRight ((a1, a2, a3), (a4, a5, a6)) = false) :
  Rt prog 127 #[.agg #[a1, a2, a3, a4, a5, a6]] w (.int .i64 0) := by
 have KA := zh (fun w => z0p a1 a2 a3 a4 a5 a6 w)
 rw [h] at KA
 clear h
 go_enter func127, ntmps127
 go_upto_region 1 with (fail)
 refine wst1 fun W1 kb B1 => ?_
 have cb := bwc6 kb
 refine bws fun p1 => ?_
 go_wp2_with ((go_at_call 65; (with_reducible refine (z02 KA.out _).mono ?_); rintro e w' ⟨rfl, q, rfl⟩))
 go_ret
 exact ⟨rfl, z00 B1 _⟩
theorem ref10_Area_yes (a1 a2 a3 a4 a5 a6 : Int) (w : World) (h : bRight ((a1, a2, a3), (a4, a5, a6)) = true) :
  Rt prog 127 #[.agg #[a1, a2, a3, a4, a5, a6]] w (.int .i64 ((a4 - a1) * (a5 - a2) + (a5 - a2) * (a6 - a3) + (a6 - a3) * (a4 - a1))) := by
 have KA := zh (fun w => z0p a1 a2 a3 a4 a5 a6 w)
 rw [h] at KA
 have ha := bArea_in ((a1, a2, a3), (a4, a5, a6))
 unfold bArea at ha
 rw [if_pos h] at ha
 dsimp only at ha
 rw [z10, z0r, z0r] at h
 dsimp only at h
 obtain ⟨x, hx⟩ := nmd (a4 - a1)
 obtain ⟨y, hy⟩ := nmd (a5 - a2)
 obtain ⟨z, hz⟩ := nmd (a6 - a3)
 rw [← hx, ← hy, ← hz] at ha ⊢
 have v1 : wrap64 (a4 - a1) = x := by rw [← hx]; exact IntWalk.wrap64_in _ (by omega)
 have v2 : wrap64 (a5 - a2) = y := by rw [← hy]; exact IntWalk.wrap64_in _ (by omega)
 have v3 : wrap64 (a6 - a3) = z := by rw [← hz]; exact IntWalk.wrap64_in _ (by omega)
 have xy := Int.mul_nonneg (show 0 ≤ x by omega) (show 0 ≤ y by omega)
 have yz := Int.mul_nonneg (show 0 ≤ y by omega) (show 0 ≤ z by omega)
 have zx := Int.mul_nonneg (show 0 ≤ z by omega) (show 0 ≤ x by omega)
 obtain ⟨t1, h1⟩ := nmd (x * y)
 obtain ⟨t2, h2⟩ := nmd (y * z)
 obtain ⟨t3, h3⟩ := nmd (z * x)
 rw [← h1, ← h2, ← h3] at ha ⊢
 rw [← h1] at xy
 rw [← h2] at yz
 rw [← h3] at zx
 obtain ⟨s1, g1⟩ := nmd (t1 + t2)
 obtain ⟨s2, g2⟩ := nmd (s1 + t3)
 rw [← g1, ← g2] at ha ⊢
 have w1 : wrap64 (x * y) = t1 := by rw [← h1]; exact IntWalk.wrap64_in _ (by omega)
 have w2 : wrap64 (y * z) = t2 := by rw [← h2]; exact IntWalk.wrap64_in _ (by omega)
 have w3 : wrap64 (z * x) = t3 := by rw [← h3]; exact IntWalk.wrap64_in _ (by omega)
 have w4 : wrap64 (t1 + t2) = s1 := by rw [← g1]; exact IntWalk.wrap64_in _ (by omega)
 have w5 : wrap64 (s1 + t3) = s2 := by rw [← g2]; exact IntWalk.wrap64_in _ (by omega)
 clear h1 h2 h3 g1 g2 ha
 clear hx hy hz xy yz zx
 clear h
 go_enter func127, ntmps127
 go_upto_region 1 with (fail)
 refine wst1 fun W1 kb B1 => ?_
 have cb := bwc6 kb
 refine bws fun p1 => ?_
 go_upto_region 3 with ((go_at_call 65; (with_reducible refine (z02 KA.out _).mono ?_); rintro e w' ⟨rfl, q, rfl⟩))
 refine z03 (by kernel_rfl) (by kernel_rfl) ?_
 repeat (go_big_quiet_step (fail))
 refine wpQuiet_nil ?_
 intro _ hw'
 obtain ⟨q, rfl⟩ := hw'
 go_wp2
 go_ret
 exact ⟨by show Ending.returned (.int .i64 (wrap64 (s1 + t3))) = _; rw [w5], z00 B1 _⟩
theorem ref10_Area (a1 a2 a3 a4 a5 a6 : Int) (w : World) :
  Rt prog 127 #[.agg #[a1, a2, a3, a4, a5, a6]] w (.int .i64 (bArea ((a1, a2, a3), (a4, a5, a6)))) := by
 unfold bArea
 cases h : bRight ((a1, a2, a3), (a4, a5, a6)) with
 | false => rw [if_neg (by simp)]; exact ref10_Area_no a1 a2 a3 a4 a5 a6 w h
 | true => rw [if_pos rfl]; exact ref10_Area_yes a1 a2 a3 a4 a5 a6 w h
theorem ref15_Bin_no (a1 a2 a3 a4 a5 a6 ax lo hi m : Int) (w : World) (KA : Hid (∀ w, Rt prog 65 #[.agg #[a1, a2, a3, a4, a5, a6]] w (.bool false))) (KM : Hid (∀ w, Rt prog 80 #[.agg #[a1, a2, a3, a4, a5, a6], ax] w (.int .i64 m))) :
  Rt prog 110 #[.agg #[a1, a2, a3, a4, a5, a6], ax, lo, hi] w (.int .i64 (-1)) := by
 go_enter func110, ntmps110
 go_upto_region 1 with (fail)
 refine wst1 fun W1 kb B1 => ?_
 have cb := bwc6 kb
 refine bws fun p1 => ?_
 go_wp2_with (first
  | (go_at_call 65; (with_reducible refine (z02 KA.out _).mono ?_); rintro e w' ⟨rfl, q, rfl⟩)
  | (go_at_call 80; (with_reducible refine (z02 KM.out _).mono ?_); rintro e w' ⟨rfl, q, rfl⟩))
 go_ret
 exact ⟨rfl, z00 B1 _⟩
theorem ref15_Bin_neg (a1 a2 a3 a4 a5 a6 ax lo hi m : Int) (w : World) (KA : Hid (∀ w, Rt prog 65 #[.agg #[a1, a2, a3, a4, a5, a6]] w (.bool true))) (KM : Hid (∀ w, Rt prog 80 #[.agg #[a1, a2, a3, a4, a5, a6], ax] w (.int .i64 m))) (h1 : ax < 0) :
  Rt prog 110 #[.agg #[a1, a2, a3, a4, a5, a6], ax, lo, hi] w (.int .i64 (-1)) := by
 have t1 : decide (ax < 0) = true := zt h1
 clear h1
 go_enter func110, ntmps110
 go_upto_region 1 with (fail)
 refine wst1 fun W1 kb B1 => ?_
 have cb := bwc6 kb
 refine bws fun p1 => ?_
 go_wp2_with (first
  | (go_at_call 65; (with_reducible refine (z02 KA.out _).mono ?_); rintro e w' ⟨rfl, q, rfl⟩)
  | (go_at_call 80; (with_reducible refine (z02 KM.out _).mono ?_); rintro e w' ⟨rfl, q, rfl⟩))
 go_ret
 exact ⟨rfl, z00 B1 _⟩
theorem ref15_Bin_far (a1 a2 a3 a4 a5 a6 ax lo hi m : Int) (w : World) (KA : Hid (∀ w, Rt prog 65 #[.agg #[a1, a2, a3, a4, a5, a6]] w (.bool true))) (KM : Hid (∀ w, Rt prog 80 #[.agg #[a1, a2, a3, a4, a5, a6], ax] w (.int .i64 m))) (h1 : ¬ ax < 0) (h2 : 2 < ax) :
  Rt prog 110 #[.agg #[a1, a2, a3, a4, a5, a6], ax, lo, hi] w (.int .i64 (-1)) := by
 have t1 : decide (ax < 0) = false := zf h1
 have t2 : decide (2 < ax) = true := zt h2
 clear h1 h2
 go_enter func110, ntmps110
 go_upto_region 1 with (fail)
 refine wst1 fun W1 kb B1 => ?_
 have cb := bwc6 kb
 refine bws fun p1 => ?_
 go_wp2_with (first
  | (go_at_call 65; (with_reducible refine (z02 KA.out _).mono ?_); rintro e w' ⟨rfl, q, rfl⟩)
  | (go_at_call 80; (with_reducible refine (z02 KM.out _).mono ?_); rintro e w' ⟨rfl, q, rfl⟩))
 go_ret
 exact ⟨rfl, z00 B1 _⟩
theorem ref15_Bin_lo (a1 a2 a3 a4 a5 a6 ax lo hi m : Int) (w : World) (KA : Hid (∀ w, Rt prog 65 #[.agg #[a1, a2, a3, a4, a5, a6]] w (.bool true))) (KM : Hid (∀ w, Rt prog 80 #[.agg #[a1, a2, a3, a4, a5, a6], ax] w (.int .i64 m))) (h1 : ¬ ax < 0) (h2 : ¬ 2 < ax) (h3 : lo < -2097152) :
  Rt prog 110 #[.agg #[a1, a2, a3, a4, a5, a6], ax, lo, hi] w (.int .i64 (-1)) := by
 have t1 : decide (ax < 0) = false := zf h1
 have t2 : decide (2 < ax) = false := zf h2
 have t3 : decide (lo < -2097152) = true := zt h3
 clear h1 h2 h3
 go_enter func110, ntmps110
 go_upto_region 1 with (fail)
 refine wst1 fun W1 kb B1 => ?_
 have cb := bwc6 kb
 refine bws fun p1 => ?_
 go_wp2_with (first
  | (go_at_call 65; (with_reducible refine (z02 KA.out _).mono ?_); rintro e w' ⟨rfl, q, rfl⟩)
  | (go_at_call 80; (with_reducible refine (z02 KM.out _).mono ?_); rintro e w' ⟨rfl, q, rfl⟩))
 go_ret
 exact ⟨rfl, z00 B1 _⟩
theorem ref15_Bin_hi (a1 a2 a3 a4 a5 a6 ax lo hi m : Int) (w : World) (KA : Hid (∀ w, Rt prog 65 #[.agg #[a1, a2, a3, a4, a5, a6]] w (.bool true))) (KM : Hid (∀ w, Rt prog 80 #[.agg #[a1, a2, a3, a4, a5, a6], ax] w (.int .i64 m))) (h1 : ¬ ax < 0) (h2 : ¬ 2 < ax) (h3 : ¬ lo < -2097152) (h4 : 2097152 < hi) :
  Rt prog 110 #[.agg #[a1, a2, a3, a4, a5, a6], ax, lo, hi] w (.int .i64 (-1)) := by
 have t1 : decide (ax < 0) = false := zf h1
 have t2 : decide (2 < ax) = false := zf h2
 have t3 : decide (lo < -2097152) = false := zf h3
 have t4 : decide (2097152 < hi) = true := zt h4
 clear h1 h2 h3 h4
 go_enter func110, ntmps110
 go_upto_region 1 with (fail)
 refine wst1 fun W1 kb B1 => ?_
 have cb := bwc6 kb
 refine bws fun p1 => ?_
 go_wp2_with (first
  | (go_at_call 65; (with_reducible refine (z02 KA.out _).mono ?_); rintro e w' ⟨rfl, q, rfl⟩)
  | (go_at_call 80; (with_reducible refine (z02 KM.out _).mono ?_); rintro e w' ⟨rfl, q, rfl⟩))
 go_ret
 exact ⟨rfl, z00 B1 _⟩
theorem ref15_Bin_below (a1 a2 a3 a4 a5 a6 ax lo hi m : Int) (w : World) (KA : Hid (∀ w, Rt prog 65 #[.agg #[a1, a2, a3, a4, a5, a6]] w (.bool true))) (KM : Hid (∀ w, Rt prog 80 #[.agg #[a1, a2, a3, a4, a5, a6], ax] w (.int .i64 m))) (h1 : ¬ ax < 0) (h2 : ¬ 2 < ax) (h3 : ¬ lo < -2097152) (h4 : ¬ 2097152 < hi) (h5 : m < lo) :
  Rt prog 110 #[.agg #[a1, a2, a3, a4, a5, a6], ax, lo, hi] w (.int .i64 (-1)) := by
 have t1 : decide (ax < 0) = false := zf h1
 have t2 : decide (2 < ax) = false := zf h2
 have t3 : decide (lo < -2097152) = false := zf h3
 have t4 : decide (2097152 < hi) = false := zf h4
 have t5 : decide (m < lo) = true := zt h5
 clear h1 h2 h3 h4 h5
 go_enter func110, ntmps110
 go_upto_region 1 with (fail)
 refine wst1 fun W1 kb B1 => ?_
 have cb := bwc6 kb
 refine bws fun p1 => ?_
 go_wp2_with (first
  | (go_at_call 65; (with_reducible refine (z02 KA.out _).mono ?_); rintro e w' ⟨rfl, q, rfl⟩)
  | (go_at_call 80; (with_reducible refine (z02 KM.out _).mono ?_); rintro e w' ⟨rfl, q, rfl⟩))
 go_ret
 exact ⟨rfl, z00 B1 _⟩
theorem ref15_Bin_above (a1 a2 a3 a4 a5 a6 ax lo hi m : Int) (w : World) (KA : Hid (∀ w, Rt prog 65 #[.agg #[a1, a2, a3, a4, a5, a6]] w (.bool true))) (KM : Hid (∀ w, Rt prog 80 #[.agg #[a1, a2, a3, a4, a5, a6], ax] w (.int .i64 m))) (h1 : ¬ ax < 0) (h2 : ¬ 2 < ax) (h3 : ¬ lo < -2097152) (h4 : ¬ 2097152 < hi) (h5 : ¬ m < lo) (h6 : hi < m) :
  Rt prog 110 #[.agg #[a1, a2, a3, a4, a5, a6], ax, lo, hi] w (.int .i64 (-1)) := by
 have t1 : decide (ax < 0) = false := zf h1
 have t2 : decide (2 < ax) = false := zf h2
 have t3 : decide (lo < -2097152) = false := zf h3
 have t4 : decide (2097152 < hi) = false := zf h4
 have t5 : decide (m < lo) = false := zf h5
 have t6 : decide (hi < m) = true := zt h6
 clear h1 h2 h3 h4 h5 h6
 go_enter func110, ntmps110
 go_upto_region 1 with (fail)
 refine wst1 fun W1 kb B1 => ?_
 have cb := bwc6 kb
 refine bws fun p1 => ?_
 go_wp2_with (first
  | (go_at_call 65; (with_reducible refine (z02 KA.out _).mono ?_); rintro e w' ⟨rfl, q, rfl⟩)
  | (go_at_call 80; (with_reducible refine (z02 KM.out _).mono ?_); rintro e w' ⟨rfl, q, rfl⟩))
 go_ret
 exact ⟨rfl, z00 B1 _⟩
theorem ref15_Bin_yes (a1 a2 a3 a4 a5 a6 ax lo hi m z : Int) (w : World) (KA : Hid (∀ w, Rt prog 65 #[.agg #[a1, a2, a3, a4, a5, a6]] w (.bool true))) (KM : Hid (∀ w, Rt prog 80 #[.agg #[a1, a2, a3, a4, a5, a6], ax] w (.int .i64 m))) (h1 : ¬ ax < 0) (h2 : ¬ 2 < ax) (h3 : ¬ lo < -2097152) (h4 : ¬ 2097152 < hi) (h5 : ¬ m < lo) (h6 : ¬ hi < m) (KD : Hid (∀ w, Rt prog 94 #[.int .i64 ((m - lo) * 8), .int .i64 (hi - lo + 1)] w (.int .i64 z))) :
  Rt prog 110 #[.agg #[a1, a2, a3, a4, a5, a6], ax, lo, hi] w (.int .i64 z) := by
 have t1 : decide (ax < 0) = false := zf h1
 have t2 : decide (2 < ax) = false := zf h2
 have t3 : decide (lo < -2097152) = false := zf h3
 have t4 : decide (2097152 < hi) = false := zf h4
 have t5 : decide (m < lo) = false := zf h5
 have t6 : decide (hi < m) = false := zf h6
 have v1 : wrap64 (m - lo) = m - lo := IntWalk.wrap64_in _ (by omega)
 have v2 : wrap64 ((m - lo) * 8) = (m - lo) * 8 := IntWalk.wrap64_in _ (by omega)
 have v3 : wrap64 (hi - lo) = hi - lo := IntWalk.wrap64_in _ (by omega)
 have v4 : wrap64 (hi - lo + 1) = hi - lo + 1 := IntWalk.wrap64_in _ (by omega)
 clear h1 h2 h3 h4 h5 h6
 go_enter func110, ntmps110
 go_upto_region 1 with (fail)
 refine wst1 fun W1 kb B1 => ?_
 have cb := bwc6 kb
 refine bws fun p1 => ?_
 go_wp2_with (first
  | (go_at_call 65; (with_reducible refine (z02 KA.out _).mono ?_); rintro e w' ⟨rfl, q, rfl⟩)
  | (go_at_call 80; (with_reducible refine (z02 KM.out _).mono ?_); rintro e w' ⟨rfl, q, rfl⟩)
  | (go_at_call 94; (with_reducible refine (z02 KD.out _).mono ?_); rintro e w' ⟨rfl, q, rfl⟩))
 go_ret
 exact ⟨rfl, z00 B1 _⟩
theorem ref15_Bin (a1 a2 a3 a4 a5 a6 ax lo hi : Int) (w : World) (hx : I64 ax) (hl : I64 lo) (hh : I64 hi) :
  Rt prog 110 #[.agg #[a1, a2, a3, a4, a5, a6], ax, lo, hi] w (.int .i64 (bBin ((a1, a2, a3), (a4, a5, a6)) ax lo hi)) := by
 have KA := zh (fun w => z0p a1 a2 a3 a4 a5 a6 w)
 have KM := zh (fun w => ref10_Mid a1 a2 a3 a4 a5 a6 ax w)
 have hm := bMid_in ((a1, a2, a3), (a4, a5, a6)) ax
 unfold bBin
 cases h : bRight ((a1, a2, a3), (a4, a5, a6)) with
 | false => rw [if_neg (fun k => by cases k.1)]; rw [h] at KA; exact ref15_Bin_no a1 a2 a3 a4 a5 a6 ax lo hi _ w KA KM
 | true =>
  rw [h] at KA
  by_cases h1 : ax < 0
  · rw [if_neg (fun k => by omega)]; exact ref15_Bin_neg a1 a2 a3 a4 a5 a6 ax lo hi _ w KA KM h1
  by_cases h2 : 2 < ax
  · rw [if_neg (fun k => by omega)]; exact ref15_Bin_far a1 a2 a3 a4 a5 a6 ax lo hi _ w KA KM h1 h2
  by_cases h3 : lo < -2097152
  · rw [if_neg (fun k => by omega)]; exact ref15_Bin_lo a1 a2 a3 a4 a5 a6 ax lo hi _ w KA KM h1 h2 h3
  by_cases h4 : 2097152 < hi
  · rw [if_neg (fun k => by omega)]; exact ref15_Bin_hi a1 a2 a3 a4 a5 a6 ax lo hi _ w KA KM h1 h2 h3 h4
  by_cases h5 : bMid ((a1, a2, a3), (a4, a5, a6)) ax < lo
  · rw [if_neg (fun k => by omega)]; exact ref15_Bin_below a1 a2 a3 a4 a5 a6 ax lo hi _ w KA KM h1 h2 h3 h4 h5
  by_cases h6 : hi < bMid ((a1, a2, a3), (a4, a5, a6)) ax
  · rw [if_neg (fun k => by omega)]; exact ref15_Bin_above a1 a2 a3 a4 a5 a6 ax lo hi _ w KA KM h1 h2 h3 h4 h5 h6
  have KD := zh (fun w => z19 (fun w => ref_Div ((bMid ((a1, a2, a3), (a4, a5, a6)) ax - lo) * 8) (hi - lo + 1) w (by unfold I64; omega) (by unfold I64; omega)) w)
  rw [show dv ((bMid ((a1, a2, a3), (a4, a5, a6)) ax - lo) * 8) (hi - lo + 1) = (bMid ((a1, a2, a3), (a4, a5, a6)) ax - lo) * 8 / (hi - lo + 1) by unfold dv; rw [if_neg (by omega)]] at KD
  rw [if_pos ⟨rfl, by omega, by omega, by omega, by omega, by omega, by omega⟩]
  exact ref15_Bin_yes a1 a2 a3 a4 a5 a6 ax lo hi _ _ w KA KM h1 h2 h3 h4 h5 h6 KD
theorem ref15_Left_none (ax at_ lo hi a1 a2 a3 a4 a5 a6 z : Int) (w : World) (KB : Hid (∀ w, Rt prog 110 #[.agg #[a1, a2, a3, a4, a5, a6], ax, lo, hi] w (.int .i64 z))) (h1 : z < 0) :
  Rt prog 82 #[.agg #[ax, at_, lo, hi], .agg #[a1, a2, a3, a4, a5, a6]] w (.bool false) := by
 have t1 : decide (0 ≤ z) = false := zf (by omega)
 clear h1
 go_enter func82, ntmps82
 go_upto_region 1 with (fail)
 refine wst2 fun W1 ks kb B1 => ?_
 have lb : w.heap.size < w.heap.size + 1 := by omega
 generalize w.heap.size + 1 = gb at *
 have cs := bwc4 ks
 have cb := bwc6 kb
 refine bws fun p1 => ?_
 go_wp2_with ((go_at_call 110; (with_reducible refine (z02 KB.out _).mono ?_); rintro e w' ⟨rfl, q, rfl⟩))
 go_ret
 exact ⟨rfl, z00 B1 _⟩
theorem ref15_Left_in (ax at_ lo hi a1 a2 a3 a4 a5 a6 z : Int) (w : World) (KB : Hid (∀ w, Rt prog 110 #[.agg #[a1, a2, a3, a4, a5, a6], ax, lo, hi] w (.int .i64 z))) (h1 : ¬ z < 0) (h2 : z < at_) :
  Rt prog 82 #[.agg #[ax, at_, lo, hi], .agg #[a1, a2, a3, a4, a5, a6]] w (.bool true) := by
 have t1 : decide (0 ≤ z) = true := zt (by omega)
 have t2 : decide (z < at_) = true := zt h2
 clear h1 h2
 go_enter func82, ntmps82
 go_upto_region 1 with (fail)
 refine wst2 fun W1 ks kb B1 => ?_
 have lb : w.heap.size < w.heap.size + 1 := by omega
 generalize w.heap.size + 1 = gb at *
 have cs := bwc4 ks
 have cb := bwc6 kb
 refine bws fun p1 => ?_
 go_wp2_with ((go_at_call 110; (with_reducible refine (z02 KB.out _).mono ?_); rintro e w' ⟨rfl, q, rfl⟩))
 go_ret
 exact ⟨rfl, z00 B1 _⟩
theorem ref15_Left_out (ax at_ lo hi a1 a2 a3 a4 a5 a6 z : Int) (w : World) (KB : Hid (∀ w, Rt prog 110 #[.agg #[a1, a2, a3, a4, a5, a6], ax, lo, hi] w (.int .i64 z))) (h1 : ¬ z < 0) (h2 : ¬ z < at_) :
  Rt prog 82 #[.agg #[ax, at_, lo, hi], .agg #[a1, a2, a3, a4, a5, a6]] w (.bool false) := by
 have t1 : decide (0 ≤ z) = true := zt (by omega)
 have t2 : decide (z < at_) = false := zf h2
 clear h1 h2
 go_enter func82, ntmps82
 go_upto_region 1 with (fail)
 refine wst2 fun W1 ks kb B1 => ?_
 have lb : w.heap.size < w.heap.size + 1 := by omega
 generalize w.heap.size + 1 = gb at *
 have cs := bwc4 ks
 have cb := bwc6 kb
 refine bws fun p1 => ?_
 go_wp2_with ((go_at_call 110; (with_reducible refine (z02 KB.out _).mono ?_); rintro e w' ⟨rfl, q, rfl⟩))
 go_ret
 exact ⟨rfl, z00 B1 _⟩
theorem ref15_Left (ax at_ lo hi a1 a2 a3 a4 a5 a6 : Int) (w : World) (hx : I64 ax) (hl : I64 lo) (hh : I64 hi) :
  Rt prog 82 #[.agg #[ax, at_, lo, hi], .agg #[a1, a2, a3, a4, a5, a6]] w (.bool (isL ax lo hi at_ ((a1, a2, a3), (a4, a5, a6)))) := by
 have KB := zh (fun w => ref15_Bin a1 a2 a3 a4 a5 a6 ax lo hi w hx hl hh)
 unfold isL
 generalize bBin ((a1, a2, a3), (a4, a5, a6)) ax lo hi = z at *
 by_cases h1 : z < 0
 · rw [zf (by omega)]; exact ref15_Left_none ax at_ lo hi a1 a2 a3 a4 a5 a6 z w KB h1
 by_cases h2 : z < at_
 · rw [zt (by omega)]; exact ref15_Left_in ax at_ lo hi a1 a2 a3 a4 a5 a6 z w KB h1 h2
 · rw [zf (by omega)]; exact ref15_Left_out ax at_ lo hi a1 a2 a3 a4 a5 a6 z w KB h1 h2
end
end
section
section
open Go.RowKit Go.Proofs.Sky
theorem ref15_Sides (a : Option Addr) (n cap : Nat) (V : Nat → Bx) (ax at_ lo hi : Int) (w : World) (hs : Boxes w (.slice a n cap) n V) (hx : I64 ax) (hl : I64 lo) (hh : I64 hi) (hn : n ≤ 1024) :
  Calls prog 50 #[.agg #[ax, at_, lo, hi], .slice a n cap] w fun e w' => ∃ u v, e = .returned (.tuple #[u, v]) ∧ Ints w' w.heap.size u (ix (isL ax lo hi at_) V n) ∧ Ints w' w.heap.size v (ix (fun b => !isL ax lo hi at_ b) V n) ∧ Below w.heap.size w w' := by
 have HS := zh hs
 have KLH := zh (fun (b : Bx) w => ref15_Left ax at_ lo hi b.1.1 b.1.2.1 b.1.2.2 b.2.1 b.2.2.1 b.2.2.2 w hx hl hh)
 obtain ⟨i0, hi0, hz0, hz1, hz2⟩ := info_parts z1i
 clear hs hx hl hh
 go_enter func50, ntmps50
 go_upto_region 1 with (fail)
 refine wst1 fun W1 ks B1 => ?_
 go_wp2
 go_loopw [6, 7, 8] (fun u v i wr => ∃ k : Nat, k ≤ n ∧ i = .int .i64 k ∧ Bk wr w.heap.size 90 #[ax, at_, lo, hi] ∧ Ints wr (w.heap.size + 1) u (ix (isL ax lo hi at_) V k) ∧ Ints wr (w.heap.size + 1) v (ix (fun b => !isL ax lo hi at_ b) V k) ∧ Apart2 u v ∧ Below w.heap.size w wr ∧ w.heap.size + 1 ≤ wr.heap.size) (fun u v i _ => n - (intOf i).toNat)
 case atStart => exact ⟨0, by omega, rfl, ks, World.ownsRow_nil _ _ _ _, World.ownsRow_nil _ _ _ _, (fun j h => by cases h), B1, ks.lt⟩
 case round =>
  clear ks B1
  obtain ⟨k, hk, rfl, ks, hu, hv, hap, BO, hsz⟩ := hrel
  by_cases hlt : k < n
  · have KL := zh (fun w => KLH.out (V k) w)
    obtain ⟨_, _, hsl, _, hS⟩ := HS.out
    cases hsl
    obtain ⟨bb, off, rfl, hbb, hcell⟩ := hS.resolve_left (by omega)
    have x0 : w.cell? ⟨bb, off + k * 6, none⟩ = some (.int .i64 (V k).1.1) := hcell k hlt 0 (by omega)
    have x1 : w.cell? ⟨bb, off + k * 6 + 1, none⟩ = some (.int .i64 (V k).1.2.1) := hcell k hlt 1 (by omega)
    have x2 : w.cell? ⟨bb, off + k * 6 + 2, none⟩ = some (.int .i64 (V k).1.2.2) := hcell k hlt 2 (by omega)
    have x3 : w.cell? ⟨bb, off + k * 6 + 3, none⟩ = some (.int .i64 (V k).2.1) := hcell k hlt 3 (by omega)
    have x4 : w.cell? ⟨bb, off + k * 6 + 4, none⟩ = some (.int .i64 (V k).2.2.1) := hcell k hlt 4 (by omega)
    have x5 : w.cell? ⟨bb, off + k * 6 + 5, none⟩ = some (.int .i64 (V k).2.2.2) := hcell k hlt 5 (by omega)
    clear hcell hS
    change Hid (∀ w, Rt prog 82 #[.agg #[ax, at_, lo, hi], .agg #[(V k).1.1, (V k).1.2.1, (V k).1.2.2, (V k).2.1, (V k).2.2.1, (V k).2.2.2]] w (.bool (isL ax lo hi at_ (V k)))) at KL
    obtain ⟨z, hz⟩ := nmd (isL ax lo hi at_ (V k))
    rw [← hz] at KL
    clear KLH
    obtain ⟨vk, hvk⟩ := nmd (V k)
    rw [← hvk] at x0 x1 x2 x3 x4 x5 KL hz
    have HVK := zh hvk
    clear hvk
    obtain ⟨⟨v1, v2, v3⟩, v4, v5, v6⟩ := vk
    dsimp only at x0 x1 x2 x3 x4 x5 KL
    have HZ := zh hz
    clear hz
    cases z with
    | true =>
     have B1 := BO
     have cs := bwc4 ks
     have ce0 := bwB B1 x0 hbb
     have ce1 := bwB B1 x1 hbb
     have ce2 := bwB B1 x2 hbb
     have ce3 := bwB B1 x3 hbb
     have ce4 := bwB B1 x4 hbb
     have ce5 := bwB B1 x5 hbb
     refine bws fun p1 => ?_
     go_upto_region 5 with (fail)
     refine z03 (by kernel_rfl) (by kernel_rfl) ?_
     repeat (go_big_quiet_step ((go_at_call 82; (with_reducible exact z02 KL.out _))))
     refine wpQuiet_nil ?_
     intro _ hw'
     obtain ⟨q, rfl⟩ := hw'
     go_upto_region 6 with (fail)
     have hu := hu.below q.h
     have hv := hv.below q.h
     have ks := ks.below q.h
     have hsz2 := (z00 B1 q).size
     have BQ := z00 B1 q
     have hlu : (ix (isL ax lo hi at_) V k).length ≤ k := ix_le _ _ _
     have hlv : (ix (fun b => !isL ax lo hi at_ b) V k).length ≤ k := ix_le _ _ _
     have hlq : w.heap.size + 1 ≤ q.w.heap.size := ks.lt
     go_wp2_with (at_builtin; refine z06 rfl _ _ 33 rfl (w.heap.size + 1) 3 i0 (.int .i64 0) 1 8 Tryz.underlying33 hi0 hz0 hz1 hz2 rfl (by decide) _ _ _ rfl (World.ownsRow.alloc hu _) ⟨q.w.heap.size, 0, none⟩ 1 1 [.int .i64 (k : Int)] rfl rfl ?g1 ?g2 ?g3 ?g4 ?g5 ?_)
     case g1 => exact cell_one_new _ _ _
     case g2 => intro u hu; simp only [List.mem_cons, List.not_mem_nil, or_false] at hu; rw [hu]; rfl
     case g3 => unfold maxLen; omega
     case g4 => omega
     case g5 => simp; omega
     intro v' w1 hown hgrow hat
     obtain ⟨r1, r2, r3⟩ := Ints.put hown (World.ownsRow.alloc hv _) hap hgrow (by simpa using hat)
     have hk1 : Bk w1 w.heap.size 90 #[ax, at_, lo, hi] := Bk.grown (ks.alloc _) hgrow (fun e => by have := (World.ownsRow.lt hu _ e.symm).1; omega)
     have hb1 : Below w.heap.size w w1 := (BQ.alloc (by omega) _).grown hgrow (by simp; omega) (fun j ej => by have := (World.ownsRow.lt hu _ ej).1; omega)
     have hs1 : w.heap.size + 1 ≤ w1.heap.size := hk1.lt
     have eu : ix (isL ax lo hi at_) V (k + 1) = ix (isL ax lo hi at_) V k ++ [k] := by rw [ix_succ, ← HVK.out, if_pos (by rw [← HZ.out]; first | done | decide)]
     have ev : ix (fun b => !isL ax lo hi at_ b) V (k + 1) = ix (fun b => !isL ax lo hi at_ b) V k ++ [] := by rw [ix_succ, ← HVK.out, if_neg (by rw [← HZ.out]; first | done | decide)]
     go_wp2
     go_roundw
     case rel => exact ⟨k + 1, by omega, by go_num, hk1, (by rw [eu]; exact r1), (by rw [ev]; exact (by rw [List.append_nil]; exact r2)), r3, hb1, hs1⟩
     case measure => simp [intOf]; omega
    | false =>
     have B1 := BO
     have cs := bwc4 ks
     have ce0 := bwB B1 x0 hbb
     have ce1 := bwB B1 x1 hbb
     have ce2 := bwB B1 x2 hbb
     have ce3 := bwB B1 x3 hbb
     have ce4 := bwB B1 x4 hbb
     have ce5 := bwB B1 x5 hbb
     refine bws fun p1 => ?_
     go_upto_region 5 with (fail)
     refine z03 (by kernel_rfl) (by kernel_rfl) ?_
     repeat (go_big_quiet_step ((go_at_call 82; (with_reducible exact z02 KL.out _))))
     refine wpQuiet_nil ?_
     intro _ hw'
     obtain ⟨q, rfl⟩ := hw'
     go_upto_region 7 with (fail)
     have hu := hu.below q.h
     have hv := hv.below q.h
     have ks := ks.below q.h
     have hsz2 := (z00 B1 q).size
     have BQ := z00 B1 q
     have hlu : (ix (isL ax lo hi at_) V k).length ≤ k := ix_le _ _ _
     have hlv : (ix (fun b => !isL ax lo hi at_ b) V k).length ≤ k := ix_le _ _ _
     have hlq : w.heap.size + 1 ≤ q.w.heap.size := ks.lt
     go_wp2_with (at_builtin; refine z06 rfl _ _ 33 rfl (w.heap.size + 1) 3 i0 (.int .i64 0) 1 8 Tryz.underlying33 hi0 hz0 hz1 hz2 rfl (by decide) _ _ _ rfl (World.ownsRow.alloc hv _) ⟨q.w.heap.size, 0, none⟩ 1 1 [.int .i64 (k : Int)] rfl rfl ?g1 ?g2 ?g3 ?g4 ?g5 ?_)
     case g1 => exact cell_one_new _ _ _
     case g2 => intro u hu; simp only [List.mem_cons, List.not_mem_nil, or_false] at hu; rw [hu]; rfl
     case g3 => unfold maxLen; omega
     case g4 => omega
     case g5 => simp; omega
     intro v' w1 hown hgrow hat
     obtain ⟨r1, r2, r3⟩ := Ints.put hown (World.ownsRow.alloc hu _) hap.symm hgrow (by simpa using hat)
     have hk1 : Bk w1 w.heap.size 90 #[ax, at_, lo, hi] := Bk.grown (ks.alloc _) hgrow (fun e => by have := (World.ownsRow.lt hv _ e.symm).1; omega)
     have hb1 : Below w.heap.size w w1 := (BQ.alloc (by omega) _).grown hgrow (by simp; omega) (fun j ej => by have := (World.ownsRow.lt hv _ ej).1; omega)
     have hs1 : w.heap.size + 1 ≤ w1.heap.size := hk1.lt
     have eu : ix (isL ax lo hi at_) V (k + 1) = ix (isL ax lo hi at_) V k ++ [] := by rw [ix_succ, ← HVK.out, if_neg (by rw [← HZ.out]; first | done | decide)]
     have ev : ix (fun b => !isL ax lo hi at_ b) V (k + 1) = ix (fun b => !isL ax lo hi at_ b) V k ++ [k] := by rw [ix_succ, ← HVK.out, if_pos (by rw [← HZ.out]; first | done | decide)]
     go_wp2
     go_roundw
     case rel => exact ⟨k + 1, by omega, by go_num, hk1, (by rw [eu]; exact (by rw [List.append_nil]; exact r2)), (by rw [ev]; exact r1), r3.symm, hb1, hs1⟩
     case measure => simp [intOf]; omega
  · obtain rfl : k = n := by omega
    go_wp2
    go_ret2
    exact ⟨_, _, rfl, hu.mono (by omega), hv.mono (by omega), BO⟩
theorem intslice_down15 {w w' : World} {a : Option Addr} {n : Nat} {Z : Nat → Int} (h : IntSlice w a n Z) (hb : Below w.heap.size w w') : IntSlice w' a n Z := by
 rcases h with h | ⟨b, off, e, hc, hlt⟩
 · exact .inl h
 · exact .inr ⟨b, off, e, fun k hk => ⟨(hb.cell (p := ⟨b, off + k, none⟩) hlt).trans (hc k hk).1, (hc k hk).2⟩, zl hlt hb.size⟩
theorem boxes_at {w : World} {a : Option Addr} {n cap : Nat} {V : Nat → Bx} (h : Boxes w (.slice a n cap) n V) {k : Nat} (hk : k < n) : ∃ b off, a = some ⟨b, off, none⟩ ∧ b < w.heap.size ∧
  w.cell? ⟨b, off + k * 6, none⟩ = some (.int .i64 (V k).1.1) ∧ w.cell? ⟨b, off + k * 6 + 1, none⟩ = some (.int .i64 (V k).1.2.1) ∧ w.cell? ⟨b, off + k * 6 + 2, none⟩ = some (.int .i64 (V k).1.2.2) ∧
  w.cell? ⟨b, off + k * 6 + 3, none⟩ = some (.int .i64 (V k).2.1) ∧ w.cell? ⟨b, off + k * 6 + 4, none⟩ = some (.int .i64 (V k).2.2.1) ∧ w.cell? ⟨b, off + k * 6 + 5, none⟩ = some (.int .i64 (V k).2.2.2) := by
 obtain ⟨_, _, e, _, hS⟩ := h
 cases e
 obtain ⟨b, off, rfl, hb, hc⟩ := hS.resolve_left (by omega)
 exact ⟨b, off, rfl, hb, hc k hk 0 (by omega), hc k hk 1 (by omega), hc k hk 2 (by omega), hc k hk 3 (by omega), hc k hk 4 (by omega), hc k hk 5 (by omega)⟩
theorem ref15_part (a : Option Addr) (n cap : Nat) (V : Nat → Bx) (o : Option Addr) (cp : Nat) (ws : List Nat) (w : World) (hs : Boxes w (.slice a n cap) n V) (hi : IntSlice w o ws.length (fun i => ((ws.getD i 0 : Nat) : Int))) (hne : ws ≠ []) (hlt : ∀ k ∈ ws, k < n) (hr : ∀ k ∈ ws, bRight (V k) = true) (hl : ws.length ≤ 1024) :
  Rt prog 111 #[.slice a n cap, .slice o ws.length cp] w (.int .i64 (bArea (around V ws ws.length) * ws.length)) := by
 have HS := zh hs
 have HI := zh hi
 have hm : 0 < ws.length := by cases ws with | nil => exact absurd rfl hne | cons x l => simp
 have hget : ∀ k, k < ws.length → ws.getD k 0 ∈ ws := fun k hk => by rw [List.getD_eq_getElem?_getD, List.getElem?_eq_getElem hk]; exact List.getElem_mem _
 have HLT := zh (fun k hk => hlt _ (hget k hk))
 have HR := zh (fun k hk => hr _ (hget k hk))
 have har := around_right hne hr
 have HAR := zh har
 have HAS := zh (fun k => around_succ V ws k)
 have HA0 := zh (show around V ws 0 = V (ws.getD 0 0) from rfl)
 have hae := bArea_in (around V ws ws.length)
 have KAe := zh (fun w => ref10_Area (around V ws ws.length).1.1 (around V ws ws.length).1.2.1 (around V ws ws.length).1.2.2 (around V ws ws.length).2.1 (around V ws ws.length).2.2.1 (around V ws ws.length).2.2.2 w)
 change Hid (∀ w, Rt prog 127 #[.agg #[(around V ws ws.length).1.1, (around V ws ws.length).1.2.1, (around V ws ws.length).1.2.2, (around V ws ws.length).2.1, (around V ws ws.length).2.2.1, (around V ws ws.length).2.2.2]] w (.int .i64 (bArea (around V ws ws.length)))) at KAe
 obtain ⟨ae, hE⟩ := nmd (bArea (around V ws ws.length))
 rw [← hE] at hae KAe ⊢
 clear hE har
 obtain ⟨m, hmm⟩ := nmd (ws.length)
 rw [← hmm] at HLT HR HAR HI hl hm KAe ⊢
 clear hmm hs hi hlt hr hne hget
 have hb1 := Int.mul_nonneg hae.1 (show 0 ≤ (m : Int) by omega)
 have hb2 := Int.mul_le_mul hae.2 (show (m : Int) ≤ 1024 by omega) (by omega) (by omega)
 have ew : wrap64 (ae * m) = ae * m := IntWalk.wrap64_in _ (by omega)
 have EW := zh ew
 clear hb1 hb2 ew hae
 obtain ⟨bo, oo, rfl, hic, hbo⟩ := HI.out.resolve_left (by omega)
 have HIC := zh hic
 have y0 : w.cell? ⟨bo, oo, none⟩ = some (.int .i64 ((ws.getD 0 0 : Nat) : Int)) := (hic 0 hm).1
 obtain ⟨z, hz⟩ := nmd (ws.getD 0 0)
 have hzn : z < n := by rw [hz]; exact HLT.out 0 hm
 rw [← hz] at y0 HA0
 clear hz hic
 obtain ⟨bb, off, rfl, hbb, x0, x1, x2, x3, x4, x5⟩ := boxes_at HS.out hzn
 obtain ⟨vk, hvk⟩ := nmd (V z)
 rw [← hvk] at x0 x1 x2 x3 x4 x5 HA0
 clear hvk
 obtain ⟨⟨v1, v2, v3⟩, v4, v5, v6⟩ := vk
 dsimp only at x0 x1 x2 x3 x4 x5
 go_enter func111, ntmps111
 go_upto_region 2 with (fail)
 refine wst1 fun W1 kb B1 => ?_
 clear x0 x1 x2 x3 x4 x5 y0
 go_wp2
 go_loopw [6] (fun i wr => ∃ k : Nat, k ≤ m ∧ i = .int .i64 k ∧ Bk wr w.heap.size 61 #[(around V ws k).1.1, (around V ws k).1.2.1, (around V ws k).1.2.2, (around V ws k).2.1, (around V ws k).2.2.1, (around V ws k).2.2.2] ∧ Below w.heap.size w wr) (fun i _ => m - (intOf i).toNat)
 case atStart => exact ⟨0, by omega, rfl, (by rw [HA0.out]; exact kb), B1⟩
 case round =>
  clear kb B1
  obtain ⟨k, hk, rfl, kb, BO⟩ := hrel
  by_cases hlt : k < m
  · have y0 : w.cell? ⟨bo, oo + k, none⟩ = some (.int .i64 ((ws.getD k 0 : Nat) : Int)) := (HIC.out k hlt).1
    have hzn : ws.getD k 0 < n := HLT.out k hlt
    have KJ := zh (fun w => ref10_Join (around V ws k).1.1 (around V ws k).1.2.1 (around V ws k).1.2.2 (around V ws k).2.1 (around V ws k).2.2.1 (around V ws k).2.2.2 (V (ws.getD k 0)).1.1 (V (ws.getD k 0)).1.2.1 (V (ws.getD k 0)).1.2.2 (V (ws.getD k 0)).2.1 (V (ws.getD k 0)).2.2.1 (V (ws.getD k 0)).2.2.2 w)
    change Hid (∀ w, Rt prog 68 #[.agg #[(around V ws k).1.1, (around V ws k).1.2.1, (around V ws k).1.2.2, (around V ws k).2.1, (around V ws k).2.2.1, (around V ws k).2.2.2], .agg #[(V (ws.getD k 0)).1.1, (V (ws.getD k 0)).1.2.1, (V (ws.getD k 0)).1.2.2, (V (ws.getD k 0)).2.1, (V (ws.getD k 0)).2.2.1, (V (ws.getD k 0)).2.2.2]] w (.agg #[(bJoin (around V ws k) (V (ws.getD k 0))).1.1, (bJoin (around V ws k) (V (ws.getD k 0))).1.2.1, (bJoin (around V ws k) (V (ws.getD k 0))).1.2.2, (bJoin (around V ws k) (V (ws.getD k 0))).2.1, (bJoin (around V ws k) (V (ws.getD k 0))).2.2.1, (bJoin (around V ws k) (V (ws.getD k 0))).2.2.2])) at KJ
    have HN := zh (HAS.out k)
    obtain ⟨jn, hjn⟩ := nmd (bJoin (around V ws k) (V (ws.getD k 0)))
    rw [← hjn] at KJ HN
    clear hjn
    obtain ⟨z, hz⟩ := nmd (ws.getD k 0)
    rw [← hz] at y0 hzn KJ
    clear hz
    obtain ⟨_, _, hsl, hbb2, x0, x1, x2, x3, x4, x5⟩ := boxes_at HS.out hzn
    cases hsl
    obtain ⟨vk, hvk⟩ := nmd (V z)
    rw [← hvk] at x0 x1 x2 x3 x4 x5 KJ
    clear hvk
    obtain ⟨ak, hak⟩ := nmd (around V ws k)
    rw [← hak] at kb KJ
    clear hak
    obtain ⟨⟨v1, v2, v3⟩, v4, v5, v6⟩ := vk
    obtain ⟨⟨a1, a2, a3⟩, a4, a5, a6⟩ := ak
    obtain ⟨⟨r1, r2, r3⟩, r4, r5, r6⟩ := jn
    dsimp only at x0 x1 x2 x3 x4 x5 KJ kb
    have B1 := BO
    have cb := bwc6 kb
    have fb := bwf6 kb
    have ce0 : ∀ p : BW wr, p.w.cell? ⟨bb, off + z * 6, none⟩ = some (.int .i64 v1) := bwB B1 x0 hbb
    have ce1 : ∀ p : BW wr, p.w.cell? ⟨bb, off + z * 6 + 1, none⟩ = some (.int .i64 v2) := bwB B1 x1 hbb
    have ce2 : ∀ p : BW wr, p.w.cell? ⟨bb, off + z * 6 + 2, none⟩ = some (.int .i64 v3) := bwB B1 x2 hbb
    have ce3 : ∀ p : BW wr, p.w.cell? ⟨bb, off + z * 6 + 3, none⟩ = some (.int .i64 v4) := bwB B1 x3 hbb
    have ce4 : ∀ p : BW wr, p.w.cell? ⟨bb, off + z * 6 + 4, none⟩ = some (.int .i64 v5) := bwB B1 x4 hbb
    have ce5 : ∀ p : BW wr, p.w.cell? ⟨bb, off + z * 6 + 5, none⟩ = some (.int .i64 v6) := bwB B1 x5 hbb
    have cy : ∀ p : BW wr, p.w.cell? ⟨bo, oo + k, none⟩ = some (.int .i64 (z : Int)) := bwB B1 y0 hbo
    refine bws fun p1 => ?_
    go_upto_region 5 with (fail)
    refine z0h 9 (by kernel_rfl) (by kernel_rfl) (by kernel_rfl) ?_
    simp only [List.take_succ_cons, List.take_zero, List.drop_succ_cons, List.drop_zero]
    repeat (go_big_quiet_step ((go_at_call 68; (with_reducible exact z02 KJ.out _))))
    refine wpQuiet_nil ?_
    intro _ hw'
    obtain ⟨q, rfl⟩ := hw'
    go_wp2
    go_roundw
    case rel => exact ⟨k + 1, by omega, by go_num, (by rw [HN.out]; exact bkp6 (kb.below (BW.h _)) _ _ _ _ _ _), blp6 (z00 B1 _) (by omega)⟩
    case measure => simp [intOf]; omega
  · obtain rfl : k = m := by omega
    skip
    have B1 := BO
    have ew := EW.out
    have cb := bwc6 kb
    refine bws fun p1 => ?_
    go_wp2_with ((go_at_call 127; (with_reducible refine (z02 KAe.out _).mono ?_); rintro e w' ⟨rfl, q, rfl⟩))
    go_ret
    exact ⟨z0m ew, z00 B1 _⟩
theorem allBin_more {ax lo hi : Int} {V : Nat → Bx} {k : Nat} (h : allBin ax lo hi (bls V k) = true) (h2 : 0 ≤ bBin (V k) ax lo hi) : allBin ax lo hi (bls V (k + 1)) = true := by
 rw [allBin_iff] at *
 intro b hb
 rw [bls_succ] at hb
 rcases List.mem_append.1 hb with hb | hb
 · exact h b hb
 · simp at hb; rw [hb]; exact h2
theorem allBin_no {ax lo hi : Int} {V : Nat → Bx} {k n : Nat} (h : bBin (V k) ax lo hi < 0) (hk : k < n) : allBin ax lo hi (bls V n) = false := by
 cases e : allBin ax lo hi (bls V n) with
 | false => rfl
 | true => have := allBin_iff.1 e (V k) (bls_mem.2 ⟨k, hk, rfl⟩); omega
theorem ref15_Cost (a : Option Addr) (n cap : Nat) (V : Nat → Bx) (ax at_ lo hi : Int) (w : World) (hs : Boxes w (.slice a n cap) n V) (hx : I64 ax) (hl : I64 lo) (hh : I64 hi) (hn : n ≤ 1024) :
  Rt prog 81 #[.agg #[ax, at_, lo, hi], .slice a n cap] w (.tuple #[.int .i64 (sCost ax lo hi at_ (bls V n)), .bool (sOk ax lo hi at_ (bls V n))]) := by
 have HS := zh hs
 have KBH := zh (fun (b : Bx) w => ref15_Bin b.1.1 b.1.2.1 b.1.2.2 b.2.1 b.2.2.1 b.2.2.2 ax lo hi w hx hl hh)
 have KSD := zh (fun X (hX : Below w.heap.size w X) => ref15_Sides a n cap V ax at_ lo hi X (hs.below hX (Nat.le_refl _)) hx hl hh hn)
 have t1 : decide ((1024 : Int) < n) = false := zf (by omega)
 have hll : (bls V n).length ≤ 1024 := by rw [bls_len]; exact hn
 have HN := zh hn
 have HLL := zh hll
 clear hs hx hl hh hll
 go_enter func81, ntmps81
 go_upto_region 1 with (fail)
 refine wst1 fun W1 ks B1 => ?_
 have cs := bwc4 ks
 refine bws fun p1 => ?_
 go_wp2
 go_loopw [6] (fun i wr => ∃ (k : Nat) (q : BW W1), k ≤ n ∧ i = .int .i64 k ∧ wr = q.w ∧ allBin ax lo hi (bls V k) = true) (fun i _ => n - (intOf i).toNat)
 case atStart => exact ⟨0, p1, by omega, rfl, rfl, rfl⟩
 case round =>
  obtain ⟨k, p3, hk, rfl, rfl, hall⟩ := hrel
  have HALL := zh hall
  clear hall
  by_cases hlt : k < n
  · have KB := zh (fun w => KBH.out (V k) w)
    clear KSD
    obtain ⟨_, _, hsl, _, hS⟩ := HS.out
    cases hsl
    obtain ⟨bb, off, rfl, hbb, hcell⟩ := hS.resolve_left (by omega)
    have x0 : w.cell? ⟨bb, off + k * 6, none⟩ = some (.int .i64 (V k).1.1) := hcell k hlt 0 (by omega)
    have x1 : w.cell? ⟨bb, off + k * 6 + 1, none⟩ = some (.int .i64 (V k).1.2.1) := hcell k hlt 1 (by omega)
    have x2 : w.cell? ⟨bb, off + k * 6 + 2, none⟩ = some (.int .i64 (V k).1.2.2) := hcell k hlt 2 (by omega)
    have x3 : w.cell? ⟨bb, off + k * 6 + 3, none⟩ = some (.int .i64 (V k).2.1) := hcell k hlt 3 (by omega)
    have x4 : w.cell? ⟨bb, off + k * 6 + 4, none⟩ = some (.int .i64 (V k).2.2.1) := hcell k hlt 4 (by omega)
    have x5 : w.cell? ⟨bb, off + k * 6 + 5, none⟩ = some (.int .i64 (V k).2.2.2) := hcell k hlt 5 (by omega)
    clear hcell hS
    change Hid (∀ w, Rt prog 110 #[.agg #[(V k).1.1, (V k).1.2.1, (V k).1.2.2, (V k).2.1, (V k).2.2.1, (V k).2.2.2], ax, lo, hi] w (.int .i64 (bBin (V k) ax lo hi))) at KB
    obtain ⟨z, hz⟩ := nmd (bBin (V k) ax lo hi)
    rw [← hz] at KB
    clear KBH
    obtain ⟨vk, hvk⟩ := nmd (V k)
    rw [← hvk] at x0 x1 x2 x3 x4 x5 KB hz
    have HVK := zh hvk
    clear hvk
    obtain ⟨⟨v1, v2, v3⟩, v4, v5, v6⟩ := vk
    dsimp only at x0 x1 x2 x3 x4 x5 KB
    have HZ := zh hz
    clear hz
    have ce0 := bwB B1 x0 hbb
    have ce1 := bwB B1 x1 hbb
    have ce2 := bwB B1 x2 hbb
    have ce3 := bwB B1 x3 hbb
    have ce4 := bwB B1 x4 hbb
    have ce5 := bwB B1 x5 hbb
    by_cases hneg : z < 0
    · have tz : decide (z < 0) = true := zt hneg
      have HNG := zh hneg
      clear hneg
      go_upto_region 6 with (fail)
      refine z03 (by kernel_rfl) (by kernel_rfl) ?_
      repeat (go_big_quiet_step ((go_at_call 110; (with_reducible exact z02 KB.out _))))
      refine wpQuiet_nil ?_
      intro _ hw'
      obtain ⟨q, rfl⟩ := hw'
      go_wp2
      go_ret2
      have hno : allBin ax lo hi (bls V n) = false := allBin_no (k := k) (by rw [← HVK.out]; have := HZ.out; have := HNG.out; omega) hlt
      have hok : sOk ax lo hi at_ (bls V n) = false := by unfold sOk; rw [hno]; simp
      exact ⟨by rw [hok]; unfold sCost; rw [hok]; rfl, z00 B1 q⟩
    · have tz : decide (z < 0) = false := zf hneg
      have HNG := zh hneg
      clear hneg
      go_upto_region 6 with (fail)
      refine z03 (by kernel_rfl) (by kernel_rfl) ?_
      repeat (go_big_quiet_step ((go_at_call 110; (with_reducible exact z02 KB.out _))))
      refine wpQuiet_nil ?_
      intro _ hw'
      obtain ⟨q, rfl⟩ := hw'
      go_wp2
      go_roundw
      case rel => exact ⟨k + 1, q, by omega, by go_num, rfl, allBin_more HALL.out (by rw [← HVK.out]; have := HZ.out; have := HNG.out; omega)⟩
      case measure => simp [intOf]; omega
  · obtain rfl : k = n := by omega
    clear KBH
    have hbin := allBin_iff.1 HALL.out
    have hright : ∀ b ∈ bls V k, bRight b = true := fun b hb => (bBin_nonneg.1 (hbin b hb)).1
    have hu1 := ix_len (isL ax lo hi at_) V k
    have hu2 := ix_len (fun b => !isL ax lo hi at_ b) V k
    have hk1 : ∀ j ∈ ix (isL ax lo hi at_) V k, j < k := fun j hj => ix_lt hj
    have hk2 : ∀ j ∈ ix (fun b => !isL ax lo hi at_ b) V k, j < k := fun j hj => ix_lt hj
    have hr1 : ∀ j ∈ ix (isL ax lo hi at_) V k, bRight (V j) = true := fun j hj => hright _ (bls_mem.2 ⟨j, hk1 j hj, rfl⟩)
    have hr2 : ∀ j ∈ ix (fun b => !isL ax lo hi at_ b) V k, bRight (V j) = true := fun j hj => hright _ (bls_mem.2 ⟨j, hk2 j hj, rfl⟩)
    have hle1 : (ix (isL ax lo hi at_) V k).length ≤ k := ix_le _ _ _
    have hle2 : (ix (fun b => !isL ax lo hi at_ b) V k).length ≤ k := ix_le _ _ _
    have hvi := sVal_in (ax := ax) (lo := lo) (hi := hi) (a := at_) HLL.out
    have hv1 : (gL (isL ax lo hi at_) (bls V k)).2 ≠ 0 → _ := fun h => around_cost h hright
    have hv2 : (gL (fun b => !isL ax lo hi at_ b) (bls V k)).2 ≠ 0 → _ := fun h => around_cost h hright
    have hsk : sOk ax lo hi at_ (bls V k) = (decide ((ix (isL ax lo hi at_) V k).length ≠ 0) && decide ((ix (fun b => !isL ax lo hi at_ b) V k).length ≠ 0)) := by
     unfold sOk
     rw [HALL.out, zt HLL.out, hu1, hu2]
     rfl
    have hsv : sVal ax lo hi at_ (bls V k) = gCost (gL (isL ax lo hi at_) (bls V k)) + gCost (gL (fun b => !isL ax lo hi at_ b) (bls V k)) := rfl
    have KP1 := fun X o cp (hX : Below w.heap.size w X) (hI : IntSlice X o (ix (isL ax lo hi at_) V k).length (fun i => (((ix (isL ax lo hi at_) V k).getD i 0 : Nat) : Int))) (hne : ix (isL ax lo hi at_) V k ≠ []) => ref15_part a k cap V o cp (ix (isL ax lo hi at_) V k) X (HS.out.below hX (Nat.le_refl _)) hI hne hk1 hr1 (by have := HN.out; omega)
    have KP2 := fun X o cp (hX : Below w.heap.size w X) (hI : IntSlice X o (ix (fun b => !isL ax lo hi at_ b) V k).length (fun i => (((ix (fun b => !isL ax lo hi at_ b) V k).getD i 0 : Nat) : Int))) (hne : ix (fun b => !isL ax lo hi at_ b) V k ≠ []) => ref15_part a k cap V o cp (ix (fun b => !isL ax lo hi at_ b) V k) X (HS.out.below hX (Nat.le_refl _)) hI hne hk2 hr2 (by have := HN.out; omega)
    rw [← hu1] at hv1
    rw [← hu2] at hv2
    have hsc : sCost ax lo hi at_ (bls V k) = if sOk ax lo hi at_ (bls V k) = true then sVal ax lo hi at_ (bls V k) else 0 := rfl
    rw [hsk, hsv] at hsc
    rw [hsv] at hvi
    have hk1' : ∀ j ∈ ix (isL ax lo hi at_) V k, j ≤ 1048576 := fun j hj => by have := hk1 j hj; have := HN.out; omega
    have hk2' : ∀ j ∈ ix (fun b => !isL ax lo hi at_ b) V k, j ≤ 1048576 := fun j hj => by have := hk2 j hj; have := HN.out; omega
    have HSC := zh hsc
    have HSK := zh hsk
    have HK1 := zh hk1'
    have HK2 := zh hk2'
    clear hk1 hk2 hr1 hr2 hle1 hle2 hsk hsv hsc hbin hright hu1 hu2 hk1' hk2' HALL HLL
    generalize ix (isL ax lo hi at_) V k = l1 at *
    generalize ix (fun b => !isL ax lo hi at_ b) V k = l2 at *
    generalize gCost (gL (isL ax lo hi at_) (bls V k)) = c1 at *
    generalize gCost (gL (fun b => !isL ax lo hi at_ b) (bls V k)) = c2 at *
    by_cases hz1 : l1 = []
    · subst hz1
      clear KP1 KP2 hv1 hv2 hvi
      go_wp2_with (go_at_call 50; refine (KSD.out _ (z00 B1 _)).mono ?_; rintro e w1 ⟨u, v, rfl, hu, hv, hb⟩; obtain ⟨o1, cp1, rfl, hi1⟩ := Ints.slice hu HK1.out; obtain ⟨o2, cp2, rfl, hi2⟩ := Ints.slice hv HK2.out; clear hu hv; obtain ⟨q, rfl⟩ := z04 hb)
      go_ret2
      exact ⟨by rw [HSC.out, HSK.out]; simp, z00 B1 _⟩
    have n1 : l1.length ≠ 0 := fun h => hz1 (List.length_eq_zero_iff.1 h)
    have z1 : ((l1.length : Int) == 0) = false := by rw [beq_eq_false_iff_ne]; omega
    by_cases hz2 : l2 = []
    · subst hz2
      clear KP1 KP2 hv1 hv2 hvi
      go_wp2_with (go_at_call 50; refine (KSD.out _ (z00 B1 _)).mono ?_; rintro e w1 ⟨u, v, rfl, hu, hv, hb⟩; obtain ⟨o1, cp1, rfl, hi1⟩ := Ints.slice hu HK1.out; obtain ⟨o2, cp2, rfl, hi2⟩ := Ints.slice hv HK2.out; clear hu hv; obtain ⟨q, rfl⟩ := z04 hb)
      go_ret2
      exact ⟨by rw [HSC.out, HSK.out]; simp, z00 B1 _⟩
    have n2 : l2.length ≠ 0 := fun h => hz2 (List.length_eq_zero_iff.1 h)
    have z2 : ((l2.length : Int) == 0) = false := by rw [beq_eq_false_iff_ne]; omega
    have HNE1 := zh hz1
    have HNE2 := zh hz2
    have e1 := hv1 n1
    have e2 := hv2 n2
    rw [e1] at KP1
    rw [e2] at KP2
    have KP1 := zh KP1
    have KP2 := zh KP2
    have ew : wrap64 (c1 + c2) = c1 + c2 := IntWalk.wrap64_in _ (by omega)
    have EW := zh ew
    have HE : Hid (sCost ax lo hi at_ (bls V k) = c1 + c2 ∧ sOk ax lo hi at_ (bls V k) = true) := zh (by
     rw [HSC.out, HSK.out, zt n1, zt n2]
     exact ⟨rfl, rfl⟩)
    clear hv1 hv2 hvi hz1 hz2 e1 e2 ew n1 n2 HSC HSK
    go_wp2_with (first | (go_at_call 50; refine (KSD.out _ (z00 B1 _)).mono ?_; rintro e w1 ⟨u, v, rfl, hu, hv, hb⟩; obtain ⟨o1, cp1, rfl, hi1⟩ := Ints.slice hu HK1.out; obtain ⟨o2, cp2, rfl, hi2⟩ := Ints.slice hv HK2.out; clear hu hv; obtain ⟨q, rfl⟩ := z04 hb) | (go_at_call 111; (with_reducible refine (KP1.out _ _ _ (z00 B1 _) hi1 HNE1.out).mono ?_); rintro e w2 ⟨rfl, hb2⟩; have hi2 := intslice_down15 hi2 hb2; obtain ⟨q2, rfl⟩ := z04 hb2) | (go_at_call 111; (with_reducible refine (KP2.out _ _ _ (z00 B1 _) hi2 HNE2.out).mono ?_); rintro e w3 ⟨rfl, hb3⟩; obtain ⟨q3, rfl⟩ := z04 hb3))
    go_ret2
    exact ⟨by rw [HE.out.1, HE.out.2]; first | rfl | (show Ending.returned (.tuple #[.int .i64 (wrap64 (c1 + c2)), .bool true]) = _; rw [EW.out]), z00 B1 _⟩
end
end
section
section
open Go.RowKit Go.Proofs.Sky
theorem ref15_Best_none (a : Option Addr) (n cap : Nat) (V : Nat → Bx) (w : World) (hs : Boxes w (.slice a n cap) n V) (hn : n ≤ 1024) (hr : allR (bls V n) = false) (KR : Hid (∀ (b : Bx) w, Rt prog 65 #[.agg #[b.1.1, b.1.2.1, b.1.2.2, b.2.1, b.2.2.1, b.2.2.2]] w (.bool (bRight b)))) :
  Rt prog 49 #[.slice a n cap] w (.tuple #[.agg #[.int .i64 0, .int .i64 0, .int .i64 0, .int .i64 0], .bool false]) := by
 have HS := zh hs
 have t1 : decide ((1024 : Int) < n) = false := zf (by omega)
 clear hs
 go_enter func49, ntmps49
 go_upto_region 1 with (fail)
 refine wst1 fun W1 k_r B1 => ?_
 have cr := bwc4 k_r
 have fr := bwf4 k_r
 refine bws fun p1 => ?_
 go_upto_region 2 with (fail)
 refine wnm fun W2 hW2 => ?_
 have B2 := bwA p1 hW2 B1
 have le : w.heap.size < p1.w.heap.size := (k_r.below p1.h).lt
 have oe : w.heap.size ≤ p1.w.heap.size := (z00 B1 p1).size
 have k_r := bka hW2 (k_r.below p1.h)
 have ke := bkn hW2
 clear hW2
 clear B1
 clear cr fr
 generalize p1.w.heap.size = ge at *
 have cr := bwc4 k_r
 have fr := bwf4 k_r
 have ce := bwc4 ke
 refine bws fun p2 => ?_
 go_wp2
 go_loopw [7] (fun i wr => ∃ (k : Nat) (q : BW W2), k ≤ n ∧ i = .int .i64 k ∧ wr = q.w ∧ ∀ j, j < k → bRight (V j) = true) (fun i _ => n - (intOf i).toNat)
 case atStart => exact ⟨0, p2, by omega, rfl, rfl, fun j h => absurd h (by omega)⟩
 case round =>
  obtain ⟨k, p3, hk, rfl, rfl, hall⟩ := hrel
  have HALL := zh hall
  clear hall
  by_cases hlt : k < n
  · have KRk := zh (fun w => KR.out (V k) w)
    obtain ⟨_, _, hsl, _, hS⟩ := HS.out
    cases hsl
    obtain ⟨bb, off, rfl, hbb, hcell⟩ := hS.resolve_left (by omega)
    have x0 : w.cell? ⟨bb, off + k * 6, none⟩ = some (.int .i64 (V k).1.1) := hcell k hlt 0 (by omega)
    have x1 : w.cell? ⟨bb, off + k * 6 + 1, none⟩ = some (.int .i64 (V k).1.2.1) := hcell k hlt 1 (by omega)
    have x2 : w.cell? ⟨bb, off + k * 6 + 2, none⟩ = some (.int .i64 (V k).1.2.2) := hcell k hlt 2 (by omega)
    have x3 : w.cell? ⟨bb, off + k * 6 + 3, none⟩ = some (.int .i64 (V k).2.1) := hcell k hlt 3 (by omega)
    have x4 : w.cell? ⟨bb, off + k * 6 + 4, none⟩ = some (.int .i64 (V k).2.2.1) := hcell k hlt 4 (by omega)
    have x5 : w.cell? ⟨bb, off + k * 6 + 5, none⟩ = some (.int .i64 (V k).2.2.2) := hcell k hlt 5 (by omega)
    clear hcell hS
    change Hid (∀ w, Rt prog 65 #[.agg #[(V k).1.1, (V k).1.2.1, (V k).1.2.2, (V k).2.1, (V k).2.2.1, (V k).2.2.2]] w (.bool (bRight (V k)))) at KRk
    obtain ⟨z, hz⟩ := nmd (bRight (V k))
    rw [← hz] at KRk
    obtain ⟨vk, hvk⟩ := nmd (V k)
    rw [← hvk] at x0 x1 x2 x3 x4 x5 KRk hz
    have HVK := zh hvk
    clear hvk
    obtain ⟨⟨v1, v2, v3⟩, v4, v5, v6⟩ := vk
    dsimp only at x0 x1 x2 x3 x4 x5 KRk
    have HZ := zh hz
    clear hz
    have ce0 := bwB B2 x0 hbb
    have ce1 := bwB B2 x1 hbb
    have ce2 := bwB B2 x2 hbb
    have ce3 := bwB B2 x3 hbb
    have ce4 := bwB B2 x4 hbb
    have ce5 := bwB B2 x5 hbb
    cases z with
    | false =>
     clear HS
     go_wp2_with ((go_at_call 65; (with_reducible refine (z02 KRk.out _).mono ?_); rintro e w' ⟨rfl, q, rfl⟩))
     have kr := bkp4 (k_r.below q.h) (.int .i64 0) (.int .i64 0) (.int .i64 0) (.int .i64 0)
     have rc := rwc4 kr
     exact bodyPost_ret (v := .tuple #[.agg #[.int .i64 0, .int .i64 0, .int .i64 0, .int .i64 0], .bool false]) (by simp [results, results49, go_sem, rc]) rfl ⟨rfl, blp4 (z00 B2 q) (by omega)⟩
    | true =>
     go_wp2_with ((go_at_call 65; (with_reducible refine (z02 KRk.out _).mono ?_); rintro e w' ⟨rfl, q, rfl⟩))
     go_roundw
     case rel => exact ⟨k + 1, q, by omega, by go_num, rfl, fun j hj => by
      by_cases e : j < k
      · exact HALL.out j e
      · obtain rfl : j = k := by omega
        rw [← HVK.out]; exact HZ.out.symm⟩
     case measure => simp [intOf]; omega
  · obtain rfl : k = n := by omega
    exfalso
    have : allR (bls V k) = true := by
     unfold allR
     rw [List.all_eq_true]
     intro b hb
     obtain ⟨j, hj, rfl⟩ := bls_mem.1 hb
     exact HALL.out j hj
    rw [this] at hr
    cases hr
theorem ref15_Best_empty (a : Option Addr) (cap : Nat) (w : World) :
  Rt prog 49 #[.slice a 0 cap] w (.tuple #[.agg #[.int .i64 0, .int .i64 0, .int .i64 0, .int .i64 0], .bool false]) := by
 go_enter func49, ntmps49
 go_upto_region 1 with (fail)
 refine wst1 fun W1 k_r B1 => ?_
 have cr := bwc4 k_r
 have fr := bwf4 k_r
 refine bws fun p1 => ?_
 go_upto_region 2 with (fail)
 refine wnm fun W2 hW2 => ?_
 have B2 := bwA p1 hW2 B1
 have le : w.heap.size < p1.w.heap.size := (k_r.below p1.h).lt
 have oe : w.heap.size ≤ p1.w.heap.size := (z00 B1 p1).size
 have k_r := bka hW2 (k_r.below p1.h)
 have ke := bkn hW2
 clear hW2
 clear B1
 clear cr fr
 generalize p1.w.heap.size = ge at *
 have cr := bwc4 k_r
 have fr := bwf4 k_r
 have ce := bwc4 ke
 refine bws fun p2 => ?_
 go_wp2
 refine wp_loop_rounds 1 ?_
 rw [rounds_succ]
 go_wp2
 refine wp_loop_rounds 1 ?_
 rw [rounds_succ]
 go_wp2
 have kr := bkp4 (k_r.below p2.h) (.int .i64 0) (.int .i64 0) (.int .i64 0) (.int .i64 0)
 have rc := rwc4 kr
 exact bodyPost_ret (v := .tuple #[.agg #[.int .i64 0, .int .i64 0, .int .i64 0, .int .i64 0], .bool false]) (by simp [results, results49, go_sem, rc]) rfl ⟨rfl, blp4 (z00 B2 p2) (by omega)⟩
theorem ref15_Best_yes (a : Option Addr) (n cap : Nat) (V : Nat → Bx) (w : World) (hs : Boxes w (.slice a n cap) n V) (hn : n ≤ 1024) (hpos : 0 < n) (HR : Hid (∀ k, k < n → bRight (V k) = true)) (KR : Hid (∀ (b : Bx) w, Rt prog 65 #[.agg #[b.1.1, b.1.2.1, b.1.2.2, b.2.1, b.2.2.1, b.2.2.2]] w (.bool (bRight b)))) (KM : Hid (∀ (k j : Nat) w, Rt prog 80 #[.agg #[(V j).1.1, (V j).1.2.1, (V j).1.2.2, (V j).2.1, (V j).2.2.1, (V j).2.2.2], .int .i64 (k : Int)] w (.int .i64 (bMid (V j) k)))) (KC : Hid (∀ (k j : Nat) X, k < 3 → j < 8 → Below w.heap.size w X → Rt prog 81 #[.agg #[.int .i64 (k : Int), .int .i64 (j : Int), .int .i64 (mnAt V k n), .int .i64 (mxAt V k n)], .slice a n cap] X (.tuple #[.int .i64 (sCost k (mnAt V k n) (mxAt V k n) j (bls V n)), .bool (sOk k (mnAt V k n) (mxAt V k n) j (bls V n))]))) :
  Rt prog 49 #[.slice a n cap] w (.tuple #[.agg #[(bOut V n 3).1.1, (bOut V n 3).1.2.1, (bOut V n 3).1.2.2.1, (bOut V n 3).1.2.2.2], .bool (bOut V n 3).2.2]) := by
 have HS := zh hs
 have t1 : decide ((1024 : Int) < n) = false := zf (by omega)
 clear hs
 go_enter func49, ntmps49
 go_upto_region 1 with (fail)
 refine wst1 fun W1 k_r B1 => ?_
 have cr := bwc4 k_r
 have fr := bwf4 k_r
 refine bws fun p1 => ?_
 go_upto_region 2 with (fail)
 refine wnm fun W2 hW2 => ?_
 have B2 := bwA p1 hW2 B1
 have le : w.heap.size < p1.w.heap.size := (k_r.below p1.h).lt
 have oe : w.heap.size ≤ p1.w.heap.size := (z00 B1 p1).size
 have k_r := bka hW2 (k_r.below p1.h)
 have ke := bkn hW2
 clear hW2
 clear B1
 clear cr fr
 generalize p1.w.heap.size = ge at *
 have cr := bwc4 k_r
 have ce := bwc4 ke
 refine bws fun p2 => ?_
 go_wp2
 go_loopw [7] (fun i wr => ∃ (k : Nat) (q : BW W2), k ≤ n ∧ i = .int .i64 k ∧ wr = q.w ∧ ∀ j, j < k → bRight (V j) = true) (fun i _ => n - (intOf i).toNat)
 case atStart => exact ⟨0, p2, by omega, rfl, rfl, fun j h => absurd h (by omega)⟩
 case round =>
  obtain ⟨k, p3, hk, rfl, rfl, hall⟩ := hrel
  have HALL := zh hall
  clear hall
  by_cases hlt : k < n
  · have KRk := zh (fun w => KR.out (V k) w)
    obtain ⟨_, _, hsl, _, hS⟩ := HS.out
    cases hsl
    obtain ⟨bb, off, rfl, hbb, hcell⟩ := hS.resolve_left (by omega)
    have x0 : w.cell? ⟨bb, off + k * 6, none⟩ = some (.int .i64 (V k).1.1) := hcell k hlt 0 (by omega)
    have x1 : w.cell? ⟨bb, off + k * 6 + 1, none⟩ = some (.int .i64 (V k).1.2.1) := hcell k hlt 1 (by omega)
    have x2 : w.cell? ⟨bb, off + k * 6 + 2, none⟩ = some (.int .i64 (V k).1.2.2) := hcell k hlt 2 (by omega)
    have x3 : w.cell? ⟨bb, off + k * 6 + 3, none⟩ = some (.int .i64 (V k).2.1) := hcell k hlt 3 (by omega)
    have x4 : w.cell? ⟨bb, off + k * 6 + 4, none⟩ = some (.int .i64 (V k).2.2.1) := hcell k hlt 4 (by omega)
    have x5 : w.cell? ⟨bb, off + k * 6 + 5, none⟩ = some (.int .i64 (V k).2.2.2) := hcell k hlt 5 (by omega)
    clear hcell hS
    change Hid (∀ w, Rt prog 65 #[.agg #[(V k).1.1, (V k).1.2.1, (V k).1.2.2, (V k).2.1, (V k).2.2.1, (V k).2.2.2]] w (.bool (bRight (V k)))) at KRk
    obtain ⟨z, hz⟩ := nmd (bRight (V k))
    rw [← hz] at KRk
    obtain ⟨vk, hvk⟩ := nmd (V k)
    rw [← hvk] at x0 x1 x2 x3 x4 x5 KRk hz
    have HVK := zh hvk
    clear hvk
    obtain ⟨⟨v1, v2, v3⟩, v4, v5, v6⟩ := vk
    dsimp only at x0 x1 x2 x3 x4 x5 KRk
    have HZ := zh hz
    clear hz
    have ce0 := bwB B2 x0 hbb
    have ce1 := bwB B2 x1 hbb
    have ce2 := bwB B2 x2 hbb
    have ce3 := bwB B2 x3 hbb
    have ce4 := bwB B2 x4 hbb
    have ce5 := bwB B2 x5 hbb
    cases z with
    | false =>
     exact absurd (HR.out k hlt) (by rw [← HVK.out, ← HZ.out]; simp)
    | true =>
     go_wp2_with ((go_at_call 65; (with_reducible refine (z02 KRk.out _).mono ?_); rintro e w' ⟨rfl, q, rfl⟩))
     go_roundw
     case rel => exact ⟨k + 1, q, by omega, by go_num, rfl, fun j hj => by
      by_cases e : j < k
      · exact HALL.out j e
      · obtain rfl : j = k := by omega
        rw [← HVK.out]; exact HZ.out.symm⟩
     case measure => simp [intOf]; omega
  · obtain rfl : k = n := by omega
    clear HALL HR KR
    have BW3 : Below w.heap.size w p3.w := z00 B2 p3
    have k_r := k_r.below p3.h
    have ke := ke.below p3.h
    clear B2
    go_wp2
    go_loopw [5, 6, 8] (fun lv fv i wr => ∃ (ka : Nat) (e1 e2 e3 e4 ls : Int) (fd : Bool), ka ≤ 3 ∧ i = .int .i64 ka ∧ ((e1, e2, e3, e4), ls, fd) = bOut V k ka ∧ lv = .int .i64 ls ∧ fv = .bool fd ∧ Bk wr w.heap.size 90 #[.int .i64 0, .int .i64 0, .int .i64 0, .int .i64 0] ∧ Bk wr ge 90 #[e1, e2, e3, e4] ∧ Below w.heap.size w wr) (fun _ _ i _ => 3 - (intOf i).toNat)
    case atStart => exact ⟨0, 0, 0, 0, 0, 0, false, by omega, rfl, rfl, rfl, rfl, k_r, ke, BW3⟩
    case round =>
     clear k_r ke BW3
     obtain ⟨ka, e1, e2, e3, e4, ls, fd, hka, rfl, hst, rfl, rfl, k_r, ke, BO⟩ := hrel
     by_cases hk3 : ka < 3
     · have hnx : bOut V k (ka + 1) = bIn ka (mnV V k ka) (mxV V k ka) (bls V k) (bOut V k ka) 7 := rfl
       rw [← hst] at hnx
       have hmn : mnV V k ka = mnAt V ka k ∧ mxV V k ka = mxAt V ka k := by unfold mnV mxV; rw [if_neg (by omega), if_neg (by omega)]; exact ⟨rfl, rfl⟩
       rw [hmn.1, hmn.2] at hnx
       have KCk := zh (fun (j : Nat) X (hj : j < 8) hX => KC.out ka j X hk3 hj hX)
       have HST := zh hst
       have HNX := zh hnx
       have HKA := zh hk3
       have KMk := zh (fun j w => KM.out ka j w)
       have HP := zh hpos
       have tk : decide ((ka : Int) < 3) = true := zt (by omega)
       have tp : decide ((0 : Int) < (k : Int)) = true := zt (by omega)
       clear hst hnx hmn
       have KM0 := zh (fun w => KMk.out 0 w)
       obtain ⟨bb, off, rfl, hbb, x0, x1, x2, x3, x4, x5⟩ := boxes_at HS.out hpos
       rw [Nat.zero_mul, Nat.add_zero] at x0 x1 x2 x3 x4 x5
       have HMI := zh (show mnAt V ka 0 = bMid (V 0) ka ∧ mxAt V ka 0 = bMid (V 0) ka from ⟨rfl, rfl⟩)
       change Hid (∀ w, Rt prog 80 #[.agg #[(V 0).1.1, (V 0).1.2.1, (V 0).1.2.2, (V 0).2.1, (V 0).2.2.1, (V 0).2.2.2], .int .i64 (ka : Int)] w (.int .i64 (bMid (V 0) ka))) at KM0
       obtain ⟨md, hmd⟩ := nmd (bMid (V 0) ka)
       rw [← hmd] at KM0 HMI
       clear hmd
       obtain ⟨vk, hvk⟩ := nmd (V 0)
       rw [← hvk] at x0 x1 x2 x3 x4 x5 KM0
       clear hvk
       obtain ⟨⟨v1, v2, v3⟩, v4, v5, v6⟩ := vk
       dsimp only at x0 x1 x2 x3 x4 x5 KM0
       have ce0 : ∀ p : BW wr, p.w.cell? ⟨bb, off, none⟩ = some (.int .i64 v1) := bwB BO x0 hbb
       have ce1 : ∀ p : BW wr, p.w.cell? ⟨bb, off + 1, none⟩ = some (.int .i64 v2) := bwB BO x1 hbb
       have ce2 : ∀ p : BW wr, p.w.cell? ⟨bb, off + 2, none⟩ = some (.int .i64 v3) := bwB BO x2 hbb
       have ce3 : ∀ p : BW wr, p.w.cell? ⟨bb, off + 3, none⟩ = some (.int .i64 v4) := bwB BO x3 hbb
       have ce4 : ∀ p : BW wr, p.w.cell? ⟨bb, off + 4, none⟩ = some (.int .i64 v5) := bwB BO x4 hbb
       have ce5 : ∀ p : BW wr, p.w.cell? ⟨bb, off + 5, none⟩ = some (.int .i64 v6) := bwB BO x5 hbb
       refine bws fun pw => ?_
       go_upto_region 12 with (fail)
       refine z03 (by kernel_rfl) (by kernel_rfl) ?_
       repeat (go_big_quiet_step ((go_at_call 80; (with_reducible exact z02 KM0.out _))))
       refine wpQuiet_nil ?_
       intro _ hw'
       obtain ⟨q, rfl⟩ := hw'
       clear ce0 x0 ce1 x1 ce2 x2 ce3 x3 ce4 x4 ce5 x5
       go_wp2
       go_loopw [9, 10, 11] (fun lo hi i wr' => ∃ (j : Nat) (q : BW wr), j ≤ k ∧ i = .int .i64 j ∧ lo = .int .i64 (mnAt V ka j) ∧ hi = .int .i64 (mxAt V ka j) ∧ wr' = q.w) (fun _ _ i _ => k - (intOf i).toNat)
       case atStart => exact ⟨0, q, by omega, rfl, by rw [HMI.out.1], by rw [HMI.out.2], rfl⟩
       case round =>
        obtain ⟨j, p5, hj, rfl, rfl, rfl, rfl⟩ := hrel
        have tj0 : j ≤ 1024 := by omega
        by_cases hjk : j < k
        · obtain ⟨_, _, hsl, hbb, x0, x1, x2, x3, x4, x5⟩ := boxes_at HS.out hjk
          cases hsl
          have KMj := zh (fun w => KMk.out j w)
          change Hid (∀ w, Rt prog 80 #[.agg #[(V j).1.1, (V j).1.2.1, (V j).1.2.2, (V j).2.1, (V j).2.2.1, (V j).2.2.2], .int .i64 (ka : Int)] w (.int .i64 (bMid (V j) ka))) at KMj
          have HMS := zh (show mnAt V ka (j + 1) = min (mnAt V ka j) (bMid (V j) ka) ∧ mxAt V ka (j + 1) = max (mxAt V ka j) (bMid (V j) ka) from ⟨rfl, rfl⟩)
          obtain ⟨md2, hmd⟩ := nmd (bMid (V j) ka)
          rw [← hmd] at KMj HMS
          clear hmd
          obtain ⟨vk, hvk⟩ := nmd (V j)
          rw [← hvk] at x0 x1 x2 x3 x4 x5 KMj
          clear hvk
          obtain ⟨⟨v1, v2, v3⟩, v4, v5, v6⟩ := vk
          dsimp only at x0 x1 x2 x3 x4 x5 KMj
          obtain ⟨ml, hml⟩ := nmd (mnAt V ka j)
          obtain ⟨mh, hmh⟩ := nmd (mxAt V ka j)
          rw [← hml, ← hmh] at HMS ⊢
          clear hml hmh KM0 HMI
          have ce0 : ∀ p : BW wr, p.w.cell? ⟨bb, off + j * 6, none⟩ = some (.int .i64 v1) := bwB BO x0 hbb
          have ce1 : ∀ p : BW wr, p.w.cell? ⟨bb, off + j * 6 + 1, none⟩ = some (.int .i64 v2) := bwB BO x1 hbb
          have ce2 : ∀ p : BW wr, p.w.cell? ⟨bb, off + j * 6 + 2, none⟩ = some (.int .i64 v3) := bwB BO x2 hbb
          have ce3 : ∀ p : BW wr, p.w.cell? ⟨bb, off + j * 6 + 3, none⟩ = some (.int .i64 v4) := bwB BO x3 hbb
          have ce4 : ∀ p : BW wr, p.w.cell? ⟨bb, off + j * 6 + 4, none⟩ = some (.int .i64 v5) := bwB BO x4 hbb
          have ce5 : ∀ p : BW wr, p.w.cell? ⟨bb, off + j * 6 + 5, none⟩ = some (.int .i64 v6) := bwB BO x5 hbb
          go_wp2_with ((go_at_call 80; (with_reducible refine (z02 KMj.out _).mono ?_); rintro e w' ⟨rfl, q, rfl⟩))
          go_roundw
          case rel => exact ⟨j + 1, _, by omega, by go_num, by rw [HMS.out.1], by rw [HMS.out.2], rfl⟩
          case measure => simp [intOf]; omega
        · obtain rfl : j = k := by omega
          clear KM0 HMI KMk KM
          obtain ⟨lo, hlo⟩ := nmd (mnAt V ka j)
          obtain ⟨hi, hhi⟩ := nmd (mxAt V ka j)
          change Hid (∀ (i : Nat) X, i < 8 → Below w.heap.size w X → Rt prog 81 #[.agg #[.int .i64 (ka : Int), .int .i64 (i : Int), .int .i64 (mnAt V ka j), .int .i64 (mxAt V ka j)], .slice (some ⟨bb, off, none⟩) j cap] X (.tuple #[.int .i64 (sCost ka (mnAt V ka j) (mxAt V ka j) i (bls V j)), .bool (sOk ka (mnAt V ka j) (mxAt V ka j) i (bls V j))])) at KCk
          rw [← hlo, ← hhi] at HNX KCk ⊢
          clear hlo hhi
          obtain ⟨l, hl⟩ := nmd (bls V j)
          rw [← hl] at KCk HNX
          clear hl
          have k_r := k_r.below p5.h
          have ke := ke.below p5.h
          have B5 := z00 BO p5
          obtain ⟨W5, hW5⟩ : ∃ W, W = p5.w := ⟨_, rfl⟩
          rw [← hW5] at k_r ke B5 ⊢
          clear hW5
          go_wp2
          go_loopw [5, 6, 12] (fun lv fv jv wr => ∃ (i : Nat) (d1 d2 d3 d4 lt : Int) (fe : Bool), 1 ≤ i ∧ i ≤ 8 ∧ jv = .int .i64 i ∧ ((d1, d2, d3, d4), lt, fe) = bIn ka lo hi l (((e1, e2, e3, e4), ls, fd)) (i - 1) ∧ lv = .int .i64 lt ∧ fv = .bool fe ∧ Bk wr w.heap.size 90 #[.int .i64 0, .int .i64 0, .int .i64 0, .int .i64 0] ∧ Bk wr ge 90 #[d1, d2, d3, d4] ∧ Below w.heap.size w wr) (fun _ _ j _ => 8 - (intOf j).toNat)
          case atStart => exact ⟨1, _, _, _, _, _, _, by omega, by omega, rfl, rfl, rfl, rfl, k_r, ke, B5⟩
          case round =>
           clear k_r ke B5
           obtain ⟨i, d1, d2, d3, d4, lt, fe, h1, h8, rfl, hbi, rfl, rfl, k_r, ke, BO⟩ := hrel
           by_cases hlh : lo < hi
           · have tlh : decide (lo < hi) = true := zt hlh
             clear hlh
             by_cases hi8 : i < 8
             · have KA := zh (fun X hX => KCk.out i X hi8 hX)
               have hsc : sOk ka lo hi i l = true → sVal ka lo hi i l = sCost ka lo hi i l := fun h => by unfold sCost; rw [if_pos h]
               have hst : bIn ka lo hi l (((e1, e2, e3, e4), ls, fd)) (i + 1 - 1) = bTry (sOk ka lo hi i l) (sVal ka lo hi i l) (ka, i, lo, hi) (bIn ka lo hi l (((e1, e2, e3, e4), ls, fd)) (i - 1)) := by
                obtain ⟨m, rfl⟩ : ∃ m, i = m + 1 := ⟨i - 1, by omega⟩
                rfl
               rw [← hbi] at hst
               obtain ⟨ok, hok⟩ := nmd (sOk ka lo hi i l)
               obtain ⟨sv, hsv⟩ := nmd (sVal ka lo hi i l)
               obtain ⟨c, hc⟩ := nmd (sCost ka lo hi i l)
               rw [← hok, ← hsv] at hst
               change Hid (∀ X, Below w.heap.size w X → Rt prog 81 #[.agg #[.int .i64 (ka : Int), .int .i64 (i : Int), lo, hi], .slice (some ⟨bb, off, none⟩) j cap] X (.tuple #[.int .i64 (sCost ka lo hi i l), .bool (sOk ka lo hi i l)])) at KA
               rw [← hc, ← hok] at KA
               rw [← hok, ← hsv, ← hc] at hsc
               have HBI := zh hst
               have HSC := zh hsc
               clear hok hsv hc hst hsc hbi
               have ti : decide ((i : Int) < 8) = true := zt (by omega)
               cases ok with
               | false =>
                have B6 := BO
                have HR2 := zh (show ((d1, d2, d3, d4), lt, fe) = bIn ka lo hi l ((e1, e2, e3, e4), ls, fd) (i + 1 - 1) from by rw [HBI.out]; unfold bTry; rw [if_neg (by simp)])
                clear HBI
                have cr := bwc4 k_r
                have ce := bwc4 ke
                refine bws fun p6 => ?_
                go_upto_region 22 with (fail)
                refine wnm fun W7 hW7 => ?_
                have B7 := bwA p6 hW7 B6
                have l_s : ge < p6.w.heap.size := (ke.below p6.h).lt
                have os : w.heap.size ≤ p6.w.heap.size := (z00 B6 p6).size
                have lsr : w.heap.size < p6.w.heap.size := (k_r.below p6.h).lt
                have k_r := bka hW7 (k_r.below p6.h)
                have ke := bka hW7 (ke.below p6.h)
                have ks := bkn hW7
                clear hW7
                clear B6
                clear cr ce
                generalize p6.w.heap.size = gs at *
                have cr := bwc4 k_r
                have ce := bwc4 ke
                have f_e := bwf4 ke
                have cs := bwc4 ks
                refine bws fun p7 => ?_
                go_wp2_with (go_at_call 81; refine (KA.out _ (z00 B7 _)).mono ?_; rintro e w1 ⟨rfl, hb⟩; obtain ⟨q, rfl⟩ := z04 hb)
                go_roundw
                case rel => exact ⟨i + 1, _, _, _, _, _, _, by omega, by omega, by go_num, HR2.out, rfl, rfl, k_r.below q.h, ke.below q.h, z00 B7 q⟩
                case measure => simp [intOf]; omega
               | true =>
                cases fe with
                | false =>
                 have B6 := BO
                 have HR2 := zh (show (((ka : Int), (i : Int), lo, hi), c, true) = bIn ka lo hi l ((e1, e2, e3, e4), ls, fd) (i + 1 - 1) from by rw [HBI.out, HSC.out rfl]; unfold bTry; rw [if_pos (by exact ⟨rfl, .inl rfl⟩)])
                 clear HBI
                 have cr := bwc4 k_r
                 have ce := bwc4 ke
                 refine bws fun p6 => ?_
                 go_upto_region 22 with (fail)
                 refine wnm fun W7 hW7 => ?_
                 have B7 := bwA p6 hW7 B6
                 have l_s : ge < p6.w.heap.size := (ke.below p6.h).lt
                 have os : w.heap.size ≤ p6.w.heap.size := (z00 B6 p6).size
                 have lsr : w.heap.size < p6.w.heap.size := (k_r.below p6.h).lt
                 have k_r := bka hW7 (k_r.below p6.h)
                 have ke := bka hW7 (ke.below p6.h)
                 have ks := bkn hW7
                 clear hW7
                 clear B6
                 clear cr ce
                 generalize p6.w.heap.size = gs at *
                 have cr := bwc4 k_r
                 have ce := bwc4 ke
                 have f_e := bwf4 ke
                 have cs := bwc4 ks
                 refine bws fun p7 => ?_
                 go_wp2_with (go_at_call 81; refine (KA.out _ (z00 B7 _)).mono ?_; rintro e w1 ⟨rfl, hb⟩; obtain ⟨q, rfl⟩ := z04 hb)
                 go_roundw
                 case rel => exact ⟨i + 1, _, _, _, _, _, _, by omega, by omega, by go_num, HR2.out, rfl, rfl, bko4 (k_r.below q.h) (by omega), bkp4 (ke.below q.h) _ _ _ _, blp4 (z00 B7 q) (by omega)⟩
                 case measure => simp [intOf]; omega
                | true =>
                 by_cases hlc : c < lt
                 · have tc : decide (c < lt) = true := zt hlc
                   have B6 := BO
                   have HR2 := zh (show (((ka : Int), (i : Int), lo, hi), c, true) = bIn ka lo hi l ((e1, e2, e3, e4), ls, fd) (i + 1 - 1) from by rw [HBI.out, HSC.out rfl]; unfold bTry; rw [if_pos (by exact ⟨rfl, .inr hlc⟩)])
                   clear HBI
                   clear hlc
                   have cr := bwc4 k_r
                   have ce := bwc4 ke
                   refine bws fun p6 => ?_
                   go_upto_region 22 with (fail)
                   refine wnm fun W7 hW7 => ?_
                   have B7 := bwA p6 hW7 B6
                   have l_s : ge < p6.w.heap.size := (ke.below p6.h).lt
                   have os : w.heap.size ≤ p6.w.heap.size := (z00 B6 p6).size
                   have lsr : w.heap.size < p6.w.heap.size := (k_r.below p6.h).lt
                   have k_r := bka hW7 (k_r.below p6.h)
                   have ke := bka hW7 (ke.below p6.h)
                   have ks := bkn hW7
                   clear hW7
                   clear B6
                   clear cr ce
                   generalize p6.w.heap.size = gs at *
                   have cr := bwc4 k_r
                   have ce := bwc4 ke
                   have f_e := bwf4 ke
                   have cs := bwc4 ks
                   refine bws fun p7 => ?_
                   go_wp2_with (go_at_call 81; refine (KA.out _ (z00 B7 _)).mono ?_; rintro e w1 ⟨rfl, hb⟩; obtain ⟨q, rfl⟩ := z04 hb)
                   go_roundw
                   case rel => exact ⟨i + 1, _, _, _, _, _, _, by omega, by omega, by go_num, HR2.out, rfl, rfl, bko4 (k_r.below q.h) (by omega), bkp4 (ke.below q.h) _ _ _ _, blp4 (z00 B7 q) (by omega)⟩
                   case measure => simp [intOf]; omega
                 · have tc : decide (c < lt) = false := zf hlc
                   have B6 := BO
                   have HR2 := zh (show ((d1, d2, d3, d4), lt, true) = bIn ka lo hi l ((e1, e2, e3, e4), ls, fd) (i + 1 - 1) from by rw [HBI.out, HSC.out rfl]; unfold bTry; rw [if_neg (by rintro ⟨_, h | h⟩ <;> first | exact hlc h | cases h)])
                   clear HBI
                   clear hlc
                   have cr := bwc4 k_r
                   have ce := bwc4 ke
                   refine bws fun p6 => ?_
                   go_upto_region 22 with (fail)
                   refine wnm fun W7 hW7 => ?_
                   have B7 := bwA p6 hW7 B6
                   have l_s : ge < p6.w.heap.size := (ke.below p6.h).lt
                   have os : w.heap.size ≤ p6.w.heap.size := (z00 B6 p6).size
                   have lsr : w.heap.size < p6.w.heap.size := (k_r.below p6.h).lt
                   have k_r := bka hW7 (k_r.below p6.h)
                   have ke := bka hW7 (ke.below p6.h)
                   have ks := bkn hW7
                   clear hW7
                   clear B6
                   clear cr ce
                   generalize p6.w.heap.size = gs at *
                   have cr := bwc4 k_r
                   have ce := bwc4 ke
                   have f_e := bwf4 ke
                   have cs := bwc4 ks
                   refine bws fun p7 => ?_
                   go_wp2_with (go_at_call 81; refine (KA.out _ (z00 B7 _)).mono ?_; rintro e w1 ⟨rfl, hb⟩; obtain ⟨q, rfl⟩ := z04 hb)
                   go_roundw
                   case rel => exact ⟨i + 1, _, _, _, _, _, _, by omega, by omega, by go_num, HR2.out, rfl, rfl, k_r.below q.h, ke.below q.h, z00 B7 q⟩
                   case measure => simp [intOf]; omega
             · obtain rfl : i = 8 := by omega
               have ti : decide (((8 : Nat) : Int) < 8) = false := zf (by omega)
               have HR2 := zh hbi
               clear hbi
               go_wp2
               go_roundw
               case rel => exact ⟨ka + 1, d1, d2, d3, d4, lt, fe, by have := HKA.out; omega, by go_num, (by rw [HNX.out]; exact HR2.out), rfl, rfl, k_r, ke, BO⟩
               case measure => simp [intOf]; have := HKA.out; omega
           · have tlh : decide (lo < hi) = false := zf hlh
             have HLH := zh hlh
             clear hlh
             by_cases hi8 : i < 8
             · have ti : decide ((i : Int) < 8) = true := zt (by omega)
               have HR2 := zh hbi
               clear hbi
               go_wp2
               go_roundw
               case rel => exact ⟨ka + 1, d1, d2, d3, d4, lt, fe, by have := HKA.out; omega, by go_num, (by rw [HNX.out]; rw [bIn_flat (by have := HLH.out; omega)]; rw [HR2.out]; exact bIn_flat (by have := HLH.out; omega) _), rfl, rfl, k_r, ke, BO⟩
               case measure => simp [intOf]; have := HKA.out; omega
             · have ti : decide ((i : Int) < 8) = false := zf (by omega)
               have HR2 := zh hbi
               clear hbi
               go_wp2
               go_roundw
               case rel => exact ⟨ka + 1, d1, d2, d3, d4, lt, fe, by have := HKA.out; omega, by go_num, (by rw [HNX.out]; rw [bIn_flat (by have := HLH.out; omega)]; rw [HR2.out]; exact bIn_flat (by have := HLH.out; omega) _), rfl, rfl, k_r, ke, BO⟩
               case measure => simp [intOf]; have := HKA.out; omega
     · obtain rfl : ka = 3 := by omega
       have HR2 := zh hst
       clear hst
       have tk : decide (((3 : Nat) : Int) < 3) = false := zf (by omega)
       have B3 := BO
       have cr := bwc4 k_r
       have fr := bwf4 k_r
       have ce := bwc4 ke
       refine bws fun p3 => ?_
       go_wp2
       have kr := bkp4 (k_r.below p3.h) (.int .i64 e1) (.int .i64 e2) (.int .i64 e3) (.int .i64 e4)
       have rc := rwc4 kr
       exact bodyPost_ret (v := .tuple #[.agg #[e1, e2, e3, e4], .bool fd]) (by simp [results, results49, go_sem, rc]) rfl ⟨by rw [← HR2.out], blp4 (z00 B3 p3) (by omega)⟩
theorem ref15_Best (a : Option Addr) (n cap : Nat) (V : Nat → Bx) (w : World) (hs : Boxes w (.slice a n cap) n V) (hn : n ≤ 1024) :
  Rt prog 49 #[.slice a n cap] w (.tuple #[.agg #[(bBest V n).1.1, (bBest V n).1.2.1, (bBest V n).1.2.2.1, (bBest V n).1.2.2.2], .bool (bBest V n).2]) := by
 have KR := zh (fun (b : Bx) w => z0p b.1.1 b.1.2.1 b.1.2.2 b.2.1 b.2.2.1 b.2.2.2 w)
 by_cases h0 : n = 0
 · subst h0
   have h : bBest V 0 = ((0, 0, 0, 0), false) := by
    unfold bBest
    rw [bOut_none]
    split <;> rfl
   rw [h]
   exact ref15_Best_empty a cap w
 cases hr : allR (bls V n) with
 | false =>
  have h : bBest V n = ((0, 0, 0, 0), false) := by
   unfold bBest bestOk
   rw [hr, Bool.and_false]
   rfl
  rw [h]
  exact ref15_Best_none a n cap V w hs hn hr KR
 | true =>
  have h : bBest V n = ((bOut V n 3).1, (bOut V n 3).2.2) := by
   unfold bBest bestOk
   rw [hr, zt hn]
   rfl
  rw [h]
  unfold allR at hr
  rw [List.all_eq_true] at hr
  exact ref15_Best_yes a n cap V w hs hn (by omega) (zh (fun k hk => hr _ (bls_mem.2 ⟨k, hk, rfl⟩))) KR (zh (fun k j w => ref10_Mid _ _ _ _ _ _ (k : Int) w)) (zh (fun k j X hk hj hX => by
   have hm := mnAt_in V (k : Int) n
   exact ref15_Cost a n cap V k j (mnAt V k n) (mxAt V k n) X (hs.below hX (Nat.le_refl _)) (by unfold I64; omega) (by unfold I64; omega) (by unfold I64; omega) hn))
end
end
end Go.Proofs.YtbmpmjdlaahekaaGreat
