/- Contracts of package box, below: lowest, highest, later, earlier, shar -/
import Derived.Test.YtbmpmjdlaahekaaGreatWs19
set_option maxRecDepth 100000
set_option maxHeartbeats 8000000
set_option linter.unusedVariables false
set_option linter.unusedSimpArgs false
open Go.Proofs.Tryz
namespace Go.Proofs.YtbmpmjdlaahekaaGreat
section
open Go.RowKit Go.Proofs.Sky
theorem box_lowest (a b c x y z : Int) (w : World) :
  Rt prog 96 #[.agg #[a, b, c], .agg #[x, y, z]] w (.agg #[.int .i64 (min a x), .int .i64 (min b y), .int .i64 (min c z)]) := by
 obtain ⟨m1, e1⟩ : ∃ m, min a x = m := ⟨_, rfl⟩
 obtain ⟨m2, e2⟩ : ∃ m, min b y = m := ⟨_, rfl⟩
 obtain ⟨m3, e3⟩ : ∃ m, min c z = m := ⟨_, rfl⟩
 rw [e1, e2, e3]
 go_enter func96, ntmps96
 go_upto_region 1 with (fail)
 refine wst3 fun W1 ka kx k_r B1 => ?_
 have lx : w.heap.size < w.heap.size + 1 := by omega
 have lr : w.heap.size + 1 < w.heap.size + 1 + 1 := by omega
 generalize w.heap.size + 1 + 1 = gr at *
 generalize w.heap.size + 1 = gx at *
 have c_a := bwc3 ka
 have cx := bwc3 kx
 have cr := bwc3 k_r
 have fr := bwf3 k_r
 refine bws fun p1 => ?_
 go_wp2
 have kr := bkp3 (k_r.below p1.h) (.int .i64 m1) (.int .i64 m2) (.int .i64 m3)
 have rc := rwc3 kr
 exact bodyPost_ret (v := .agg #[m1, m2, m3]) (by simp [results, results96, go_sem, rc]) rfl ⟨rfl, blp3 (z00 B1 p1) (by omega)⟩
theorem box_later_true (n d m e : Int) (w : World) (hn : I64 n) (hd : I64 d) (hm : I64 m) (he : I64 e) (h : fless n d m e = true) :
  Rt prog 100 #[.agg #[n, d], .agg #[m, e]] w (.agg #[m, e]) := by
 have K := zh (fun w => frac_Less n d m e w hn hd hm he)
 rw [h] at K
 clear h hn hd hm he
 go_enter func100, ntmps100
 go_upto_region 1 with (fail)
 refine wst3 fun W1 ka kx k_r B1 => ?_
 have lx : w.heap.size < w.heap.size + 1 := by omega
 have lr : w.heap.size + 1 < w.heap.size + 1 + 1 := by omega
 generalize w.heap.size + 1 + 1 = gr at *
 generalize w.heap.size + 1 = gx at *
 have c_a := bwc2 ka
 have cx := bwc2 kx
 have cr := bwc2 k_r
 have fr := bwf2 k_r
 refine bws fun p1 => ?_
 go_wp2_with ((go_at_call 33; (with_reducible refine (z02 K.out _).mono ?_); rintro e w' ⟨rfl, q, rfl⟩))
 have kr := bkp2 (k_r.below q.h) (.int .i64 m) (.int .i64 e)
 have rc := rwc2 kr
 exact bodyPost_ret (v := .agg #[m, e]) (by simp [results, results100, go_sem, rc]) rfl ⟨rfl, blp2 (z00 B1 q) (by omega)⟩
theorem box_later_false (n d m e : Int) (w : World) (hn : I64 n) (hd : I64 d) (hm : I64 m) (he : I64 e) (h : fless n d m e = false) :
  Rt prog 100 #[.agg #[n, d], .agg #[m, e]] w (.agg #[n, d]) := by
 have K := zh (fun w => frac_Less n d m e w hn hd hm he)
 rw [h] at K
 clear h hn hd hm he
 go_enter func100, ntmps100
 go_upto_region 1 with (fail)
 refine wst3 fun W1 ka kx k_r B1 => ?_
 have lx : w.heap.size < w.heap.size + 1 := by omega
 have lr : w.heap.size + 1 < w.heap.size + 1 + 1 := by omega
 generalize w.heap.size + 1 + 1 = gr at *
 generalize w.heap.size + 1 = gx at *
 have c_a := bwc2 ka
 have cx := bwc2 kx
 have cr := bwc2 k_r
 have fr := bwf2 k_r
 refine bws fun p1 => ?_
 go_wp2_with ((go_at_call 33; (with_reducible refine (z02 K.out _).mono ?_); rintro e w' ⟨rfl, q, rfl⟩))
 have kr := bkp2 (k_r.below q.h) (.int .i64 n) (.int .i64 d)
 have rc := rwc2 kr
 exact bodyPost_ret (v := .agg #[n, d]) (by simp [results, results100, go_sem, rc]) rfl ⟨rfl, blp2 (z00 B1 q) (by omega)⟩
theorem box_later (n d m e : Int) (w : World) (hn : I64 n) (hd : I64 d) (hm : I64 m) (he : I64 e) :
  Rt prog 100 #[.agg #[n, d], .agg #[m, e]] w (.agg #[(ivLater (n, d) (m, e)).1, (ivLater (n, d) (m, e)).2]) := by
 unfold ivLater
 cases h : fless n d m e with
 | true => rw [if_pos rfl]; exact box_later_true n d m e w hn hd hm he h
 | false => rw [if_neg (by simp)]; exact box_later_false n d m e w hn hd hm he h
theorem box_earlier_none (n d m e : Int) (w : World) (hn : I64 n) (hd : I64 d) (hm : I64 m) (he : I64 e) (h : d < 1) :
  Rt prog 101 #[.agg #[n, d], .agg #[m, e]] w (.agg #[m, e]) := by
 have KR := zh (fun w => frac_Right n d w)
 rw [zf (show ¬ 1 ≤ d by omega)] at KR
 clear h hn hd hm he
 go_enter func101, ntmps101
 go_upto_region 1 with (fail)
 refine wst3 fun W1 ka kx k_r B1 => ?_
 have lx : w.heap.size < w.heap.size + 1 := by omega
 have lr : w.heap.size + 1 < w.heap.size + 1 + 1 := by omega
 generalize w.heap.size + 1 + 1 = gr at *
 generalize w.heap.size + 1 = gx at *
 have c_a := bwc2 ka
 have cx := bwc2 kx
 have cr := bwc2 k_r
 have fr := bwf2 k_r
 refine bws fun p1 => ?_
 go_wp2_with ((go_at_call 31; (with_reducible refine (z02 KR.out _).mono ?_); rintro e w' ⟨rfl, q, rfl⟩))
 have kr := bkp2 (k_r.below q.h) (.int .i64 m) (.int .i64 e)
 have rc := rwc2 kr
 exact bodyPost_ret (v := .agg #[m, e]) (by simp [results, results101, go_sem, rc]) rfl ⟨rfl, blp2 (z00 B1 q) (by omega)⟩
theorem box_earlier_true (n d m e : Int) (w : World) (hn : I64 n) (hd : I64 d) (hm : I64 m) (he : I64 e) (h : ¬ d < 1) (h2 : fless m e n d = true) :
  Rt prog 101 #[.agg #[n, d], .agg #[m, e]] w (.agg #[m, e]) := by
 have KR := zh (fun w => frac_Right n d w)
 rw [zt (show 1 ≤ d by omega)] at KR
 have K := zh (fun w => frac_Less m e n d w hm he hn hd)
 rw [h2] at K
 clear h h2 hn hd hm he
 go_enter func101, ntmps101
 go_upto_region 1 with (fail)
 refine wst3 fun W1 ka kx k_r B1 => ?_
 have lx : w.heap.size < w.heap.size + 1 := by omega
 have lr : w.heap.size + 1 < w.heap.size + 1 + 1 := by omega
 generalize w.heap.size + 1 + 1 = gr at *
 generalize w.heap.size + 1 = gx at *
 have c_a := bwc2 ka
 have cx := bwc2 kx
 have cr := bwc2 k_r
 have fr := bwf2 k_r
 refine bws fun p1 => ?_
 go_wp2_with (first
  | (go_at_call 31; (with_reducible refine (z02 KR.out _).mono ?_); rintro e w' ⟨rfl, q, rfl⟩)
  | (go_at_call 33; (with_reducible refine (z02 K.out _).mono ?_); rintro e w' ⟨rfl, q, rfl⟩))
 have kr := bkp2 (k_r.below q.h) (.int .i64 m) (.int .i64 e)
 have rc := rwc2 kr
 exact bodyPost_ret (v := .agg #[m, e]) (by simp [results, results101, go_sem, rc]) rfl ⟨rfl, blp2 (z00 B1 q) (by omega)⟩
theorem box_earlier_false (n d m e : Int) (w : World) (hn : I64 n) (hd : I64 d) (hm : I64 m) (he : I64 e) (h : ¬ d < 1) (h2 : fless m e n d = false) :
  Rt prog 101 #[.agg #[n, d], .agg #[m, e]] w (.agg #[n, d]) := by
 have KR := zh (fun w => frac_Right n d w)
 rw [zt (show 1 ≤ d by omega)] at KR
 have K := zh (fun w => frac_Less m e n d w hm he hn hd)
 rw [h2] at K
 clear h h2 hn hd hm he
 go_enter func101, ntmps101
 go_upto_region 1 with (fail)
 refine wst3 fun W1 ka kx k_r B1 => ?_
 have lx : w.heap.size < w.heap.size + 1 := by omega
 have lr : w.heap.size + 1 < w.heap.size + 1 + 1 := by omega
 generalize w.heap.size + 1 + 1 = gr at *
 generalize w.heap.size + 1 = gx at *
 have c_a := bwc2 ka
 have cx := bwc2 kx
 have cr := bwc2 k_r
 have fr := bwf2 k_r
 refine bws fun p1 => ?_
 go_wp2_with (first
  | (go_at_call 31; (with_reducible refine (z02 KR.out _).mono ?_); rintro e w' ⟨rfl, q, rfl⟩)
  | (go_at_call 33; (with_reducible refine (z02 K.out _).mono ?_); rintro e w' ⟨rfl, q, rfl⟩))
 have kr := bkp2 (k_r.below q.h) (.int .i64 n) (.int .i64 d)
 have rc := rwc2 kr
 exact bodyPost_ret (v := .agg #[n, d]) (by simp [results, results101, go_sem, rc]) rfl ⟨rfl, blp2 (z00 B1 q) (by omega)⟩
theorem box_earlier (n d m e : Int) (w : World) (hn : I64 n) (hd : I64 d) (hm : I64 m) (he : I64 e) :
  Rt prog 101 #[.agg #[n, d], .agg #[m, e]] w (.agg #[(ivEarlier (n, d) (m, e)).1, (ivEarlier (n, d) (m, e)).2]) := by
 unfold ivEarlier
 by_cases h : d < 1
 · rw [if_pos (.inl h)]; exact box_earlier_none n d m e w hn hd hm he h
 · cases h2 : fless m e n d with
   | true => rw [if_pos (.inr rfl)]; exact box_earlier_true n d m e w hn hd hm he h h2
   | false => rw [if_neg (fun k => k.elim h (fun k => by cases k))]; exact box_earlier_false n d m e w hn hd hm he h h2
theorem box_shared (i1 i2 i3 i4 j1 j2 j3 j4 : Int) (w : World) (hi1 : I64 i1) (hi2 : I64 i2) (hi3 : I64 i3) (hi4 : I64 i4) (hj1 : I64 j1) (hj2 : I64 j2) (hj3 : I64 j3) (hj4 : I64 j4) :
  Rt prog 63 #[.agg #[i1, i2, i3, i4], .agg #[j1, j2, j3, j4]] w (.agg #[(ivShared ((i1, i2), (i3, i4)) ((j1, j2), (j3, j4))).1.1, (ivShared ((i1, i2), (i3, i4)) ((j1, j2), (j3, j4))).1.2, (ivShared ((i1, i2), (i3, i4)) ((j1, j2), (j3, j4))).2.1, (ivShared ((i1, i2), (i3, i4)) ((j1, j2), (j3, j4))).2.2]) := by
 have KL := zh (fun w => box_later i1 i2 j1 j2 w hi1 hi2 hj1 hj2)
 have KE := zh (fun w => box_earlier i3 i4 j3 j4 w hi3 hi4 hj3 hj4)
 unfold ivShared
 dsimp only
 obtain ⟨⟨r1, r2⟩, e1⟩ : ∃ r, ivLater (i1, i2) (j1, j2) = r := ⟨_, rfl⟩
 obtain ⟨⟨r3, r4⟩, e2⟩ : ∃ r, ivEarlier (i3, i4) (j3, j4) = r := ⟨_, rfl⟩
 rw [e1] at KL ⊢
 rw [e2] at KE ⊢
 dsimp only at KL KE ⊢
 clear e1 e2 hi1 hi2 hi3 hi4 hj1 hj2 hj3 hj4
 go_enter func63, ntmps63
 go_upto_region 1 with (fail)
 refine wst3 fun W1 ki kj k_r B1 => ?_
 have lj : w.heap.size < w.heap.size + 1 := by omega
 have lr : w.heap.size + 1 < w.heap.size + 1 + 1 := by omega
 generalize w.heap.size + 1 + 1 = gr at *
 generalize w.heap.size + 1 = gj at *
 have ci := bwc4 ki
 have cj := bwc4 kj
 have cr := bwc4 k_r
 have fr := bwf4 k_r
 refine bws fun p1 => ?_
 refine z0h 10 (by kernel_rfl) (by kernel_rfl) (by kernel_rfl) ?_
 simp only [List.take_succ_cons, List.take_zero, List.drop_succ_cons, List.drop_zero]
 repeat (go_big_quiet_step (first
  | (go_at_call 100; (with_reducible exact z02 KL.out _))
  | (go_at_call 101; (with_reducible exact z02 KE.out _))))
 refine wpQuiet_nil ?_
 intro _ hw'
 obtain ⟨q, rfl⟩ := hw'
 go_wp2
 have kr := bkp4 (k_r.below q.h) (.int .i64 r1) (.int .i64 r2) (.int .i64 r3) (.int .i64 r4)
 have rc := rwc4 kr
 exact bodyPost_ret (v := .agg #[r1, r2, r3, r4]) (by simp [results, results63, go_sem, rc]) rfl ⟨rfl, blp4 (z00 B1 q) (by omega)⟩
theorem box_empty (i1 i2 i3 i4 : Int) (w : World) (hi1 : I64 i1) (hi2 : I64 i2) (hi3 : I64 i3) (hi4 : I64 i4) :
  Rt prog 64 #[.agg #[i1, i2, i3, i4]] w (.bool (ivEmpty ((i1, i2), (i3, i4)))) := by
 have K := zh (fun w => frac_Less i3 i4 i1 i2 w hi3 hi4 hi1 hi2)
 unfold ivEmpty
 dsimp only
 generalize fless i3 i4 i1 i2 = t at *
 clear hi1 hi2 hi3 hi4
 go_enter func64, ntmps64
 go_upto_region 1 with (fail)
 refine wst1 fun W1 ki B1 => ?_
 have ci := bwc4 ki
 refine bws fun p1 => ?_
 go_wp2_with ((go_at_call 33; (with_reducible refine (z02 K.out _).mono ?_); rintro e w' ⟨rfl, q, rfl⟩))
 go_ret
 exact ⟨rfl, z00 B1 _⟩
theorem box_between_above (lo hi : Int) (w : World) (h : 0 < lo) :
  Rt prog 99 #[lo, hi, .int .i64 0] w (.agg #[.int .i64 1, .int .i64 1, .int .i64 0, .int .i64 1]) := by
 have t1 : decide (0 < lo) = true := zt h
 clear h
 go_enter func99, ntmps99
 go_upto_region 1 with (fail)
 refine wst1 fun W1 k_r B1 => ?_
 have cr := bwc4 k_r
 have fr := bwf4 k_r
 refine bws fun p1 => ?_
 go_upto_region 2 with (fail)
 refine wnm fun W2 hW2 => ?_
 have B2 := bwA p1 hW2 B1
 have ls : w.heap.size < p1.w.heap.size := (k_r.below p1.h).lt
 have os : w.heap.size ≤ p1.w.heap.size := (z00 B1 p1).size
 have k_r := bka hW2 (k_r.below p1.h)
 have ks := bkn hW2
 clear hW2
 clear B1
 clear cr fr
 generalize p1.w.heap.size = gs at *
 have cr := bwc4 k_r
 have fr := bwf4 k_r
 have cs := bwc2 ks
 refine bws fun p2 => ?_
 go_wp2
 have kr := bkp4 (k_r.below p2.h) (.int .i64 1) (.int .i64 1) (.int .i64 0) (.int .i64 1)
 have rc := rwc4 kr
 exact bodyPost_ret (v := .agg #[.int .i64 1, .int .i64 1, .int .i64 0, .int .i64 1]) (by simp [results, results99, go_sem, rc]) rfl ⟨rfl, blp4 (z00 B2 p2) (by omega)⟩
theorem box_between_below (lo hi : Int) (w : World) (h : ¬ 0 < lo) (h2 : hi < 0) :
  Rt prog 99 #[lo, hi, .int .i64 0] w (.agg #[.int .i64 1, .int .i64 1, .int .i64 0, .int .i64 1]) := by
 have t1 : decide (0 < lo) = false := zf h
 have t2 : decide (hi < 0) = true := zt h2
 clear h2
 clear h
 go_enter func99, ntmps99
 go_upto_region 1 with (fail)
 refine wst1 fun W1 k_r B1 => ?_
 have cr := bwc4 k_r
 have fr := bwf4 k_r
 refine bws fun p1 => ?_
 go_upto_region 2 with (fail)
 refine wnm fun W2 hW2 => ?_
 have B2 := bwA p1 hW2 B1
 have ls : w.heap.size < p1.w.heap.size := (k_r.below p1.h).lt
 have os : w.heap.size ≤ p1.w.heap.size := (z00 B1 p1).size
 have k_r := bka hW2 (k_r.below p1.h)
 have ks := bkn hW2
 clear hW2
 clear B1
 clear cr fr
 generalize p1.w.heap.size = gs at *
 have cr := bwc4 k_r
 have fr := bwf4 k_r
 have cs := bwc2 ks
 refine bws fun p2 => ?_
 go_wp2
 have kr := bkp4 (k_r.below p2.h) (.int .i64 1) (.int .i64 1) (.int .i64 0) (.int .i64 1)
 have rc := rwc4 kr
 exact bodyPost_ret (v := .agg #[.int .i64 1, .int .i64 1, .int .i64 0, .int .i64 1]) (by simp [results, results99, go_sem, rc]) rfl ⟨rfl, blp4 (z00 B2 p2) (by omega)⟩
theorem box_between_in (lo hi : Int) (w : World) (h : ¬ 0 < lo) (h2 : ¬ hi < 0) :
  Rt prog 99 #[lo, hi, .int .i64 0] w (.agg #[.int .i64 0, .int .i64 1, .int .i64 0, .int .i64 0]) := by
 have t1 : decide (0 < lo) = false := zf h
 have t2 : decide (hi < 0) = false := zf h2
 clear h2
 clear h
 go_enter func99, ntmps99
 go_upto_region 1 with (fail)
 refine wst1 fun W1 k_r B1 => ?_
 have cr := bwc4 k_r
 have fr := bwf4 k_r
 refine bws fun p1 => ?_
 go_upto_region 2 with (fail)
 refine wnm fun W2 hW2 => ?_
 have B2 := bwA p1 hW2 B1
 have ls : w.heap.size < p1.w.heap.size := (k_r.below p1.h).lt
 have os : w.heap.size ≤ p1.w.heap.size := (z00 B1 p1).size
 have k_r := bka hW2 (k_r.below p1.h)
 have ks := bkn hW2
 clear hW2
 clear B1
 clear cr fr
 generalize p1.w.heap.size = gs at *
 have cr := bwc4 k_r
 have fr := bwf4 k_r
 have cs := bwc2 ks
 refine bws fun p2 => ?_
 go_wp2
 have kr := bkp4 (k_r.below p2.h) (.int .i64 0) (.int .i64 1) (.int .i64 0) (.int .i64 0)
 have rc := rwc4 kr
 exact bodyPost_ret (v := .agg #[.int .i64 0, .int .i64 1, .int .i64 0, .int .i64 0]) (by simp [results, results99, go_sem, rc]) rfl ⟨rfl, blp4 (z00 B2 p2) (by omega)⟩
theorem box_between_neg (lo hi way : Int) (w : World) (h0 : ¬ way = 0) (h : way < 0) (hl : -4194304 ≤ lo ∧ lo ≤ 4194304) (hh : -4194304 ≤ hi ∧ hi ≤ 4194304) (hy : -4194304 ≤ way ∧ way ≤ 4194304) :
  Rt prog 99 #[lo, hi, way] w (.agg #[.int .i64 (-hi), .int .i64 (-way), .int .i64 (-lo), .int .i64 (-way)]) := by
 have KL := zh (fun w => frac_Make lo way w (by unfold I64; omega) (by unfold I64; omega))
 have KH := zh (fun w => frac_Make hi way w (by unfold I64; omega) (by unfold I64; omega))
 have ok_lo : fmakeOk lo way = true := zt ⟨h0, by omega, by omega⟩
 rw [show fmake lo way = (-lo, -way) by unfold fmake; rw [if_pos ok_lo, if_pos h], ok_lo] at KL
 dsimp only at KL
 have ok_hi : fmakeOk hi way = true := zt ⟨h0, by omega, by omega⟩
 rw [show fmake hi way = (-hi, -way) by unfold fmake; rw [if_pos ok_hi, if_pos h], ok_hi] at KH
 dsimp only at KH
 have t1 : decide (way < 0) = true := zt h
 clear h hl hh hy ok_lo ok_hi
 generalize -hi = nh at *
 generalize -lo = nl at *
 generalize -way = nw at *
 go_enter func99, ntmps99
 go_upto_region 1 with (fail)
 refine wst1 fun W1 k_r B1 => ?_
 have cr := bwc4 k_r
 have fr := bwf4 k_r
 refine bws fun p1 => ?_
 go_upto_region 2 with (fail)
 refine wnm fun W2 hW2 => ?_
 have B2 := bwA p1 hW2 B1
 have ls : w.heap.size < p1.w.heap.size := (k_r.below p1.h).lt
 have os : w.heap.size ≤ p1.w.heap.size := (z00 B1 p1).size
 have k_r := bka hW2 (k_r.below p1.h)
 have ks := bkn hW2
 clear hW2
 clear B1
 clear cr fr
 generalize p1.w.heap.size = gs at *
 have cr := bwc4 k_r
 have fr := bwf4 k_r
 have cs := bwc2 ks
 refine bws fun p2 => ?_
 go_upto_region 7 with ((go_at_call 125; (with_reducible refine (z02 KL.out _).mono ?_); rintro e w' ⟨rfl, q, rfl⟩))
 refine wnm fun W3 hW3 => ?_
 have B3 := bwA q hW3 B2
 have lf : gs < q.w.heap.size := (ks.below q.h).lt
 have of : w.heap.size ≤ q.w.heap.size := (z00 B2 q).size
 have k_r := bka hW3 (k_r.below q.h)
 have ks := bka hW3 (ks.below q.h)
 have kf := bkn hW3
 clear hW3
 clear B2
 clear cr fr cs
 generalize q.w.heap.size = gf at *
 have cr := bwc4 k_r
 have fr := bwf4 k_r
 have cs := bwc2 ks
 have cf := bwc2 kf
 refine bws fun p3 => ?_
 go_upto_region 8 with ((go_at_call 125; (with_reducible refine (z02 KH.out _).mono ?_); rintro e w' ⟨rfl, q, rfl⟩))
 refine wnm fun W4 hW4 => ?_
 have B4 := bwA q hW4 B3
 have ll : gf < q.w.heap.size := (kf.below q.h).lt
 have ol : w.heap.size ≤ q.w.heap.size := (z00 B3 q).size
 have k_r := bka hW4 (k_r.below q.h)
 have ks := bka hW4 (ks.below q.h)
 have kf := bka hW4 (kf.below q.h)
 have kl := bkn hW4
 clear hW4
 clear B3
 clear cr fr cs cf
 generalize q.w.heap.size = gl at *
 have cr := bwc4 k_r
 have fr := bwf4 k_r
 have cs := bwc2 ks
 have cf := bwc2 kf
 have cl := bwc2 kl
 refine bws fun p4 => ?_
 go_wp2
 have kr := bkp4 (k_r.below p4.h) (.int .i64 nh) (.int .i64 nw) (.int .i64 nl) (.int .i64 nw)
 have rc := rwc4 kr
 exact bodyPost_ret (v := .agg #[nh, nw, nl, nw]) (by simp [results, results99, go_sem, rc]) rfl ⟨rfl, blp4 (z00 B4 p4) (by omega)⟩
theorem box_between_pos (lo hi way : Int) (w : World) (h0 : ¬ way = 0) (h : ¬ way < 0) (hl : -4194304 ≤ lo ∧ lo ≤ 4194304) (hh : -4194304 ≤ hi ∧ hi ≤ 4194304) (hy : -4194304 ≤ way ∧ way ≤ 4194304) :
  Rt prog 99 #[lo, hi, way] w (.agg #[lo, way, hi, way]) := by
 have KL := zh (fun w => frac_Make lo way w (by unfold I64; omega) (by unfold I64; omega))
 have KH := zh (fun w => frac_Make hi way w (by unfold I64; omega) (by unfold I64; omega))
 have ok_lo : fmakeOk lo way = true := zt ⟨h0, by omega, by omega⟩
 rw [show fmake lo way = (lo, way) by unfold fmake; rw [if_pos ok_lo, if_neg h], ok_lo] at KL
 dsimp only at KL
 have ok_hi : fmakeOk hi way = true := zt ⟨h0, by omega, by omega⟩
 rw [show fmake hi way = (hi, way) by unfold fmake; rw [if_pos ok_hi, if_neg h], ok_hi] at KH
 dsimp only at KH
 have t1 : decide (way < 0) = false := zf h
 clear h hl hh hy ok_lo ok_hi
 go_enter func99, ntmps99
 go_upto_region 1 with (fail)
 refine wst1 fun W1 k_r B1 => ?_
 have cr := bwc4 k_r
 have fr := bwf4 k_r
 refine bws fun p1 => ?_
 go_upto_region 2 with (fail)
 refine wnm fun W2 hW2 => ?_
 have B2 := bwA p1 hW2 B1
 have ls : w.heap.size < p1.w.heap.size := (k_r.below p1.h).lt
 have os : w.heap.size ≤ p1.w.heap.size := (z00 B1 p1).size
 have k_r := bka hW2 (k_r.below p1.h)
 have ks := bkn hW2
 clear hW2
 clear B1
 clear cr fr
 generalize p1.w.heap.size = gs at *
 have cr := bwc4 k_r
 have fr := bwf4 k_r
 have cs := bwc2 ks
 refine bws fun p2 => ?_
 go_upto_region 7 with ((go_at_call 125; (with_reducible refine (z02 KL.out _).mono ?_); rintro e w' ⟨rfl, q, rfl⟩))
 refine wnm fun W3 hW3 => ?_
 have B3 := bwA q hW3 B2
 have lf : gs < q.w.heap.size := (ks.below q.h).lt
 have of : w.heap.size ≤ q.w.heap.size := (z00 B2 q).size
 have k_r := bka hW3 (k_r.below q.h)
 have ks := bka hW3 (ks.below q.h)
 have kf := bkn hW3
 clear hW3
 clear B2
 clear cr fr cs
 generalize q.w.heap.size = gf at *
 have cr := bwc4 k_r
 have fr := bwf4 k_r
 have cs := bwc2 ks
 have cf := bwc2 kf
 refine bws fun p3 => ?_
 go_upto_region 8 with ((go_at_call 125; (with_reducible refine (z02 KH.out _).mono ?_); rintro e w' ⟨rfl, q, rfl⟩))
 refine wnm fun W4 hW4 => ?_
 have B4 := bwA q hW4 B3
 have ll : gf < q.w.heap.size := (kf.below q.h).lt
 have ol : w.heap.size ≤ q.w.heap.size := (z00 B3 q).size
 have k_r := bka hW4 (k_r.below q.h)
 have ks := bka hW4 (ks.below q.h)
 have kf := bka hW4 (kf.below q.h)
 have kl := bkn hW4
 clear hW4
 clear B3
 clear cr fr cs cf
 generalize q.w.heap.size = gl at *
 have cr := bwc4 k_r
 have fr := bwf4 k_r
 have cs := bwc2 ks
 have cf := bwc2 kf
 have cl := bwc2 kl
 refine bws fun p4 => ?_
 go_wp2
 have kr := bkp4 (k_r.below p4.h) (.int .i64 lo) (.int .i64 way) (.int .i64 hi) (.int .i64 way)
 have rc := rwc4 kr
 exact bodyPost_ret (v := .agg #[lo, way, hi, way]) (by simp [results, results99, go_sem, rc]) rfl ⟨rfl, blp4 (z00 B4 p4) (by omega)⟩
theorem box_between (lo hi way : Int) (w : World) (hl : -4194304 ≤ lo ∧ lo ≤ 4194304) (hh : -4194304 ≤ hi ∧ hi ≤ 4194304) (hy : -4194304 ≤ way ∧ way ≤ 4194304) :
  Rt prog 99 #[lo, hi, way] w (.agg #[(btw lo hi way).1.1, (btw lo hi way).1.2, (btw lo hi way).2.1, (btw lo hi way).2.2]) := by
 unfold btw
 by_cases h0 : way = 0
 · subst h0
   rw [if_pos rfl]
   by_cases h : 0 < lo
   · rw [if_pos (.inl h)]; exact box_between_above lo hi w h
   · by_cases h2 : hi < 0
     · rw [if_pos (.inr h2)]; exact box_between_below lo hi w h h2
     · rw [if_neg (fun k => k.elim h h2)]; exact box_between_in lo hi w h h2
 · rw [if_neg h0]
   by_cases h : way < 0
   · rw [if_pos h]; exact box_between_neg lo hi way w h0 h hl hh hy
   · rw [if_neg h]; exact box_between_pos lo hi way w h0 h hl hh hy
end
end Go.Proofs.YtbmpmjdlaahekaaGreat
