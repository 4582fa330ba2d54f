/- Contracts of package box: intervals, what its iterator gives, and Hit. -/
import Derived.OwnWalkIn
import Derived.TacticsInMore
import Derived.LoopNIn
import Derived.LoopIn
import Derived.WalkMore
import Derived.Sort.CutIn
import Derived.Test.YtbmpmjdlaahekaaGreatWs28
set_option maxRecDepth 100000
set_option maxHeartbeats 8000000
set_option linter.unusedVariables false
set_option linter.unusedSimpArgs false
open Go.Proofs.Tryz
namespace Go.Proofs.YtbmpmjdlaahekaaGreat
section
open Go.RowKit Go.Shelf Go.Proofs.Sky
theorem box_intervals (a1 a2 a3 a4 a5 a6 o1 o2 o3 d1 d2 d3 fr : Int) (w : World) (ha1 : -1048576 ≤ a1 ∧ a1 ≤ 1048576) (ha2 : -1048576 ≤ a2 ∧ a2 ≤ 1048576) (ha3 : -1048576 ≤ a3 ∧ a3 ≤ 1048576) (ha4 : -1048576 ≤ a4 ∧ a4 ≤ 1048576) (ha5 : -1048576 ≤ a5 ∧ a5 ≤ 1048576) (ha6 : -1048576 ≤ a6 ∧ a6 ≤ 1048576) (ho1 : -1048576 ≤ o1 ∧ o1 ≤ 1048576) (ho2 : -1048576 ≤ o2 ∧ o2 ≤ 1048576) (ho3 : -1048576 ≤ o3 ∧ o3 ≤ 1048576) :
  Calls prog 62 #[.agg #[a1, a2, a3, a4, a5, a6], .agg #[o1, o2, o3, d1, d2, d3, fr]] w fun en w' => ∃ g1 g2 g3 : Nat, en = .returned (.func (.func 98) #[] #[.pointer (some ⟨g1, 0, none⟩), .pointer (some ⟨g2, 0, none⟩), .pointer (some ⟨g3, 0, none⟩)]) ∧ Bk w' g1 24 #[.int .i64 (a1 - o1), .int .i64 (a2 - o2), .int .i64 (a3 - o3)] ∧ Bk w' g2 24 #[.int .i64 (a4 - o1), .int .i64 (a5 - o2), .int .i64 (a6 - o3)] ∧ Bk w' g3 26 #[o1, o2, o3, d1, d2, d3, fr] ∧ w.heap.size ≤ g1 ∧ w.heap.size ≤ g2 ∧ w.heap.size ≤ g3 ∧ Below w.heap.size w w' := by
 have KL := zh (fun w => z0u a1 a2 a3 o1 o2 o3 w (by unfold I64; omega) (by unfold I64; omega) (by unfold I64; omega) (by unfold I64; omega) (by unfold I64; omega) (by unfold I64; omega))
 have KU := zh (fun w => z0u a4 a5 a6 o1 o2 o3 w (by unfold I64; omega) (by unfold I64; omega) (by unfold I64; omega) (by unfold I64; omega) (by unfold I64; omega) (by unfold I64; omega))
 rw [vsub_in (x := a1) (by omega) (by omega), vsub_in (x := a2) (by omega) (by omega), vsub_in (x := a3) (by omega) (by omega)] at KL
 rw [vsub_in (x := a4) (by omega) (by omega), vsub_in (x := a5) (by omega) (by omega), vsub_in (x := a6) (by omega) (by omega)] at KU
 generalize a1 - o1 = l1 at *
 generalize a4 - o1 = u1 at *
 generalize a2 - o2 = l2 at *
 generalize a5 - o2 = u2 at *
 generalize a3 - o3 = l3 at *
 generalize a6 - o3 = u3 at *
 clear ha1 ha2 ha3 ha4 ha5 ha6 ho1 ho2 ho3
 go_enter func62, ntmps62
 go_upto_region 1 with (fail)
 obtain ⟨W1, hW1⟩ : ∃ W, W = (w.alloc (.cells #[a1, a2, a3, a4, a5, a6] 64)).alloc (.cells #[o1, o2, o3, d1, d2, d3, fr] 26) := ⟨_, rfl⟩
 obtain ⟨kb, ky, B1⟩ := st2 hW1
 rw [← hW1]
 clear hW1
 have ly : w.heap.size < w.heap.size + 1 := by omega
 generalize w.heap.size + 1 = gy at *
 have cb := bwc6 kb
 have cy := bwc7 ky
 obtain ⟨p1, hp1⟩ := bwx W1
 rw [← hp1]
 clear hp1
 refine wp_region_float2 (t1 := 24) (z1 := #[.int .i64 0, .int .i64 0, .int .i64 0]) (t2 := 24) (z2 := #[.int .i64 0, .int .i64 0, .int .i64 0]) 12 10 11 5 6 18 (by kernel_rfl) (by kernel_rfl) (by kernel_rfl) (by kernel_rfl) (by kernel_rfl) (by decide) (by kernel_rfl) rfl rfl ?_ ?_ ?_
 · intro ev wx
   simp [execOp, go_sem]
 · intro ev wx
   simp [execOp, go_sem]
 apply Exists.intro
 refine ⟨?_, ?_⟩
 · intro wb' hwb'
   obtain ⟨db0, db1, db2, db3, db4, db5⟩ := bwc6 (kb.below hwb')
   obtain ⟨dy0, dy1, dy2, dy3, dy4, dy5, dy6⟩ := bwc7 (ky.below hwb')
   simp only [mask2, maskAt, List.take_succ_cons, List.take_zero]
   repeat (go_big_quiet_step ((go_at_call 46; (first | (with_reducible exact z02 KL.out _) | (with_reducible exact z02 KU.out _)))))
   refine wpQuiet_nil ?_
   exact rfl
 intro W2 gl gu hW hga hgb n_u kl ku
 have B2 : Below w.heap.size w W2 := B1.trans (hW.mono B1.size)
 have ll : gy < gl := zl ky.lt hga
 have lu : gy < gu := zl ky.lt hgb
 have kb := kb.below hW
 have ky := ky.below hW
 clear hW hga hgb B1
 clear cb cy
 simp only [List.drop_succ_cons, List.drop_zero, Act.put, List.setIfInBounds_toArray, List.set_cons_zero, List.set_cons_succ]
 have cb := bwc6 kb
 have cy := bwc7 ky
 have cl := bwc3 kl
 have fl := bwf3 kl
 have cu := bwc3 ku
 have fu := bwf3 ku
 obtain ⟨p2, hp2⟩ := bwx W2
 rw [← hp2]
 clear hp2
 go_upto_region 2 with (fail)
 obtain ⟨W3, hW3⟩ : ∃ W, W = ((p2.w.setCell ⟨gl, 0, none⟩ (.int .i64 l1)).setCell ⟨gl, 1, none⟩ (.int .i64 l2)).setCell ⟨gl, 2, none⟩ (.int .i64 l3) := ⟨_, rfl⟩
 have B3 : Below w.heap.size w W3 := by rw [hW3]; exact blp3 (z00 B2 p2) (by omega)
 have kb := bkoe3 hW3 (kb.below p2.h) (by omega)
 have ky := bkoe3 hW3 (ky.below p2.h) (by omega)
 have kl := bkpe3 hW3 (kl.below p2.h)
 have ku := bkoe3 hW3 (ku.below p2.h) (by omega)
 rw [← hW3]
 clear hW3
 clear B2
 clear cb cy cl fl cu fu
 have cb := bwc6 kb
 have cy := bwc7 ky
 have cl := bwc3 kl
 have cu := bwc3 ku
 have fu := bwf3 ku
 obtain ⟨p3, hp3⟩ := bwx W3
 rw [← hp3]
 clear hp3
 obtain ⟨W4, hW4⟩ : ∃ W, W = ((p3.w.setCell ⟨gu, 0, none⟩ (.int .i64 u1)).setCell ⟨gu, 1, none⟩ (.int .i64 u2)).setCell ⟨gu, 2, none⟩ (.int .i64 u3) := ⟨_, rfl⟩
 have B4 : Below w.heap.size w W4 := by rw [hW4]; exact blp3 (z00 B3 p3) (by omega)
 have kb := bkoe3 hW4 (kb.below p3.h) (by omega)
 have ky := bkoe3 hW4 (ky.below p3.h) (by omega)
 have kl := bkoe3 hW4 (kl.below p3.h) (by omega)
 have ku := bkpe3 hW4 (ku.below p3.h)
 rw [← hW4]
 clear hW4
 clear B3
 clear cb cy cl cu fu
 have cb := bwc6 kb
 have cy := bwc7 ky
 have cl := bwc3 kl
 have cu := bwc3 ku
 obtain ⟨p4, hp4⟩ := bwx W4
 rw [← hp4]
 clear hp4
 have hmf : ∀ (fn : Fn) (first cap : Array Value) (w : World), (Instr.makeFunc fn first cap).run prog w = .ok (.func fn first cap) w := fun _ _ _ _ => rfl
 go_wp2
 go_ret
 exact ⟨gl, gu, gy, rfl, (kl.below p4.h), (ku.below p4.h), (ky.below p4.h), by omega, by omega, by omega, z00 B4 _⟩
section
attribute [local go_sem] Oper.semAt_some
theorem box_gives (l1 l2 l3 u1 u2 u3 d1 d2 d3 o1 o2 o3 fr : Int) (g1 g2 g3 : Nat) (w : World) (hl1 : -4194304 ≤ l1 ∧ l1 ≤ 4194304) (hl2 : -4194304 ≤ l2 ∧ l2 ≤ 4194304) (hl3 : -4194304 ≤ l3 ∧ l3 ≤ 4194304) (hu1 : -4194304 ≤ u1 ∧ u1 ≤ 4194304) (hu2 : -4194304 ≤ u2 ∧ u2 ≤ 4194304) (hu3 : -4194304 ≤ u3 ∧ u3 ≤ 4194304) (hd1 : -4194304 ≤ d1 ∧ d1 ≤ 4194304) (hd2 : -4194304 ≤ d2 ∧ d2 ≤ 4194304) (hd3 : -4194304 ≤ d3 ∧ d3 ≤ 4194304) :
  GivesStop prog 98 #[] #[.pointer (some ⟨g1, 0, none⟩), .pointer (some ⟨g2, 0, none⟩), .pointer (some ⟨g3, 0, none⟩)] (fun x : Iv => #[.agg (iv4 x)]) [btw l1 u1 d1, btw l2 u2 d2, btw l3 u3 d3] (fun W => Bk W g1 24 #[l1, l2, l3] ∧ Bk W g2 24 #[u1, u2, u3] ∧ Bk W g3 26 #[o1, o2, o3, d1, d2, d3, fr]) w := fun l J Jx W hW hJ hJx hC hY h0 => by
 obtain ⟨k1, k2, k3⟩ := hC _ _ h0
 have c11 : W.cell? ⟨g1, 0, none⟩ = some (.int .i64 l1) := k1.cell rfl
 have c21 : W.cell? ⟨g2, 0, none⟩ = some (.int .i64 u1) := k2.cell rfl
 have c31 : W.cell? ⟨g3, 3, none⟩ = some (.int .i64 d1) := k3.cell rfl
 have K1 := zh (fun w => box_between l1 u1 d1 w hl1 hu1 hd1)
 have K2 := zh (fun w => box_between l2 u2 d2 w hl2 hu2 hd2)
 have K3 := zh (fun w => box_between l3 u3 d3 w hl3 hu3 hd3)
 refine callsIn_of_wp func98 rfl trivial ?_ rfl
 simp only [ntmps98, List.size_toArray, List.length_cons, List.length_nil, Nat.reduceAdd, Nat.reduceSub, Array.replicate_succ, Array.replicate_zero, List.push_toArray, List.append_toArray, List.nil_append, List.cons_append]
 have HC := zh hC
 have HY := zh hY
 have HJ := zh hJ
 clear hY hJx hJ hW hC k1 k2 k3 hl1 hl2 hl3 hu1 hu2 hu3 hd1 hd2 hd3
 unfold iv4 at HY
 dsimp only at HY
 generalize btw l1 u1 d1 = i1 at *
 generalize btw l2 u2 d2 = i2 at *
 generalize btw l3 u3 d3 = i3 at *
 gi_wp2_with (refine ⟨trivial, rfl, ?_⟩; gi_at_call 99; refine (callsIn_wide.2 (K1.out _)).mono ?_; rintro e w1 ⟨rfl, hb1⟩; obtain ⟨fn1, tm1, as1, bo1, hy1, hR1⟩ := HY.out [] i1 [i2, i3] w1 rfl (HJ.out _ _ _ h0 hb1))
 refine ⟨rfl, hR1.mono ?_⟩
 rintro e W1 (⟨rfl, hj1⟩ | ⟨rfl, hj1⟩)
 rotate_left
 · clear hy1 hR1
   gi_wp2
   repeat (first | (refine ⟨trivial, ?_⟩; gi_wp2) | (refine ⟨fun _ h => (by cases h), ?_⟩; gi_wp2))
   go_end0
   exact ⟨⟨_, rfl⟩, .inr ⟨_, hj1⟩⟩
 clear hy1 hR1
 clear h0 hb1 c11 c21 c31
 obtain ⟨k1, k2, k3⟩ := HC.out _ _ hj1
 have c12 : W1.cell? ⟨g1, 1, none⟩ = some (.int .i64 l2) := k1.cell rfl
 have c22 : W1.cell? ⟨g2, 1, none⟩ = some (.int .i64 u2) := k2.cell rfl
 have c32 : W1.cell? ⟨g3, 4, none⟩ = some (.int .i64 d2) := k3.cell rfl
 clear k1 k2 k3
 gi_wp2_with (refine ⟨trivial, rfl, ?_⟩; gi_at_call 99; refine (callsIn_wide.2 (K2.out _)).mono ?_; rintro e w2 ⟨rfl, hb2⟩; obtain ⟨fn2, tm2, as2, bo2, hy2, hR2⟩ := HY.out [i1] i2 [i3] w2 rfl (HJ.out _ _ _ hj1 hb2))
 refine ⟨rfl, hR2.mono ?_⟩
 rintro e W2 (⟨rfl, hj2⟩ | ⟨rfl, hj2⟩)
 rotate_left
 · clear hy2 hR2
   gi_wp2
   repeat (first | (refine ⟨trivial, ?_⟩; gi_wp2) | (refine ⟨fun _ h => (by cases h), ?_⟩; gi_wp2))
   go_end0
   exact ⟨⟨_, rfl⟩, .inr ⟨_, hj2⟩⟩
 clear hy2 hR2
 clear hj1 hb2 c12 c22 c32
 obtain ⟨k1, k2, k3⟩ := HC.out _ _ hj2
 have c13 : W2.cell? ⟨g1, 2, none⟩ = some (.int .i64 l3) := k1.cell rfl
 have c23 : W2.cell? ⟨g2, 2, none⟩ = some (.int .i64 u3) := k2.cell rfl
 have c33 : W2.cell? ⟨g3, 5, none⟩ = some (.int .i64 d3) := k3.cell rfl
 clear k1 k2 k3
 gi_wp2_with (refine ⟨trivial, rfl, ?_⟩; gi_at_call 99; refine (callsIn_wide.2 (K3.out _)).mono ?_; rintro e w3 ⟨rfl, hb3⟩; obtain ⟨fn3, tm3, as3, bo3, hy3, hR3⟩ := HY.out [i1, i2] i3 [] w3 rfl (HJ.out _ _ _ hj2 hb3))
 refine ⟨rfl, hR3.mono ?_⟩
 rintro e W3 (⟨rfl, hj3⟩ | ⟨rfl, hj3⟩)
 rotate_left
 · clear hy3 hR3
   gi_wp2
   go_end0
   exact ⟨⟨_, rfl⟩, .inr ⟨_, hj3⟩⟩
 clear hy3 hR3
 clear hj2 hb3 c13 c23 c33
 gi_wp2
 go_end0
 exact ⟨⟨_, rfl⟩, .inl hj3⟩
theorem box_Hit_no1 (a1 a2 a3 a4 a5 a6 o1 o2 o3 d1 d2 d3 fr n m : Int) (w : World) (h1 : bRight ((a1, a2, a3), (a4, a5, a6)) = false) :
  Rt prog 36 #[.agg #[a1, a2, a3, a4, a5, a6], .agg #[o1, o2, o3, d1, d2, d3, fr], .agg #[n, m]] w (.bool false) := by
 have KA := zh (fun w => box_Right a1 a2 a3 a4 a5 a6 w)
 rw [h1] at KA
 clear h1
 refine (callsIn_wide (n := 0)).1 ?_
 refine callsIn_of_wp_marks func36 rfl trivial ?_ rfl
 simp only [ntmps36, List.size_toArray, List.length_cons, List.length_nil, Nat.reduceAdd, Nat.reduceSub, Array.replicate_succ, Array.replicate_zero, List.push_toArray, List.append_toArray, List.nil_append, List.cons_append]
 refine wpIn_wide.2 ?_
 go_upto_region 1 with (fail)
 obtain ⟨W1, hW1⟩ : ∃ W, W = ((w.alloc (.cells #[a1, a2, a3, a4, a5, a6] 64)).alloc (.cells #[o1, o2, o3, d1, d2, d3, fr] 26)).alloc (.cells #[n, m] 28) := ⟨_, rfl⟩
 obtain ⟨kb, ky, kf, B1⟩ := st3 hW1
 rw [← hW1]
 clear hW1
 have ly : w.heap.size < w.heap.size + 1 := by omega
 have lf : w.heap.size + 1 < w.heap.size + 1 + 1 := by omega
 generalize w.heap.size + 1 + 1 = gf at *
 generalize w.heap.size + 1 = gy at *
 have cb := bwc6 kb
 have cy := bwc7 ky
 have cf := bwc2 kf
 obtain ⟨p1, hp1⟩ := bwx W1
 rw [← hp1]
 clear hp1
 go_step3
 go_wp2_with ((go_at_call 60; (with_reducible refine (z02 KA.out _).mono ?_); rintro e w' ⟨rfl, q, rfl⟩))
 try rw [Exit.noGoto_ret]
 exact ⟨_, results_tmp rfl _ _ _, rfl, z00 B1 _⟩
theorem box_Hit_no2 (a1 a2 a3 a4 a5 a6 o1 o2 o3 d1 d2 d3 fr n m : Int) (w : World) (h1 : bRight ((a1, a2, a3), (a4, a5, a6)) = true) (h2 : vnear o1 o2 o3 = false) :
  Rt prog 36 #[.agg #[a1, a2, a3, a4, a5, a6], .agg #[o1, o2, o3, d1, d2, d3, fr], .agg #[n, m]] w (.bool false) := by
 have KA := zh (fun w => box_Right a1 a2 a3 a4 a5 a6 w)
 rw [h1] at KA
 have KN1 := zh (fun w => z0o o1 o2 o3 w)
 rw [h2] at KN1
 clear h1 h2
 refine (callsIn_wide (n := 0)).1 ?_
 refine callsIn_of_wp_marks func36 rfl trivial ?_ rfl
 simp only [ntmps36, List.size_toArray, List.length_cons, List.length_nil, Nat.reduceAdd, Nat.reduceSub, Array.replicate_succ, Array.replicate_zero, List.push_toArray, List.append_toArray, List.nil_append, List.cons_append]
 refine wpIn_wide.2 ?_
 go_upto_region 1 with (fail)
 obtain ⟨W1, hW1⟩ : ∃ W, W = ((w.alloc (.cells #[a1, a2, a3, a4, a5, a6] 64)).alloc (.cells #[o1, o2, o3, d1, d2, d3, fr] 26)).alloc (.cells #[n, m] 28) := ⟨_, rfl⟩
 obtain ⟨kb, ky, kf, B1⟩ := st3 hW1
 rw [← hW1]
 clear hW1
 have ly : w.heap.size < w.heap.size + 1 := by omega
 have lf : w.heap.size + 1 < w.heap.size + 1 + 1 := by omega
 generalize w.heap.size + 1 + 1 = gf at *
 generalize w.heap.size + 1 = gy at *
 have cb := bwc6 kb
 have cy := bwc7 ky
 have cf := bwc2 kf
 obtain ⟨p1, hp1⟩ := bwx W1
 rw [← hp1]
 clear hp1
 go_step3
 go_wp2_with (first
  | (go_at_call 60; (with_reducible refine (z02 KA.out _).mono ?_); rintro e w' ⟨rfl, q, rfl⟩)
  | (go_at_call 61; (with_reducible refine (z02 KN1.out _).mono ?_); rintro e w' ⟨rfl, q, rfl⟩))
 try rw [Exit.noGoto_ret]
 exact ⟨_, results_tmp rfl _ _ _, rfl, z00 B1 _⟩
theorem box_Hit_no3 (a1 a2 a3 a4 a5 a6 o1 o2 o3 d1 d2 d3 fr n m : Int) (w : World) (h1 : bRight ((a1, a2, a3), (a4, a5, a6)) = true) (h2 : vnear o1 o2 o3 = true) (h3 : vnear d1 d2 d3 = false) :
  Rt prog 36 #[.agg #[a1, a2, a3, a4, a5, a6], .agg #[o1, o2, o3, d1, d2, d3, fr], .agg #[n, m]] w (.bool false) := by
 have KA := zh (fun w => box_Right a1 a2 a3 a4 a5 a6 w)
 rw [h1] at KA
 have KN1 := zh (fun w => z0o o1 o2 o3 w)
 rw [h2] at KN1
 have KN2 := zh (fun w => z0o d1 d2 d3 w)
 rw [h3] at KN2
 clear h1 h2 h3
 refine (callsIn_wide (n := 0)).1 ?_
 refine callsIn_of_wp_marks func36 rfl trivial ?_ rfl
 simp only [ntmps36, List.size_toArray, List.length_cons, List.length_nil, Nat.reduceAdd, Nat.reduceSub, Array.replicate_succ, Array.replicate_zero, List.push_toArray, List.append_toArray, List.nil_append, List.cons_append]
 refine wpIn_wide.2 ?_
 go_upto_region 1 with (fail)
 obtain ⟨W1, hW1⟩ : ∃ W, W = ((w.alloc (.cells #[a1, a2, a3, a4, a5, a6] 64)).alloc (.cells #[o1, o2, o3, d1, d2, d3, fr] 26)).alloc (.cells #[n, m] 28) := ⟨_, rfl⟩
 obtain ⟨kb, ky, kf, B1⟩ := st3 hW1
 rw [← hW1]
 clear hW1
 have ly : w.heap.size < w.heap.size + 1 := by omega
 have lf : w.heap.size + 1 < w.heap.size + 1 + 1 := by omega
 generalize w.heap.size + 1 + 1 = gf at *
 generalize w.heap.size + 1 = gy at *
 have cb := bwc6 kb
 have cy := bwc7 ky
 have cf := bwc2 kf
 obtain ⟨p1, hp1⟩ := bwx W1
 rw [← hp1]
 clear hp1
 go_step3
 go_wp2_with (first
  | (go_at_call 60; (with_reducible refine (z02 KA.out _).mono ?_); rintro e w' ⟨rfl, q, rfl⟩)
  | (go_at_call 61; (first | (with_reducible refine (z02 KN1.out _).mono ?_) | (with_reducible refine (z02 KN2.out _).mono ?_)); rintro e w' ⟨rfl, q, rfl⟩))
 try rw [Exit.noGoto_ret]
 exact ⟨_, results_tmp rfl _ _ _, rfl, z00 B1 _⟩
theorem box_Hit_yes (a1 a2 a3 a4 a5 a6 o1 o2 o3 d1 d2 d3 fr n m : Int) (w : World) (h1 : bRight ((a1, a2, a3), (a4, a5, a6)) = true) (h2 : vnear o1 o2 o3 = true) (h3 : vnear d1 d2 d3 = true) (hn : I64 n) (hm : I64 m) :
  Rt prog 36 #[.agg #[a1, a2, a3, a4, a5, a6], .agg #[o1, o2, o3, d1, d2, d3, fr], .agg #[n, m]] w (.bool (bHit ((a1, a2, a3), (a4, a5, a6)) (o1, o2, o3) (d1, d2, d3) n m)) := by
 have KA := zh (fun w => box_Right a1 a2 a3 a4 a5 a6 w)
 rw [h1] at KA
 have KN1 := zh (fun w => z0o o1 o2 o3 w)
 rw [h2] at KN1
 have KN2 := zh (fun w => z0o d1 d2 d3 w)
 rw [h3] at KN2
 have HOK := zh (ivs_ok (b := ((a1, a2, a3), (a4, a5, a6))) (o := (o1, o2, o3)) (d := (d1, d2, d3)))
 have HIN := zh (ivs_ints (b := ((a1, a2, a3), (a4, a5, a6))) (o := (o1, o2, o3)) (d := (d1, d2, d3)) h1 h2 h3)
 have HYES := zh (bHit_yes (b := ((a1, a2, a3), (a4, a5, a6))) (o := (o1, o2, o3)) (d := (d1, d2, d3)) (n := n) (m := m) h1 h2 h3)
 have HNO := zh (fun pre rest => bHit_stop (b := ((a1, a2, a3), (a4, a5, a6))) (o := (o1, o2, o3)) (d := (d1, d2, d3)) (n := n) (m := m) (pre := pre) (rest := rest))
 rw [z10, z0r, z0r] at h1
 dsimp only at h1
 rw [z0t] at h2 h3
 have KI := zh (fun w => box_intervals a1 a2 a3 a4 a5 a6 o1 o2 o3 d1 d2 d3 fr w (by omega) (by omega) (by omega) (by omega) (by omega) (by omega) (by omega) (by omega) (by omega))
 have KG := zh (fun g1 g2 g3 w => box_gives (a1 - o1) (a2 - o2) (a3 - o3) (a4 - o1) (a5 - o2) (a6 - o3) d1 d2 d3 o1 o2 o3 fr g1 g2 g3 w (by omega) (by omega) (by omega) (by omega) (by omega) (by omega) (by omega) (by omega) (by omega))
 clear h1 h2 h3
 obtain ⟨res, hres⟩ := nmd (bHit ((a1, a2, a3), (a4, a5, a6)) (o1, o2, o3) (d1, d2, d3) n m)
 rw [← hres]
 rw [← hres] at HYES HNO
 clear hres
 refine (callsIn_wide (n := 0)).1 ?_
 refine callsIn_of_wp_marks func36 rfl trivial ?_ rfl
 simp only [ntmps36, List.size_toArray, List.length_cons, List.length_nil, Nat.reduceAdd, Nat.reduceSub, Array.replicate_succ, Array.replicate_zero, List.push_toArray, List.append_toArray, List.nil_append, List.cons_append]
 refine wpIn_wide.2 ?_
 go_upto_region 1 with (fail)
 obtain ⟨W1, hW1⟩ : ∃ W, W = ((w.alloc (.cells #[a1, a2, a3, a4, a5, a6] 64)).alloc (.cells #[o1, o2, o3, d1, d2, d3, fr] 26)).alloc (.cells #[n, m] 28) := ⟨_, rfl⟩
 obtain ⟨kb, ky, kf, B1⟩ := st3 hW1
 rw [← hW1]
 clear hW1
 have ly : w.heap.size < w.heap.size + 1 := by omega
 have lf : w.heap.size + 1 < w.heap.size + 1 + 1 := by omega
 generalize w.heap.size + 1 + 1 = g_f at *
 generalize w.heap.size + 1 = gy at *
 have cb := bwc6 kb
 have cy := bwc7 ky
 have cf := bwc2 kf
 obtain ⟨p1, hp1⟩ := bwx W1
 rw [← hp1]
 clear hp1
 go_step3
 go_upto_region 3 with (first
  | (go_at_call 60; (with_reducible refine (z02 KA.out _).mono ?_); rintro e w' ⟨rfl, q, rfl⟩)
  | (go_at_call 61; (first | (with_reducible refine (z02 KN1.out _).mono ?_) | (with_reducible refine (z02 KN2.out _).mono ?_)); rintro e w' ⟨rfl, q, rfl⟩))
 go_wp2
 obtain ⟨W2, hW2⟩ : ∃ W, W = (q.w.alloc (.cells #[.int .i64 0, .int .i64 1, n, m] 106)).alloc (.cells #[.bool true] 4) := ⟨_, rfl⟩
 have B2 : Below w.heap.size w W2 := by rw [hW2]; exact (((z00 B1 q).alloc (z00 B1 q).size _).alloc (Nat.le_trans (z00 B1 q).size (by simp)) _)
 have li : g_f < q.w.heap.size := (kf.below q.h).lt
 have l_t : q.w.heap.size < q.w.heap.size + 1 := by omega
 have o_i : w.heap.size ≤ q.w.heap.size := (z00 B1 q).size
 have kb := ((kb.below q.h).alloc (.cells #[.int .i64 0, .int .i64 1, n, m] 106)).alloc (.cells #[.bool true] 4)
 rw [← hW2] at kb
 have ky := ((ky.below q.h).alloc (.cells #[.int .i64 0, .int .i64 1, n, m] 106)).alloc (.cells #[.bool true] 4)
 rw [← hW2] at ky
 have kf := ((kf.below q.h).alloc (.cells #[.int .i64 0, .int .i64 1, n, m] 106)).alloc (.cells #[.bool true] 4)
 rw [← hW2] at kf
 have k_i : Bk W2 q.w.heap.size 106 #[.int .i64 0, .int .i64 1, n, m] := by rw [hW2]; exact (Bk.new _ _ _).alloc _
 have k_t : Bk W2 (q.w.heap.size + 1) 4 #[.bool true] := by rw [hW2]; exact Bk.new_at _ _ _ _ (by simp)
 rw [← hW2]
 clear hW2
 clear B1
 clear cb cy cf
 generalize q.w.heap.size + 1 = gt at *
 generalize q.w.heap.size = gi at *
 go_step3
 have cb := bwc6 kb
 have cy := bwc7 ky
 have cf := bwc2 kf
 have ci := bwc4 k_i
 have ct0 := bwc1 k_t
 obtain ⟨p2, hp2⟩ := bwx W2
 rw [← hp2]
 clear hp2
 go_wp2_with (go_at_call 62; refine (KI.out _).mono ?_; rintro e w1 ⟨g1, g2, g3, rfl, k1, k2, k3, m1, m2, m3, hb1⟩)
 have oi := (z00 B2 p2).size
 have ki1 := (k_i.below p2.h).below hb1
 have kt1 := (k_t.below p2.h).below hb1
 have hi1 := (k_i.below p2.h).lt
 have ht1 := (k_t.below p2.h).lt
 have hB1 := (z00 B2 p2).trans (hb1.mono oi)
 have hs1 := hB1.size
 clear B2 cb cy cf ci ct0
 have hne_it : ¬ gi = gt := by omega
 have n1 : ¬ g1 = gi ∧ ¬ g2 = gi ∧ ¬ g3 = gi := by omega
 have n2 : ¬ g1 = gt ∧ ¬ g2 = gt ∧ ¬ g3 = gt := by omega
 have wi : w.heap.size ≤ gi := by omega
 have wt : w.heap.size ≤ gt := by omega
 refine (wpIn_wide (n := 0)).1 ?_
 refine range_stop (gf := 98) (bd := #[]) (lb := #[.pointer (some ⟨g1, 0, none⟩), .pointer (some ⟨g2, 0, none⟩), .pointer (some ⟨g3, 0, none⟩)]) (encs := fun x : Iv => #[.agg (iv4 x)]) (xs := ivs ((a1, a2, a3), (a4, a5, a6)) (o1, o2, o3) (d1, d2, d3)) (C := fun W => Bk W g1 24 #[.int .i64 (a1 - o1), .int .i64 (a2 - o2), .int .i64 (a3 - o3)] ∧ Bk W g2 24 #[.int .i64 (a4 - o1), .int .i64 (a5 - o2), .int .i64 (a6 - o3)] ∧ Bk W g3 26 #[o1, o2, o3, d1, d2, d3, fr]) rfl (enters_of func98 (by kernel_rfl) rfl) (KG.out g1 g2 g3 w1) (fun _ => rfl)
  (fun pre W => (Bk W gi 106 (iv4 (ivFold ((0, 1), (n, m)) pre)) ∧ Bk W gt 4 #[.bool true] ∧ (Bk W g1 24 #[.int .i64 (a1 - o1), .int .i64 (a2 - o2), .int .i64 (a3 - o3)] ∧ Bk W g2 24 #[.int .i64 (a4 - o1), .int .i64 (a5 - o2), .int .i64 (a6 - o3)] ∧ Bk W g3 26 #[o1, o2, o3, d1, d2, d3, fr])) ∧ (pre = [] ∨ ivEmpty (ivFold ((0, 1), (n, m)) pre) = false) ∧ Below w.heap.size w W)
  (fun c pre W => (c = .exit 0 ∧ ivEmpty (ivFold ((0, 1), (n, m)) pre) = true ∧ ∃ rest, ivs ((a1, a2, a3), (a4, a5, a6)) (o1, o2, o3) (d1, d2, d3) = pre ++ rest) ∧ Bk W gt 4 #[.bool false] ∧ Below w.heap.size w W)
  (OwnFrom.and (OwnFrom.and (bk_own _) (OwnFrom.and (bk_own _) (OwnFrom.and (bk_own _) (OwnFrom.and (bk_own _) (bk_own _))))) (OwnFrom.and (pure_own _) (ownFrom_below (Nat.le_refl _) hs1)))
  (fun c => OwnFrom.and (pure_own _) (OwnFrom.and (bk_own _) (ownFrom_below (Nat.le_refl _) hs1)))
  (fun s W h => h.1.2.2) ⟨⟨ki1, kt1, k1, k2, k3⟩, .inl rfl, hB1⟩ ?round ?done ?stop
 case round =>
  rintro l pre x rest W hl hx ⟨⟨ki, kt, k1, k2, k3⟩, hne, hB⟩
  have HF := zh (ivFold_snoc ((0, 1), (n, m)) pre x)
  have hp : ∀ y ∈ pre, y ∈ ivs ((a1, a2, a3), (a4, a5, a6)) (o1, o2, o3) (d1, d2, d3) := fun y hy => by rw [hx]; simp [hy]
  have ii : ivInts (ivFold ((0, 1), (n, m)) pre) := ivFold_ints ⟨by unfold I64; simp, by unfold I64; simp, hn, hm⟩ (fun y hy => HIN.out y (hp y hy))
  have xi : ivInts x := HIN.out x (by rw [hx]; simp)
  have HX : Hid (∃ rest', ivs ((a1, a2, a3), (a4, a5, a6)) (o1, o2, o3) (d1, d2, d3) = (pre ++ [x]) ++ rest') := zh ⟨rest, by rw [hx]; simp⟩
  clear hx hp hne HIN HOK HYES HNO KI KG KA KN1 KN2 ki1 kt1 hi1 ht1 hB1 hn hm
  generalize ivFold ((0, 1), (n, m)) pre = i at *
  obtain ⟨⟨i1, i2⟩, i3, i4⟩ := i
  obtain ⟨⟨x1, x2⟩, x3, x4⟩ := x
  obtain ⟨ii1, ii2, ii3, ii4⟩ := ii
  obtain ⟨xi1, xi2, xi3, xi4⟩ := xi
  have KS := zh (fun w => box_shared i1 i2 i3 i4 x1 x2 x3 x4 w ii1 ii2 ii3 ii4 xi1 xi2 xi3 xi4)
  obtain ⟨si1, si2, si3, si4⟩ := ivShared_ints (i := ((i1, i2), (i3, i4))) (o := ((x1, x2), (x3, x4))) ⟨ii1, ii2, ii3, ii4⟩ ⟨xi1, xi2, xi3, xi4⟩
  clear ii1 ii2 ii3 ii4 xi1 xi2 xi3 xi4
  generalize ivShared ((i1, i2), (i3, i4)) ((x1, x2), (x3, x4)) = s at *
  obtain ⟨⟨s1, s2⟩, s3, s4⟩ := s
  have KE := zh (fun w => box_empty s1 s2 s3 s4 w si1 si2 si3 si4)
  clear si1 si2 si3 si4
  unfold iv4 at ki ⊢
  dsimp only at ki KS KE ⊢
  gi_wp2
  refine ⟨(KeepsOthers.alloc _ _).from _, fun r r' hlr => ?_⟩
  obtain ⟨V, hV⟩ : ∃ V, V = (W.alloc (.cells #[x1, x2, x3, x4] 106)).putObj l (.loop r') := ⟨_, rfl⟩
  have kx : Bk V W.heap.size 106 #[x1, x2, x3, x4] := by rw [hV]; exact bk_put (Bk.new _ _ _) hlr _
  replace ki := show Bk V gi _ _ by rw [hV]; exact bk_put (ki.alloc _) hlr _
  replace kt := show Bk V gt _ _ by rw [hV]; exact bk_put (kt.alloc _) hlr _
  replace k1 := show Bk V g1 _ _ by rw [hV]; exact bk_put (k1.alloc _) hlr _
  replace k2 := show Bk V g2 _ _ by rw [hV]; exact bk_put (k2.alloc _) hlr _
  replace k3 := show Bk V g3 _ _ by rw [hV]; exact bk_put (k3.alloc _) hlr _
  replace hB : Below w.heap.size w V := by rw [hV]; exact (hB.alloc hB.size _).trans (belowK_b (w := w) (Nat.le_refl _) _ _ _ _ (by omega) hlr rfl rfl)
  rw [← hV]
  clear hV hlr
  generalize W.heap.size = gx at *
  have ci0 : V.cell? ⟨gi, 0, none⟩ = some (.int .i64 i1) := ki.cell rfl
  have cx0 : V.cell? ⟨gx, 0, none⟩ = some (.int .i64 x1) := kx.cell rfl
  have ci1 : V.cell? ⟨gi, 1, none⟩ = some (.int .i64 i2) := ki.cell rfl
  have cx1 : V.cell? ⟨gx, 1, none⟩ = some (.int .i64 x2) := kx.cell rfl
  have ci2 : V.cell? ⟨gi, 2, none⟩ = some (.int .i64 i3) := ki.cell rfl
  have cx2 : V.cell? ⟨gx, 2, none⟩ = some (.int .i64 x3) := kx.cell rfl
  have ci3 : V.cell? ⟨gi, 3, none⟩ = some (.int .i64 i4) := ki.cell rfl
  have cx3 : V.cell? ⟨gx, 3, none⟩ = some (.int .i64 x4) := kx.cell rfl
  gi_upto_region 7 with (refine ⟨trivial, rfl, ?_⟩; gi_at_call 63; refine (CallsIn.inRound l (callsIn_wide.2 (KS.out _))).mono ?_; rintro e v1 ⟨rfl, hb⟩; have e0 : v1.cell? ⟨gi, 0, none⟩ = some (.int .i64 i1) := (ki.below hb).cell rfl; have f0 := (ki.below hb).frozen 0; have e1 : v1.cell? ⟨gi, 1, none⟩ = some (.int .i64 i2) := (ki.below hb).cell rfl; have f1 := (ki.below hb).frozen 1; have e2 : v1.cell? ⟨gi, 2, none⟩ = some (.int .i64 i3) := (ki.below hb).cell rfl; have f2 := (ki.below hb).frozen 2; have e3 : v1.cell? ⟨gi, 3, none⟩ = some (.int .i64 i4) := (ki.below hb).cell rfl; have f3 := (ki.below hb).frozen 3)
  obtain ⟨V2, hV2⟩ : ∃ V2, V2 = (((v1.setCell ⟨gi, 0, none⟩ (.int .i64 s1)).setCell ⟨gi, 1, none⟩ (.int .i64 s2)).setCell ⟨gi, 2, none⟩ (.int .i64 s3)).setCell ⟨gi, 3, none⟩ (.int .i64 s4) := ⟨_, rfl⟩
  have ki2 := bkpe4 hV2 (ki.below hb)
  have kt2 := bkoe4 hV2 (kt.below hb) (by omega)
  have k12 := bkoe4 hV2 (k1.below hb) (by omega)
  have k22 := bkoe4 hV2 (k2.below hb) (by omega)
  have k32 := bkoe4 hV2 (k3.below hb) (by omega)
  have hB2 : Below w.heap.size w V2 := blpe4 hV2 (hB.trans (hb.mono hB.size)) wi
  have hk2 : KeepsFrom w1.heap.size V V2 := by rw [hV2]; exact (((((keeps_of_below hb).trans ((KeepsOthers.setCell _ _ _).from _)).trans ((KeepsOthers.setCell _ _ _).from _)).trans ((KeepsOthers.setCell _ _ _).from _)).trans ((KeepsOthers.setCell _ _ _).from _))
  rw [← hV2]
  clear hV2 ci0 cx0 e0 f0 ci1 cx1 e1 f1 ci2 cx2 e2 f2 ci3 cx3 e3 f3 ki kt k1 k2 k3 kx hb hB KS
  have c0 : V2.cell? ⟨gi, 0, none⟩ = some (.int .i64 s1) := ki2.cell rfl
  have c1 : V2.cell? ⟨gi, 1, none⟩ = some (.int .i64 s2) := ki2.cell rfl
  have c2 : V2.cell? ⟨gi, 2, none⟩ = some (.int .i64 s3) := ki2.cell rfl
  have c3 : V2.cell? ⟨gi, 3, none⟩ = some (.int .i64 s4) := ki2.cell rfl
  cases hs : ivEmpty ((s1, s2), (s3, s4)) with
  | false =>
   rw [hs] at KE
   gi_wp2_with (refine ⟨trivial, rfl, ?_⟩; gi_at_call 64; refine (CallsIn.inRound l (callsIn_wide.2 (KE.out _))).mono ?_; rintro e v3 ⟨rfl, hb⟩; have ct : v3.cell? ⟨gt, 0, none⟩ = some (.bool true) := (kt2.below hb).cell rfl; have ft := (kt2.below hb).frozen 0)
   exact ⟨hk2.trans (keeps_of_below hb), ⟨by rw [HF.out]; exact ki2.below hb, kt2.below hb, k12.below hb, k22.below hb, k32.below hb⟩, .inr (by rw [HF.out]; exact hs), hB2.trans (hb.mono hB2.size)⟩
  | true =>
   rw [hs] at KE
   gi_wp2_with (refine ⟨trivial, rfl, ?_⟩; gi_at_call 64; refine (CallsIn.inRound l (callsIn_wide.2 (KE.out _))).mono ?_; rintro e v3 ⟨rfl, hb⟩; have ct : v3.cell? ⟨gt, 0, none⟩ = some (.bool true) := (kt2.below hb).cell rfl; have ft := (kt2.below hb).frozen 0)
   exact ⟨(hk2.trans (keeps_of_below hb)).trans ((KeepsOthers.setCell _ _ _).from _), ⟨rfl, by rw [HF.out]; exact hs, HX.out⟩, bkp1 (kt2.below hb) _, blp1 (hB2.trans (hb.mono hB2.size)) wt⟩
 case done =>
  rintro D W hD ⟨⟨ki, kt, k1, k2, k3⟩, hne, hB⟩ hK
  have hres : res = true := by
   rw [HYES.out]
   rcases hne with h | h
   · cases h
   · rw [h]; rfl
  subst hres
  have ct : W.cell? ⟨gt, 0, none⟩ = some (.bool true) := kt.cell rfl
  clear HYES HNO HIN HOK KI KG KA KN1 KN2 ki1 kt1 hi1 ht1 hn hm hne
  go_wp2
  try rw [Exit.noGoto_ret]
  refine ⟨by simp, .inl ⟨_, _, rfl, run_takeDeferred hK, ?_⟩⟩
  exact ⟨_, results_tmp rfl _ _ _, rfl, hB.trans (belowK_b (w := w) (Nat.le_refl _) W D _ _ (by omega) hK rfl rfl)⟩
 case stop =>
  rintro D c pre W hD ⟨⟨rfl, he, rest, hx⟩, kt, hB⟩ hK
  have hres : res = false := HNO.out pre rest hx he (ivFold_ok (by simp) (fun y hy => HOK.out y (by rw [hx]; simp [hy])))
  subst hres
  have ct : W.cell? ⟨gt, 0, none⟩ = some (.bool false) := kt.cell rfl
  clear HYES HNO HIN HOK KI KG KA KN1 KN2 ki1 kt1 hi1 ht1 hn hm hx he
  refine wpIn_wide.2 ?_
  go_wp2
  try rw [Exit.noGoto_ret]
  refine ⟨by simp, .inl ⟨_, _, rfl, run_takeDeferred hK, ?_⟩⟩
  exact ⟨_, results_tmp rfl _ _ _, rfl, hB.trans (belowK_b (w := w) (Nat.le_refl _) W D _ _ (by omega) hK rfl rfl)⟩
theorem box_Hit (a1 a2 a3 a4 a5 a6 o1 o2 o3 d1 d2 d3 fr n m : Int) (w : World) (hn : I64 n) (hm : I64 m) :
  Rt prog 36 #[.agg #[a1, a2, a3, a4, a5, a6], .agg #[o1, o2, o3, d1, d2, d3, fr], .agg #[n, m]] w (.bool (bHit ((a1, a2, a3), (a4, a5, a6)) (o1, o2, o3) (d1, d2, d3) n m)) := by
 cases h1 : bRight ((a1, a2, a3), (a4, a5, a6)) with
 | false => rw [bHit_no (fun k => by rw [h1] at k; cases k.1)]; exact box_Hit_no1 a1 a2 a3 a4 a5 a6 o1 o2 o3 d1 d2 d3 fr n m w h1
 | true =>
  cases h2 : vnear o1 o2 o3 with
  | false => rw [bHit_no (fun k => by rw [show nrT (o1, o2, o3) = false from h2] at k; cases k.2.1)]; exact box_Hit_no2 a1 a2 a3 a4 a5 a6 o1 o2 o3 d1 d2 d3 fr n m w h1 h2
  | true =>
   cases h3 : vnear d1 d2 d3 with
   | false => rw [bHit_no (fun k => by rw [show nrT (d1, d2, d3) = false from h3] at k; cases k.2.2)]; exact box_Hit_no3 a1 a2 a3 a4 a5 a6 o1 o2 o3 d1 d2 d3 fr n m w h1 h2 h3
   | true => exact box_Hit_yes a1 a2 a3 a4 a5 a6 o1 o2 o3 d1 d2 d3 fr n m w h1 h2 h3 hn hm
end
end
end Go.Proofs.YtbmpmjdlaahekaaGreat
