/- Contracts of package prim: the exported functions. -/
import Derived.Test.YtbmpmjdlaahekaaGreatWs30
set_option maxRecDepth 100000
set_option maxHeartbeats 8000000
set_option linter.unusedVariables false
set_option linter.unusedSimpArgs false
open Go.Proofs.Tryz
namespace Go.Proofs.YtbmpmjdlaahekaaGreat
section
open Go.RowKit Go.Proofs.Sky
theorem prim_as_nt (w : World) : (Instr.typeAssert .nilIface 175 178 true).run prog w = .ok (.tuple #[.agg #[.int .i64 0, .int .i64 0, .int .i64 0, .int .i64 0, .int .i64 0, .int .i64 0, .int .i64 0, .int .i64 0, .int .i64 0], .bool false]) w := by kernel_rfl
theorem prim_as_ns (w : World) : (Instr.typeAssert .nilIface 175 180 true).run prog w = .ok (.tuple #[.agg #[.int .i64 0, .int .i64 0, .int .i64 0, .int .i64 0], .bool false]) w := by kernel_rfl
theorem prim_as_tt (v : Value) (w : World) : (Instr.typeAssert (.iface 178 v) 175 178 true).run prog w = .ok (.tuple #[v, .bool true]) w := by kernel_rfl
theorem prim_as_st (v : Value) (w : World) : (Instr.typeAssert (.iface 180 v) 175 178 true).run prog w = .ok (.tuple #[.agg #[.int .i64 0, .int .i64 0, .int .i64 0, .int .i64 0, .int .i64 0, .int .i64 0, .int .i64 0, .int .i64 0, .int .i64 0], .bool false]) w := by kernel_rfl
theorem prim_as_ss (v : Value) (w : World) : (Instr.typeAssert (.iface 180 v) 175 180 true).run prog w = .ok (.tuple #[v, .bool true]) w := by kernel_rfl
theorem prim_Hit_no0 (k a1 a2 a3 b1 b2 b3 c1 c2 c3 r m ix o1 o2 o3 d1 d2 d3 fr : Int) (w : World) (K : Hid (∀ w, Rt prog 128 #[.agg #[k, a1, a2, a3, b1, b2, b3, c1, c2, c3, r, m]] w (.nilIface))) (hf : fr = ix) :
  Rt prog 113 #[.agg #[k, a1, a2, a3, b1, b2, b3, c1, c2, c3, r, m], ix, .agg #[o1, o2, o3, d1, d2, d3, fr]] w (.tuple #[.agg #[.int .i64 0, .int .i64 0], .bool false]) := by
 subst hf
 have As1 := prim_as_nt
 have As2 := prim_as_ns
 go_enter func113, ntmps113
 go_upto_region 1 with (fail)
 refine wst3 fun W1 kp ky k_r B1 => ?_
 have ly : w.heap.size < w.heap.size + 1 := by omega
 have lr : w.heap.size + 1 < w.heap.size + 1 + 1 := by omega
 generalize w.heap.size + 1 + 1 = gr at *
 generalize w.heap.size + 1 = gy at *
 have cp := bwc12 kp
 have cy := bwc7 ky
 have cr := bwc2 k_r
 have f_r := bwf2 k_r
 refine bws fun p1 => ?_
 go_wp2_with ((go_at_call 128; (with_reducible refine (z02 K.out _).mono ?_); rintro e w' ⟨rfl, q, rfl⟩))
 have kr := bkp2 (k_r.below q.h) (.int .i64 0) (.int .i64 0)
 have rc := rwc2 kr
 exact bodyPost_ret (v := .tuple #[.agg #[.int .i64 0, .int .i64 0], .bool false]) (by simp [results, results113, go_sem, rc]) rfl ⟨rfl, blp2 (z00 B1 q) (by omega)⟩
theorem prim_Hit_no1 (k a1 a2 a3 b1 b2 b3 c1 c2 c3 r m ix o1 o2 o3 d1 d2 d3 fr : Int) (w : World) (K : Hid (∀ w, Rt prog 128 #[.agg #[k, a1, a2, a3, b1, b2, b3, c1, c2, c3, r, m]] w (.nilIface))) (hf : ¬ fr = ix) :
  Rt prog 113 #[.agg #[k, a1, a2, a3, b1, b2, b3, c1, c2, c3, r, m], ix, .agg #[o1, o2, o3, d1, d2, d3, fr]] w (.tuple #[.agg #[.int .i64 0, .int .i64 0], .bool false]) := by
 have As1 := prim_as_nt
 have As2 := prim_as_ns
 go_enter func113, ntmps113
 go_upto_region 1 with (fail)
 refine wst3 fun W1 kp ky k_r B1 => ?_
 have ly : w.heap.size < w.heap.size + 1 := by omega
 have lr : w.heap.size + 1 < w.heap.size + 1 + 1 := by omega
 generalize w.heap.size + 1 + 1 = gr at *
 generalize w.heap.size + 1 = gy at *
 have cp := bwc12 kp
 have cy := bwc7 ky
 have cr := bwc2 k_r
 have f_r := bwf2 k_r
 refine bws fun p1 => ?_
 go_wp2_with ((go_at_call 128; (with_reducible refine (z02 K.out _).mono ?_); rintro e w' ⟨rfl, q, rfl⟩))
 have kr := bkp2 (k_r.below q.h) (.int .i64 0) (.int .i64 0)
 have rc := rwc2 kr
 exact bodyPost_ret (v := .tuple #[.agg #[.int .i64 0, .int .i64 0], .bool false]) (by simp [results, results113, go_sem, rc]) rfl ⟨rfl, blp2 (z00 B1 q) (by omega)⟩
theorem prim_Hit_tri0 (k a1 a2 a3 b1 b2 b3 c1 c2 c3 r m ix o1 o2 o3 d1 d2 d3 fr : Int) (w : World) (K : Hid (∀ w, Rt prog 128 #[.agg #[k, a1, a2, a3, b1, b2, b3, c1, c2, c3, r, m]] w (.iface 178 (.agg #[a1, a2, a3, b1, b2, b3, c1, c2, c3])))) (hf : fr = ix) :
  Rt prog 113 #[.agg #[k, a1, a2, a3, b1, b2, b3, c1, c2, c3, r, m], ix, .agg #[o1, o2, o3, d1, d2, d3, fr]] w (.tuple #[.agg #[.int .i64 0, .int .i64 0], .bool false]) := by
 subst hf
 have As1 := prim_as_tt
 go_enter func113, ntmps113
 go_upto_region 1 with (fail)
 refine wst3 fun W1 kp ky k_r B1 => ?_
 have ly : w.heap.size < w.heap.size + 1 := by omega
 have lr : w.heap.size + 1 < w.heap.size + 1 + 1 := by omega
 generalize w.heap.size + 1 + 1 = gr at *
 generalize w.heap.size + 1 = gy at *
 have cp := bwc12 kp
 have cy := bwc7 ky
 have cr := bwc2 k_r
 have f_r := bwf2 k_r
 refine bws fun p1 => ?_
 go_upto_region 5 with ((go_at_call 128; (with_reducible refine (z02 K.out _).mono ?_); rintro e w' ⟨rfl, q, rfl⟩))
 refine wnm fun W2 hW2 => ?_
 have B2 := bwA q hW2 B1
 have ls : gr < q.w.heap.size := (k_r.below q.h).lt
 have os : w.heap.size ≤ q.w.heap.size := (z00 B1 q).size
 have kp := bka hW2 (kp.below q.h)
 have ky := bka hW2 (ky.below q.h)
 have k_r := bka hW2 (k_r.below q.h)
 have ks := bkn hW2
 clear hW2
 clear B1
 clear cp cy cr f_r
 generalize q.w.heap.size = gs at *
 have cp := bwc12 kp
 have cy := bwc7 ky
 have cr := bwc2 k_r
 have f_r := bwf2 k_r
 have cs := bwc9 ks
 refine bws fun p2 => ?_
 go_wp2
 have kr := bkp2 (k_r.below p2.h) (.int .i64 0) (.int .i64 0)
 have rc := rwc2 kr
 exact bodyPost_ret (v := .tuple #[.agg #[.int .i64 0, .int .i64 0], .bool false]) (by simp [results, results113, go_sem, rc]) rfl ⟨rfl, blp2 (z00 B2 p2) (by omega)⟩
theorem prim_Hit_tri1 (k a1 a2 a3 b1 b2 b3 c1 c2 c3 r m ix o1 o2 o3 d1 d2 d3 fr : Int) (w : World) (K : Hid (∀ w, Rt prog 128 #[.agg #[k, a1, a2, a3, b1, b2, b3, c1, c2, c3, r, m]] w (.iface 178 (.agg #[a1, a2, a3, b1, b2, b3, c1, c2, c3])))) (ha : I3 (a1, a2, a3)) (hb : I3 (b1, b2, b3)) (hc : I3 (c1, c2, c3)) (ho : I3 (o1, o2, o3)) (hd : I3 (d1, d2, d3)) (hf : ¬ fr = ix) :
  Rt prog 113 #[.agg #[k, a1, a2, a3, b1, b2, b3, c1, c2, c3, r, m], ix, .agg #[o1, o2, o3, d1, d2, d3, fr]] w (.tuple #[.agg #[(tHit (a1, a2, a3) (b1, b2, b3) (c1, c2, c3) (o1, o2, o3) (d1, d2, d3)).1.1, (tHit (a1, a2, a3) (b1, b2, b3) (c1, c2, c3) (o1, o2, o3) (d1, d2, d3)).1.2], .bool (tHit (a1, a2, a3) (b1, b2, b3) (c1, c2, c3) (o1, o2, o3) (d1, d2, d3)).2]) := by
 have KH := zh (fun w => tri_Hit a1 a2 a3 b1 b2 b3 c1 c2 c3 o1 o2 o3 d1 d2 d3 fr w ha hb hc ho hd)
 generalize tHit (a1, a2, a3) (b1, b2, b3) (c1, c2, c3) (o1, o2, o3) (d1, d2, d3) = Q at *
 obtain ⟨⟨x1, x2⟩, xk⟩ := Q
 dsimp only at KH ⊢
 clear ha ho hd hb hc
 have As1 := prim_as_tt
 go_enter func113, ntmps113
 go_upto_region 1 with (fail)
 refine wst3 fun W1 kp ky k_r B1 => ?_
 have ly : w.heap.size < w.heap.size + 1 := by omega
 have lr : w.heap.size + 1 < w.heap.size + 1 + 1 := by omega
 generalize w.heap.size + 1 + 1 = gr at *
 generalize w.heap.size + 1 = gy at *
 have cp := bwc12 kp
 have cy := bwc7 ky
 have cr := bwc2 k_r
 have f_r := bwf2 k_r
 refine bws fun p1 => ?_
 go_upto_region 5 with ((go_at_call 128; (with_reducible refine (z02 K.out _).mono ?_); rintro e w' ⟨rfl, q, rfl⟩))
 refine wnm fun W2 hW2 => ?_
 have B2 := bwA q hW2 B1
 have ls : gr < q.w.heap.size := (k_r.below q.h).lt
 have os : w.heap.size ≤ q.w.heap.size := (z00 B1 q).size
 have kp := bka hW2 (kp.below q.h)
 have ky := bka hW2 (ky.below q.h)
 have k_r := bka hW2 (k_r.below q.h)
 have ks := bkn hW2
 clear hW2
 clear B1
 clear cp cy cr f_r
 generalize q.w.heap.size = gs at *
 have cp := bwc12 kp
 have cy := bwc7 ky
 have cr := bwc2 k_r
 have f_r := bwf2 k_r
 have cs := bwc9 ks
 refine bws fun p2 => ?_
 go_wp2_with ((go_at_call 129; (with_reducible refine (z02 KH.out _).mono ?_); rintro e w' ⟨rfl, q, rfl⟩))
 have kr := bkp2 (k_r.below q.h) (.int .i64 x1) (.int .i64 x2)
 have rc := rwc2 kr
 exact bodyPost_ret (v := .tuple #[.agg #[x1, x2], .bool xk]) (by simp [results, results113, go_sem, rc]) rfl ⟨rfl, blp2 (z00 B2 q) (by omega)⟩
theorem prim_Hit_sph0 (k a1 a2 a3 b1 b2 b3 c1 c2 c3 r m ix o1 o2 o3 d1 d2 d3 fr : Int) (w : World) (K : Hid (∀ w, Rt prog 128 #[.agg #[k, a1, a2, a3, b1, b2, b3, c1, c2, c3, r, m]] w (.iface 180 (.agg #[a1, a2, a3, r])))) (ha : I3 (a1, a2, a3)) (hr : I64 r) (ho : I3 (o1, o2, o3)) (hd : I3 (d1, d2, d3)) (hf : fr = ix) :
  Rt prog 113 #[.agg #[k, a1, a2, a3, b1, b2, b3, c1, c2, c3, r, m], ix, .agg #[o1, o2, o3, d1, d2, d3, fr]] w (.tuple #[.agg #[(ballT (a1, a2, a3) r (o1, o2, o3) (d1, d2, d3)).1.1, (ballT (a1, a2, a3) r (o1, o2, o3) (d1, d2, d3)).1.2], .bool (ballT (a1, a2, a3) r (o1, o2, o3) (d1, d2, d3)).2]) := by
 subst hf
 have KH := zh (fun w => ball_Through a1 a2 a3 r o1 o2 o3 d1 d2 d3 fr w ha hr ho hd)
 generalize ballT (a1, a2, a3) r (o1, o2, o3) (d1, d2, d3) = Q at *
 obtain ⟨⟨x1, x2⟩, xk⟩ := Q
 dsimp only at KH ⊢
 clear ha ho hd hr
 have As1 := prim_as_st
 have As2 := prim_as_ss
 go_enter func113, ntmps113
 go_upto_region 1 with (fail)
 refine wst3 fun W1 kp ky k_r B1 => ?_
 have ly : w.heap.size < w.heap.size + 1 := by omega
 have lr : w.heap.size + 1 < w.heap.size + 1 + 1 := by omega
 generalize w.heap.size + 1 + 1 = gr at *
 generalize w.heap.size + 1 = gy at *
 have cp := bwc12 kp
 have cy := bwc7 ky
 have cr := bwc2 k_r
 have f_r := bwf2 k_r
 refine bws fun p1 => ?_
 go_upto_region 10 with ((go_at_call 128; (with_reducible refine (z02 K.out _).mono ?_); rintro e w' ⟨rfl, q, rfl⟩))
 refine wnm fun W2 hW2 => ?_
 have B2 := bwA q hW2 B1
 have ls : gr < q.w.heap.size := (k_r.below q.h).lt
 have os : w.heap.size ≤ q.w.heap.size := (z00 B1 q).size
 have kp := bka hW2 (kp.below q.h)
 have ky := bka hW2 (ky.below q.h)
 have k_r := bka hW2 (k_r.below q.h)
 have ks := bkn hW2
 clear hW2
 clear B1
 clear cp cy cr f_r
 generalize q.w.heap.size = gs at *
 have cp := bwc12 kp
 have cy := bwc7 ky
 have cr := bwc2 k_r
 have f_r := bwf2 k_r
 have cs := bwc4 ks
 refine bws fun p2 => ?_
 go_wp2_with ((go_at_call 130; (with_reducible refine (z02 KH.out _).mono ?_); rintro e w' ⟨rfl, q, rfl⟩))
 have kr := bkp2 (k_r.below q.h) (.int .i64 x1) (.int .i64 x2)
 have rc := rwc2 kr
 exact bodyPost_ret (v := .tuple #[.agg #[x1, x2], .bool xk]) (by simp [results, results113, go_sem, rc]) rfl ⟨rfl, blp2 (z00 B2 q) (by omega)⟩
theorem prim_Hit_sph1 (k a1 a2 a3 b1 b2 b3 c1 c2 c3 r m ix o1 o2 o3 d1 d2 d3 fr : Int) (w : World) (K : Hid (∀ w, Rt prog 128 #[.agg #[k, a1, a2, a3, b1, b2, b3, c1, c2, c3, r, m]] w (.iface 180 (.agg #[a1, a2, a3, r])))) (ha : I3 (a1, a2, a3)) (hr : I64 r) (ho : I3 (o1, o2, o3)) (hd : I3 (d1, d2, d3)) (hf : ¬ fr = ix) :
  Rt prog 113 #[.agg #[k, a1, a2, a3, b1, b2, b3, c1, c2, c3, r, m], ix, .agg #[o1, o2, o3, d1, d2, d3, fr]] w (.tuple #[.agg #[(ballH (a1, a2, a3) r (o1, o2, o3) (d1, d2, d3)).1.1, (ballH (a1, a2, a3) r (o1, o2, o3) (d1, d2, d3)).1.2], .bool (ballH (a1, a2, a3) r (o1, o2, o3) (d1, d2, d3)).2]) := by
 have KH := zh (fun w => ball_Hit a1 a2 a3 r o1 o2 o3 d1 d2 d3 fr w ha hr ho hd)
 generalize ballH (a1, a2, a3) r (o1, o2, o3) (d1, d2, d3) = Q at *
 obtain ⟨⟨x1, x2⟩, xk⟩ := Q
 dsimp only at KH ⊢
 clear ha ho hd hr
 have As1 := prim_as_st
 have As2 := prim_as_ss
 go_enter func113, ntmps113
 go_upto_region 1 with (fail)
 refine wst3 fun W1 kp ky k_r B1 => ?_
 have ly : w.heap.size < w.heap.size + 1 := by omega
 have lr : w.heap.size + 1 < w.heap.size + 1 + 1 := by omega
 generalize w.heap.size + 1 + 1 = gr at *
 generalize w.heap.size + 1 = gy at *
 have cp := bwc12 kp
 have cy := bwc7 ky
 have cr := bwc2 k_r
 have f_r := bwf2 k_r
 refine bws fun p1 => ?_
 go_upto_region 10 with ((go_at_call 128; (with_reducible refine (z02 K.out _).mono ?_); rintro e w' ⟨rfl, q, rfl⟩))
 refine wnm fun W2 hW2 => ?_
 have B2 := bwA q hW2 B1
 have ls : gr < q.w.heap.size := (k_r.below q.h).lt
 have os : w.heap.size ≤ q.w.heap.size := (z00 B1 q).size
 have kp := bka hW2 (kp.below q.h)
 have ky := bka hW2 (ky.below q.h)
 have k_r := bka hW2 (k_r.below q.h)
 have ks := bkn hW2
 clear hW2
 clear B1
 clear cp cy cr f_r
 generalize q.w.heap.size = gs at *
 have cp := bwc12 kp
 have cy := bwc7 ky
 have cr := bwc2 k_r
 have f_r := bwf2 k_r
 have cs := bwc4 ks
 refine bws fun p2 => ?_
 go_wp2_with ((go_at_call 131; (with_reducible refine (z02 KH.out _).mono ?_); rintro e w' ⟨rfl, q, rfl⟩))
 have kr := bkp2 (k_r.below q.h) (.int .i64 x1) (.int .i64 x2)
 have rc := rwc2 kr
 exact bodyPost_ret (v := .tuple #[.agg #[x1, x2], .bool xk]) (by simp [results, results113, go_sem, rc]) rfl ⟨rfl, blp2 (z00 B2 q) (by omega)⟩
theorem prim_Hit (k a1 a2 a3 b1 b2 b3 c1 c2 c3 r m ix o1 o2 o3 d1 d2 d3 fr : Int) (w : World) (hp : Pr.I (Pr.mk k (a1, a2, a3) (b1, b2, b3) (c1, c2, c3) r m)) (hx : I64 ix) (ho : I3 (o1, o2, o3)) (hd : I3 (d1, d2, d3)) (hf : I64 fr) :
  Rt prog 113 #[.agg #[k, a1, a2, a3, b1, b2, b3, c1, c2, c3, r, m], ix, .agg #[o1, o2, o3, d1, d2, d3, fr]] w (.tuple #[.agg #[(pHit (Pr.mk k (a1, a2, a3) (b1, b2, b3) (c1, c2, c3) r m) ix (o1, o2, o3) (d1, d2, d3) fr).1.1, (pHit (Pr.mk k (a1, a2, a3) (b1, b2, b3) (c1, c2, c3) r m) ix (o1, o2, o3) (d1, d2, d3) fr).1.2], .bool (pHit (Pr.mk k (a1, a2, a3) (b1, b2, b3) (c1, c2, c3) r m) ix (o1, o2, o3) (d1, d2, d3) fr).2]) := by
 have K := zh (fun w => prim_shapeOf k a1 a2 a3 b1 b2 b3 c1 c2 c3 r m w hp)
 unfold prSh at K
 unfold pHit
 by_cases h : pRight (Pr.mk k (a1, a2, a3) (b1, b2, b3) (c1, c2, c3) r m) = true
 · rw [if_pos h] at K ⊢
   by_cases hk : k = 1
   · rw [if_pos hk] at K
     rw [if_pos hk]
     by_cases hf : fr = ix
     · rw [if_pos hf]; exact prim_Hit_tri0 k a1 a2 a3 b1 b2 b3 c1 c2 c3 r m ix o1 o2 o3 d1 d2 d3 fr w K hf
     · rw [if_neg hf]; exact prim_Hit_tri1 k a1 a2 a3 b1 b2 b3 c1 c2 c3 r m ix o1 o2 o3 d1 d2 d3 fr w K hp.2.1 hp.2.2.1 hp.2.2.2.1 ho hd hf
   · rw [if_neg hk] at K
     rw [if_neg hk]
     by_cases hf : fr = ix
     · rw [if_pos hf]; exact prim_Hit_sph0 k a1 a2 a3 b1 b2 b3 c1 c2 c3 r m ix o1 o2 o3 d1 d2 d3 fr w K hp.2.1 hp.2.2.2.2.1 ho hd hf
     · rw [if_neg hf]; exact prim_Hit_sph1 k a1 a2 a3 b1 b2 b3 c1 c2 c3 r m ix o1 o2 o3 d1 d2 d3 fr w K hp.2.1 hp.2.2.2.2.1 ho hd hf
 · rw [if_neg h] at K ⊢
   by_cases hf : fr = ix
   · exact prim_Hit_no0 k a1 a2 a3 b1 b2 b3 c1 c2 c3 r m ix o1 o2 o3 d1 d2 d3 fr w K hf
   · exact prim_Hit_no1 k a1 a2 a3 b1 b2 b3 c1 c2 c3 r m ix o1 o2 o3 d1 d2 d3 fr w K hf
end
end Go.Proofs.YtbmpmjdlaahekaaGreat
