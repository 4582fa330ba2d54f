/- Contracts below package prim: box.Of of three; the shapes, named, shap -/
import Derived.Test.YtbmpmjdlaahekaaGreatWs28
import Derived.Test.YtbmpmjdlaahekaaGreatWs25
import Derived.Test.YtbmpmjdlaahekaaGreatWs23
set_option maxRecDepth 100000
set_option maxHeartbeats 8000000
set_option linter.unusedVariables false
set_option linter.unusedSimpArgs false
open Go.Proofs.Tryz
namespace Go.Proofs.YtbmpmjdlaahekaaGreat
section
open Go.RowKit Go.Proofs.Sky
theorem prim_tri_right (a1 a2 a3 b1 b2 b3 c1 c2 c3 : Int) (w : World) (ha : I3 (a1, a2, a3)) (hb : I3 (b1, b2, b3)) (hc : I3 (c1, c2, c3)) :
  Rt prog 179 #[.agg #[a1, a2, a3, b1, b2, b3, c1, c2, c3]] w (.bool (!tFlat (a1, a2, a3) (b1, b2, b3) (c1, c2, c3))) := by
 have K := zh (fun w => tri_Flat a1 a2 a3 b1 b2 b3 c1 c2 c3 w ha hb hc)
 generalize tFlat (a1, a2, a3) (b1, b2, b3) (c1, c2, c3) = e at *
 clear ha hb hc
 go_enter func179, ntmps179
 go_upto_region 1 with (fail)
 refine wst1 fun W1 ks B1 => ?_
 have cs := bwc9 ks
 refine bws fun p1 => ?_
 go_wp2_with ((go_at_call 180; (with_reducible refine (z02 K.out _).mono ?_); rintro e w' ⟨rfl, q, rfl⟩))
 go_ret
 exact ⟨rfl, z00 B1 _⟩
theorem prim_sph_right (a1 a2 a3 r : Int) (w : World) (ha : I3 (a1, a2, a3)) (hr : I64 r) :
  Rt prog 182 #[.agg #[a1, a2, a3, r]] w (.bool (ballR (a1, a2, a3) r)) := by
 have K := zh (fun w => ball_Right a1 a2 a3 r w ha hr)
 generalize ballR (a1, a2, a3) r = e at *
 clear ha hr
 go_enter func182, ntmps182
 go_upto_region 1 with (fail)
 refine wst1 fun W1 ks B1 => ?_
 have cs := bwc4 ks
 refine bws fun p1 => ?_
 go_wp2_with ((go_at_call 144; (with_reducible refine (z02 K.out _).mono ?_); rintro e w' ⟨rfl, q, rfl⟩))
 go_ret
 exact ⟨rfl, z00 B1 _⟩
theorem prim_named_tri (a1 a2 a3 b1 b2 b3 c1 c2 c3 m : Int) (w : World) :
  Rt prog 140 #[.agg #[.int .i64 1, a1, a2, a3, b1, b2, b3, c1, c2, c3, .int .i64 0, m]] w (.iface 178 (.agg #[a1, a2, a3, b1, b2, b3, c1, c2, c3])) := by
 go_enter func140, ntmps140
 go_upto_region 1 with (fail)
 refine wst1 fun W1 kp B1 => ?_
 have cp := bwc12 kp
 refine bws fun p1 => ?_
 go_upto_region 2 with (fail)
 refine wnm fun W2 hW2 => ?_
 have B2 := bwA p1 hW2 B1
 have ln : w.heap.size < p1.w.heap.size := (kp.below p1.h).lt
 have on : w.heap.size ≤ p1.w.heap.size := (z00 B1 p1).size
 have kp := bka hW2 (kp.below p1.h)
 have kn := bkn hW2
 clear hW2
 clear B1
 clear cp
 generalize p1.w.heap.size = gn at *
 have cp := bwc12 kp
 have cn := bwc3 kn
 refine bws fun p2 => ?_
 go_wp2
 go_ret
 exact ⟨rfl, z00 B2 _⟩
theorem prim_named_tri_r (a1 a2 a3 b1 b2 b3 c1 c2 c3 r m : Int) (w : World) (h : ¬ r = 0) :
  Rt prog 140 #[.agg #[.int .i64 1, a1, a2, a3, b1, b2, b3, c1, c2, c3, r, m]] w (.nilIface) := by
 go_enter func140, ntmps140
 go_upto_region 1 with (fail)
 refine wst1 fun W1 kp B1 => ?_
 have cp := bwc12 kp
 refine bws fun p1 => ?_
 go_upto_region 2 with (fail)
 refine wnm fun W2 hW2 => ?_
 have B2 := bwA p1 hW2 B1
 have ln : w.heap.size < p1.w.heap.size := (kp.below p1.h).lt
 have on : w.heap.size ≤ p1.w.heap.size := (z00 B1 p1).size
 have kp := bka hW2 (kp.below p1.h)
 have kn := bkn hW2
 clear hW2
 clear B1
 clear cp
 generalize p1.w.heap.size = gn at *
 have cp := bwc12 kp
 have cn := bwc3 kn
 refine bws fun p2 => ?_
 go_wp2
 go_ret
 exact ⟨rfl, z00 B2 _⟩
theorem prim_named_sph (a1 a2 a3 r m : Int) (w : World) :
  Rt prog 140 #[.agg #[.int .i64 2, a1, a2, a3, .int .i64 0, .int .i64 0, .int .i64 0, .int .i64 0, .int .i64 0, .int .i64 0, r, m]] w (.iface 180 (.agg #[a1, a2, a3, r])) := by
 go_enter func140, ntmps140
 go_upto_region 1 with (fail)
 refine wst1 fun W1 kp B1 => ?_
 have cp := bwc12 kp
 refine bws fun p1 => ?_
 go_upto_region 2 with (fail)
 refine wnm fun W2 hW2 => ?_
 have B2 := bwA p1 hW2 B1
 have ln : w.heap.size < p1.w.heap.size := (kp.below p1.h).lt
 have on : w.heap.size ≤ p1.w.heap.size := (z00 B1 p1).size
 have kp := bka hW2 (kp.below p1.h)
 have kn := bkn hW2
 clear hW2
 clear B1
 clear cp
 generalize p1.w.heap.size = gn at *
 have cp := bwc12 kp
 have cn := bwc3 kn
 refine bws fun p2 => ?_
 go_wp2
 go_ret
 exact ⟨rfl, z00 B2 _⟩
theorem prim_named_sph_0 (a1 a2 a3 b1 b2 b3 c1 c2 c3 r m : Int) (w : World) (h : ¬ b1 = 0) :
  Rt prog 140 #[.agg #[.int .i64 2, a1, a2, a3, b1, b2, b3, c1, c2, c3, r, m]] w (.nilIface) := by
 go_enter func140, ntmps140
 go_upto_region 1 with (fail)
 refine wst1 fun W1 kp B1 => ?_
 have cp := bwc12 kp
 refine bws fun p1 => ?_
 go_upto_region 2 with (fail)
 refine wnm fun W2 hW2 => ?_
 have B2 := bwA p1 hW2 B1
 have ln : w.heap.size < p1.w.heap.size := (kp.below p1.h).lt
 have on : w.heap.size ≤ p1.w.heap.size := (z00 B1 p1).size
 have kp := bka hW2 (kp.below p1.h)
 have kn := bkn hW2
 clear hW2
 clear B1
 clear cp
 generalize p1.w.heap.size = gn at *
 have cp := bwc12 kp
 have cn := bwc3 kn
 refine bws fun p2 => ?_
 go_wp2
 go_ret
 exact ⟨rfl, z00 B2 _⟩
theorem prim_named_sph_1 (a1 a2 a3 b2 b3 c1 c2 c3 r m : Int) (w : World) (h : ¬ b2 = 0) :
  Rt prog 140 #[.agg #[.int .i64 2, a1, a2, a3, .int .i64 0, b2, b3, c1, c2, c3, r, m]] w (.nilIface) := by
 go_enter func140, ntmps140
 go_upto_region 1 with (fail)
 refine wst1 fun W1 kp B1 => ?_
 have cp := bwc12 kp
 refine bws fun p1 => ?_
 go_upto_region 2 with (fail)
 refine wnm fun W2 hW2 => ?_
 have B2 := bwA p1 hW2 B1
 have ln : w.heap.size < p1.w.heap.size := (kp.below p1.h).lt
 have on : w.heap.size ≤ p1.w.heap.size := (z00 B1 p1).size
 have kp := bka hW2 (kp.below p1.h)
 have kn := bkn hW2
 clear hW2
 clear B1
 clear cp
 generalize p1.w.heap.size = gn at *
 have cp := bwc12 kp
 have cn := bwc3 kn
 refine bws fun p2 => ?_
 go_wp2
 go_ret
 exact ⟨rfl, z00 B2 _⟩
theorem prim_named_sph_2 (a1 a2 a3 b3 c1 c2 c3 r m : Int) (w : World) (h : ¬ b3 = 0) :
  Rt prog 140 #[.agg #[.int .i64 2, a1, a2, a3, .int .i64 0, .int .i64 0, b3, c1, c2, c3, r, m]] w (.nilIface) := by
 go_enter func140, ntmps140
 go_upto_region 1 with (fail)
 refine wst1 fun W1 kp B1 => ?_
 have cp := bwc12 kp
 refine bws fun p1 => ?_
 go_upto_region 2 with (fail)
 refine wnm fun W2 hW2 => ?_
 have B2 := bwA p1 hW2 B1
 have ln : w.heap.size < p1.w.heap.size := (kp.below p1.h).lt
 have on : w.heap.size ≤ p1.w.heap.size := (z00 B1 p1).size
 have kp := bka hW2 (kp.below p1.h)
 have kn := bkn hW2
 clear hW2
 clear B1
 clear cp
 generalize p1.w.heap.size = gn at *
 have cp := bwc12 kp
 have cn := bwc3 kn
 refine bws fun p2 => ?_
 go_wp2
 go_ret
 exact ⟨rfl, z00 B2 _⟩
theorem prim_named_sph_3 (a1 a2 a3 c1 c2 c3 r m : Int) (w : World) (h : ¬ c1 = 0) :
  Rt prog 140 #[.agg #[.int .i64 2, a1, a2, a3, .int .i64 0, .int .i64 0, .int .i64 0, c1, c2, c3, r, m]] w (.nilIface) := by
 go_enter func140, ntmps140
 go_upto_region 1 with (fail)
 refine wst1 fun W1 kp B1 => ?_
 have cp := bwc12 kp
 refine bws fun p1 => ?_
 go_upto_region 2 with (fail)
 refine wnm fun W2 hW2 => ?_
 have B2 := bwA p1 hW2 B1
 have ln : w.heap.size < p1.w.heap.size := (kp.below p1.h).lt
 have on : w.heap.size ≤ p1.w.heap.size := (z00 B1 p1).size
 have kp := bka hW2 (kp.below p1.h)
 have kn := bkn hW2
 clear hW2
 clear B1
 clear cp
 generalize p1.w.heap.size = gn at *
 have cp := bwc12 kp
 have cn := bwc3 kn
 refine bws fun p2 => ?_
 go_wp2
 go_ret
 exact ⟨rfl, z00 B2 _⟩
theorem prim_named_sph_4 (a1 a2 a3 c2 c3 r m : Int) (w : World) (h : ¬ c2 = 0) :
  Rt prog 140 #[.agg #[.int .i64 2, a1, a2, a3, .int .i64 0, .int .i64 0, .int .i64 0, .int .i64 0, c2, c3, r, m]] w (.nilIface) := by
 go_enter func140, ntmps140
 go_upto_region 1 with (fail)
 refine wst1 fun W1 kp B1 => ?_
 have cp := bwc12 kp
 refine bws fun p1 => ?_
 go_upto_region 2 with (fail)
 refine wnm fun W2 hW2 => ?_
 have B2 := bwA p1 hW2 B1
 have ln : w.heap.size < p1.w.heap.size := (kp.below p1.h).lt
 have on : w.heap.size ≤ p1.w.heap.size := (z00 B1 p1).size
 have kp := bka hW2 (kp.below p1.h)
 have kn := bkn hW2
 clear hW2
 clear B1
 clear cp
 generalize p1.w.heap.size = gn at *
 have cp := bwc12 kp
 have cn := bwc3 kn
 refine bws fun p2 => ?_
 go_wp2
 go_ret
 exact ⟨rfl, z00 B2 _⟩
theorem prim_named_sph_5 (a1 a2 a3 c3 r m : Int) (w : World) (h : ¬ c3 = 0) :
  Rt prog 140 #[.agg #[.int .i64 2, a1, a2, a3, .int .i64 0, .int .i64 0, .int .i64 0, .int .i64 0, .int .i64 0, c3, r, m]] w (.nilIface) := by
 go_enter func140, ntmps140
 go_upto_region 1 with (fail)
 refine wst1 fun W1 kp B1 => ?_
 have cp := bwc12 kp
 refine bws fun p1 => ?_
 go_upto_region 2 with (fail)
 refine wnm fun W2 hW2 => ?_
 have B2 := bwA p1 hW2 B1
 have ln : w.heap.size < p1.w.heap.size := (kp.below p1.h).lt
 have on : w.heap.size ≤ p1.w.heap.size := (z00 B1 p1).size
 have kp := bka hW2 (kp.below p1.h)
 have kn := bkn hW2
 clear hW2
 clear B1
 clear cp
 generalize p1.w.heap.size = gn at *
 have cp := bwc12 kp
 have cn := bwc3 kn
 refine bws fun p2 => ?_
 go_wp2
 go_ret
 exact ⟨rfl, z00 B2 _⟩
theorem prim_named_none (k a1 a2 a3 b1 b2 b3 c1 c2 c3 r m : Int) (w : World) (h1 : ¬ k = 1) (h2 : ¬ k = 2) :
  Rt prog 140 #[.agg #[k, a1, a2, a3, b1, b2, b3, c1, c2, c3, r, m]] w (.nilIface) := by
 go_enter func140, ntmps140
 go_upto_region 1 with (fail)
 refine wst1 fun W1 kp B1 => ?_
 have cp := bwc12 kp
 refine bws fun p1 => ?_
 go_upto_region 2 with (fail)
 refine wnm fun W2 hW2 => ?_
 have B2 := bwA p1 hW2 B1
 have ln : w.heap.size < p1.w.heap.size := (kp.below p1.h).lt
 have on : w.heap.size ≤ p1.w.heap.size := (z00 B1 p1).size
 have kp := bka hW2 (kp.below p1.h)
 have kn := bkn hW2
 clear hW2
 clear B1
 clear cp
 generalize p1.w.heap.size = gn at *
 have cp := bwc12 kp
 have cn := bwc3 kn
 refine bws fun p2 => ?_
 go_wp2
 go_ret
 exact ⟨rfl, z00 B2 _⟩
theorem z0x (k a1 a2 a3 b1 b2 b3 c1 c2 c3 r m : Int) (w : World) (K : Hid (∀ w, Rt prog 140 #[.agg #[k, a1, a2, a3, b1, b2, b3, c1, c2, c3, r, m]] w (.nilIface)))  :
  Rt prog 128 #[.agg #[k, a1, a2, a3, b1, b2, b3, c1, c2, c3, r, m]] w (.nilIface) := by
 go_enter func128, ntmps128
 go_upto_region 1 with (fail)
 refine wst1 fun W1 kp B1 => ?_
 have cp := bwc12 kp
 refine bws fun p1 => ?_
 go_wp2_with ((go_at_call 140; (with_reducible refine (z02 K.out _).mono ?_); rintro e w' ⟨rfl, q, rfl⟩))
 go_ret
 exact ⟨rfl, z00 B1 _⟩
theorem prim_shapeOf_tri_bad (k a1 a2 a3 b1 b2 b3 c1 c2 c3 r m : Int) (w : World) (K : Hid (∀ w, Rt prog 140 #[.agg #[k, a1, a2, a3, b1, b2, b3, c1, c2, c3, r, m]] w (.iface 178 (.agg #[a1, a2, a3, b1, b2, b3, c1, c2, c3])))) (KR : Hid (∀ w, Rt prog 179 #[.agg #[a1, a2, a3, b1, b2, b3, c1, c2, c3]] w (.bool false))) :
  Rt prog 128 #[.agg #[k, a1, a2, a3, b1, b2, b3, c1, c2, c3, r, m]] w (.nilIface) := by
 go_enter func128, ntmps128
 go_upto_region 1 with (fail)
 refine wst1 fun W1 kp B1 => ?_
 have cp := bwc12 kp
 refine bws fun p1 => ?_
 go_wp2_with (first
  | (go_at_call 140; (with_reducible refine (z02 K.out _).mono ?_); rintro e w' ⟨rfl, q, rfl⟩)
  | (go_at_call 179; (with_reducible refine (z02 KR.out _).mono ?_); rintro e w' ⟨rfl, q, rfl⟩))
 go_ret
 exact ⟨rfl, z00 B1 _⟩
theorem prim_shapeOf_tri_neg (k a1 a2 a3 b1 b2 b3 c1 c2 c3 r m : Int) (w : World) (K : Hid (∀ w, Rt prog 140 #[.agg #[k, a1, a2, a3, b1, b2, b3, c1, c2, c3, r, m]] w (.iface 178 (.agg #[a1, a2, a3, b1, b2, b3, c1, c2, c3])))) (KR : Hid (∀ w, Rt prog 179 #[.agg #[a1, a2, a3, b1, b2, b3, c1, c2, c3]] w (.bool true))) (h : decide (m < 0) = true) :
  Rt prog 128 #[.agg #[k, a1, a2, a3, b1, b2, b3, c1, c2, c3, r, m]] w (.nilIface) := by
 go_enter func128, ntmps128
 go_upto_region 1 with (fail)
 refine wst1 fun W1 kp B1 => ?_
 have cp := bwc12 kp
 refine bws fun p1 => ?_
 go_wp2_with (first
  | (go_at_call 140; (with_reducible refine (z02 K.out _).mono ?_); rintro e w' ⟨rfl, q, rfl⟩)
  | (go_at_call 179; (with_reducible refine (z02 KR.out _).mono ?_); rintro e w' ⟨rfl, q, rfl⟩))
 go_ret
 exact ⟨rfl, z00 B1 _⟩
theorem prim_shapeOf_tri_far (k a1 a2 a3 b1 b2 b3 c1 c2 c3 r m : Int) (w : World) (K : Hid (∀ w, Rt prog 140 #[.agg #[k, a1, a2, a3, b1, b2, b3, c1, c2, c3, r, m]] w (.iface 178 (.agg #[a1, a2, a3, b1, b2, b3, c1, c2, c3])))) (KR : Hid (∀ w, Rt prog 179 #[.agg #[a1, a2, a3, b1, b2, b3, c1, c2, c3]] w (.bool true))) (h : decide (m < 0) = false) (h2 : decide (64 ≤ m) = true) :
  Rt prog 128 #[.agg #[k, a1, a2, a3, b1, b2, b3, c1, c2, c3, r, m]] w (.nilIface) := by
 go_enter func128, ntmps128
 go_upto_region 1 with (fail)
 refine wst1 fun W1 kp B1 => ?_
 have cp := bwc12 kp
 refine bws fun p1 => ?_
 go_wp2_with (first
  | (go_at_call 140; (with_reducible refine (z02 K.out _).mono ?_); rintro e w' ⟨rfl, q, rfl⟩)
  | (go_at_call 179; (with_reducible refine (z02 KR.out _).mono ?_); rintro e w' ⟨rfl, q, rfl⟩))
 go_ret
 exact ⟨rfl, z00 B1 _⟩
theorem prim_shapeOf_tri_ok (k a1 a2 a3 b1 b2 b3 c1 c2 c3 r m : Int) (w : World) (K : Hid (∀ w, Rt prog 140 #[.agg #[k, a1, a2, a3, b1, b2, b3, c1, c2, c3, r, m]] w (.iface 178 (.agg #[a1, a2, a3, b1, b2, b3, c1, c2, c3])))) (KR : Hid (∀ w, Rt prog 179 #[.agg #[a1, a2, a3, b1, b2, b3, c1, c2, c3]] w (.bool true))) (h : decide (m < 0) = false) (h2 : decide (64 ≤ m) = false) :
  Rt prog 128 #[.agg #[k, a1, a2, a3, b1, b2, b3, c1, c2, c3, r, m]] w (.iface 178 (.agg #[a1, a2, a3, b1, b2, b3, c1, c2, c3])) := by
 go_enter func128, ntmps128
 go_upto_region 1 with (fail)
 refine wst1 fun W1 kp B1 => ?_
 have cp := bwc12 kp
 refine bws fun p1 => ?_
 go_wp2_with (first
  | (go_at_call 140; (with_reducible refine (z02 K.out _).mono ?_); rintro e w' ⟨rfl, q, rfl⟩)
  | (go_at_call 179; (with_reducible refine (z02 KR.out _).mono ?_); rintro e w' ⟨rfl, q, rfl⟩))
 go_ret
 exact ⟨rfl, z00 B1 _⟩
theorem prim_shapeOf_sph_bad (k a1 a2 a3 b1 b2 b3 c1 c2 c3 r m : Int) (w : World) (K : Hid (∀ w, Rt prog 140 #[.agg #[k, a1, a2, a3, b1, b2, b3, c1, c2, c3, r, m]] w (.iface 180 (.agg #[a1, a2, a3, r])))) (KR : Hid (∀ w, Rt prog 182 #[.agg #[a1, a2, a3, r]] w (.bool false))) :
  Rt prog 128 #[.agg #[k, a1, a2, a3, b1, b2, b3, c1, c2, c3, r, m]] w (.nilIface) := by
 go_enter func128, ntmps128
 go_upto_region 1 with (fail)
 refine wst1 fun W1 kp B1 => ?_
 have cp := bwc12 kp
 refine bws fun p1 => ?_
 go_wp2_with (first
  | (go_at_call 140; (with_reducible refine (z02 K.out _).mono ?_); rintro e w' ⟨rfl, q, rfl⟩)
  | (go_at_call 182; (with_reducible refine (z02 KR.out _).mono ?_); rintro e w' ⟨rfl, q, rfl⟩))
 go_ret
 exact ⟨rfl, z00 B1 _⟩
theorem prim_shapeOf_sph_neg (k a1 a2 a3 b1 b2 b3 c1 c2 c3 r m : Int) (w : World) (K : Hid (∀ w, Rt prog 140 #[.agg #[k, a1, a2, a3, b1, b2, b3, c1, c2, c3, r, m]] w (.iface 180 (.agg #[a1, a2, a3, r])))) (KR : Hid (∀ w, Rt prog 182 #[.agg #[a1, a2, a3, r]] w (.bool true))) (h : decide (m < 0) = true) :
  Rt prog 128 #[.agg #[k, a1, a2, a3, b1, b2, b3, c1, c2, c3, r, m]] w (.nilIface) := by
 go_enter func128, ntmps128
 go_upto_region 1 with (fail)
 refine wst1 fun W1 kp B1 => ?_
 have cp := bwc12 kp
 refine bws fun p1 => ?_
 go_wp2_with (first
  | (go_at_call 140; (with_reducible refine (z02 K.out _).mono ?_); rintro e w' ⟨rfl, q, rfl⟩)
  | (go_at_call 182; (with_reducible refine (z02 KR.out _).mono ?_); rintro e w' ⟨rfl, q, rfl⟩))
 go_ret
 exact ⟨rfl, z00 B1 _⟩
theorem prim_shapeOf_sph_far (k a1 a2 a3 b1 b2 b3 c1 c2 c3 r m : Int) (w : World) (K : Hid (∀ w, Rt prog 140 #[.agg #[k, a1, a2, a3, b1, b2, b3, c1, c2, c3, r, m]] w (.iface 180 (.agg #[a1, a2, a3, r])))) (KR : Hid (∀ w, Rt prog 182 #[.agg #[a1, a2, a3, r]] w (.bool true))) (h : decide (m < 0) = false) (h2 : decide (64 ≤ m) = true) :
  Rt prog 128 #[.agg #[k, a1, a2, a3, b1, b2, b3, c1, c2, c3, r, m]] w (.nilIface) := by
 go_enter func128, ntmps128
 go_upto_region 1 with (fail)
 refine wst1 fun W1 kp B1 => ?_
 have cp := bwc12 kp
 refine bws fun p1 => ?_
 go_wp2_with (first
  | (go_at_call 140; (with_reducible refine (z02 K.out _).mono ?_); rintro e w' ⟨rfl, q, rfl⟩)
  | (go_at_call 182; (with_reducible refine (z02 KR.out _).mono ?_); rintro e w' ⟨rfl, q, rfl⟩))
 go_ret
 exact ⟨rfl, z00 B1 _⟩
theorem prim_shapeOf_sph_ok (k a1 a2 a3 b1 b2 b3 c1 c2 c3 r m : Int) (w : World) (K : Hid (∀ w, Rt prog 140 #[.agg #[k, a1, a2, a3, b1, b2, b3, c1, c2, c3, r, m]] w (.iface 180 (.agg #[a1, a2, a3, r])))) (KR : Hid (∀ w, Rt prog 182 #[.agg #[a1, a2, a3, r]] w (.bool true))) (h : decide (m < 0) = false) (h2 : decide (64 ≤ m) = false) :
  Rt prog 128 #[.agg #[k, a1, a2, a3, b1, b2, b3, c1, c2, c3, r, m]] w (.iface 180 (.agg #[a1, a2, a3, r])) := by
 go_enter func128, ntmps128
 go_upto_region 1 with (fail)
 refine wst1 fun W1 kp B1 => ?_
 have cp := bwc12 kp
 refine bws fun p1 => ?_
 go_wp2_with (first
  | (go_at_call 140; (with_reducible refine (z02 K.out _).mono ?_); rintro e w' ⟨rfl, q, rfl⟩)
  | (go_at_call 182; (with_reducible refine (z02 KR.out _).mono ?_); rintro e w' ⟨rfl, q, rfl⟩))
 go_ret
 exact ⟨rfl, z00 B1 _⟩
def prSh (k a1 a2 a3 b1 b2 b3 c1 c2 c3 r m : Int) : Value := if pRight (Pr.mk k (a1, a2, a3) (b1, b2, b3) (c1, c2, c3) r m) = true then (if k = 1 then .iface 178 (.agg #[a1, a2, a3, b1, b2, b3, c1, c2, c3]) else .iface 180 (.agg #[a1, a2, a3, r])) else .nilIface
theorem prim_shapeOf (k a1 a2 a3 b1 b2 b3 c1 c2 c3 r m : Int) (w : World) (hp : Pr.I (Pr.mk k (a1, a2, a3) (b1, b2, b3) (c1, c2, c3) r m)) :
  Rt prog 128 #[.agg #[k, a1, a2, a3, b1, b2, b3, c1, c2, c3, r, m]] w (prSh k a1 a2 a3 b1 b2 b3 c1 c2 c3 r m) := by
 obtain ⟨_, ha, hb, hc, hr, _⟩ := hp
 by_cases hk : k = 1
 · subst hk
   by_cases h0 : r = 0
   · subst h0
     have K := zh (fun w => prim_named_tri a1 a2 a3 b1 b2 b3 c1 c2 c3 m w)
     have KR := zh (fun w => prim_tri_right a1 a2 a3 b1 b2 b3 c1 c2 c3 w ha hb hc)
     have e : prSh 1 a1 a2 a3 b1 b2 b3 c1 c2 c3 0 m = if tFlat (a1, a2, a3) (b1, b2, b3) (c1, c2, c3) = false ∧ 0 ≤ m ∧ m ≤ 63 then .iface 178 (.agg #[a1, a2, a3, b1, b2, b3, c1, c2, c3]) else .nilIface := by
      unfold prSh pRight
      dsimp only
      cases tFlat (a1, a2, a3) (b1, b2, b3) (c1, c2, c3) <;> by_cases hm : 0 ≤ m ∧ m ≤ 63 <;> simp [hm]
     rw [e]
     clear e
     cases hf : tFlat (a1, a2, a3) (b1, b2, b3) (c1, c2, c3) with
     | true => rw [hf] at KR; rw [if_neg (fun e => by cases e.1)]; exact prim_shapeOf_tri_bad 1 a1 a2 a3 b1 b2 b3 c1 c2 c3 0 m w K KR
     | false =>
      rw [hf] at KR
      by_cases m1 : m < 0
      · rw [if_neg (by omega)]; exact prim_shapeOf_tri_neg 1 a1 a2 a3 b1 b2 b3 c1 c2 c3 0 m w K KR (zt m1)
      · by_cases m2 : 64 ≤ m
        · rw [if_neg (by omega)]; exact prim_shapeOf_tri_far 1 a1 a2 a3 b1 b2 b3 c1 c2 c3 0 m w K KR (zf m1) (zt m2)
        · rw [if_pos ⟨rfl, by omega, by omega⟩]; exact prim_shapeOf_tri_ok 1 a1 a2 a3 b1 b2 b3 c1 c2 c3 0 m w K KR (zf m1) (zf m2)
   · have e : prSh 1 a1 a2 a3 b1 b2 b3 c1 c2 c3 r m = .nilIface := by
      unfold prSh pRight
      dsimp only
      rw [if_neg (by simp [h0])]
     rw [e]
     exact z0x 1 a1 a2 a3 b1 b2 b3 c1 c2 c3 r m w (zh (fun w => prim_named_tri_r a1 a2 a3 b1 b2 b3 c1 c2 c3 r m w h0))
 · by_cases hk2 : k = 2
   · subst hk2
     by_cases z0 : b1 = 0
     case neg =>
      have e : prSh 2 a1 a2 a3 b1 b2 b3 c1 c2 c3 r m = .nilIface := by
       unfold prSh pRight isZ
       dsimp only
       rw [if_neg (by simp [z0])]
      rw [e]
      exact z0x 2 a1 a2 a3 b1 b2 b3 c1 c2 c3 r m w (zh (fun w => prim_named_sph_0 a1 a2 a3 b1 b2 b3 c1 c2 c3 r m w z0))
     subst z0
     by_cases z1 : b2 = 0
     case neg =>
      have e : prSh 2 a1 a2 a3 0 b2 b3 c1 c2 c3 r m = .nilIface := by
       unfold prSh pRight isZ
       dsimp only
       rw [if_neg (by simp [z1])]
      rw [e]
      exact z0x 2 a1 a2 a3 0 b2 b3 c1 c2 c3 r m w (zh (fun w => prim_named_sph_1 a1 a2 a3 b2 b3 c1 c2 c3 r m w z1))
     subst z1
     by_cases z2 : b3 = 0
     case neg =>
      have e : prSh 2 a1 a2 a3 0 0 b3 c1 c2 c3 r m = .nilIface := by
       unfold prSh pRight isZ
       dsimp only
       rw [if_neg (by simp [z2])]
      rw [e]
      exact z0x 2 a1 a2 a3 0 0 b3 c1 c2 c3 r m w (zh (fun w => prim_named_sph_2 a1 a2 a3 b3 c1 c2 c3 r m w z2))
     subst z2
     by_cases z3 : c1 = 0
     case neg =>
      have e : prSh 2 a1 a2 a3 0 0 0 c1 c2 c3 r m = .nilIface := by
       unfold prSh pRight isZ
       dsimp only
       rw [if_neg (by simp [z3])]
      rw [e]
      exact z0x 2 a1 a2 a3 0 0 0 c1 c2 c3 r m w (zh (fun w => prim_named_sph_3 a1 a2 a3 c1 c2 c3 r m w z3))
     subst z3
     by_cases z4 : c2 = 0
     case neg =>
      have e : prSh 2 a1 a2 a3 0 0 0 0 c2 c3 r m = .nilIface := by
       unfold prSh pRight isZ
       dsimp only
       rw [if_neg (by simp [z4])]
      rw [e]
      exact z0x 2 a1 a2 a3 0 0 0 0 c2 c3 r m w (zh (fun w => prim_named_sph_4 a1 a2 a3 c2 c3 r m w z4))
     subst z4
     by_cases z5 : c3 = 0
     case neg =>
      have e : prSh 2 a1 a2 a3 0 0 0 0 0 c3 r m = .nilIface := by
       unfold prSh pRight isZ
       dsimp only
       rw [if_neg (by simp [z5])]
      rw [e]
      exact z0x 2 a1 a2 a3 0 0 0 0 0 c3 r m w (zh (fun w => prim_named_sph_5 a1 a2 a3 c3 r m w z5))
     subst z5
     have K := zh (fun w => prim_named_sph a1 a2 a3 r m w)
     have KR := zh (fun w => prim_sph_right a1 a2 a3 r w ha hr)
     have e : prSh 2 a1 a2 a3 0 0 0 0 0 0 r m = if ballR (a1, a2, a3) r = true ∧ 0 ≤ m ∧ m ≤ 63 then .iface 180 (.agg #[a1, a2, a3, r]) else .nilIface := by
      unfold prSh pRight isZ
      dsimp only
      cases ballR (a1, a2, a3) r <;> by_cases hm : 0 ≤ m ∧ m ≤ 63 <;> simp [hm]
     rw [e]
     clear e
     cases hf : ballR (a1, a2, a3) r with
     | false => rw [hf] at KR; rw [if_neg (fun e => by cases e.1)]; exact prim_shapeOf_sph_bad 2 a1 a2 a3 0 0 0 0 0 0 r m w K KR
     | true =>
      rw [hf] at KR
      by_cases m1 : m < 0
      · rw [if_neg (by omega)]; exact prim_shapeOf_sph_neg 2 a1 a2 a3 0 0 0 0 0 0 r m w K KR (zt m1)
      · by_cases m2 : 64 ≤ m
        · rw [if_neg (by omega)]; exact prim_shapeOf_sph_far 2 a1 a2 a3 0 0 0 0 0 0 r m w K KR (zf m1) (zt m2)
        · rw [if_pos ⟨rfl, by omega, by omega⟩]; exact prim_shapeOf_sph_ok 2 a1 a2 a3 0 0 0 0 0 0 r m w K KR (zf m1) (zf m2)
   · have e : prSh k a1 a2 a3 b1 b2 b3 c1 c2 c3 r m = .nilIface := by
      unfold prSh pRight
      dsimp only
      rw [if_neg (by simp [hk, hk2])]
     rw [e]
     exact z0x k a1 a2 a3 b1 b2 b3 c1 c2 c3 r m w (zh (fun w => prim_named_none k a1 a2 a3 b1 b2 b3 c1 c2 c3 r m w hk hk2))
end
end Go.Proofs.YtbmpmjdlaahekaaGreat
