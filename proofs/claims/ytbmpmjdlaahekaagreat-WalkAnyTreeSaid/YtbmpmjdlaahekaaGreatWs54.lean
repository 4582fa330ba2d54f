/- Contracts of the document's own answers, layer 16: a whole tree gone t -/
import Derived.Test.YtbmpmjdlaahekaaGreatWs53
set_option maxRecDepth 100000
set_option maxHeartbeats 8000000
set_option linter.unusedVariables false
set_option linter.unusedSimpArgs false
open Go.Proofs.Tryz
namespace Go.Proofs.YtbmpmjdlaahekaaGreat
section
open Go.RowKit Go.Proofs.Sky
theorem whole16_z (a b : Option Addr) (n cap m capo : Nat) (w : World) (hn : n = 0) (hm : m = 0) :
  Rt prog 67 #[.agg #[.slice a n cap, .slice b m capo]] w (.agg #[.int .i64 0, .int .i64 0, .int .i64 0, .int .i64 0, .bool true]) := by
 subst hn
 subst hm
 go_enter func67, ntmps67
 go_upto_region 1 with (fail)
 refine wst2 fun W1 kt k_r B1 => ?_
 have lr : w.heap.size < w.heap.size + 1 := by omega
 generalize w.heap.size + 1 = gr at *
 have ct := bwc2 kt
 have cr := bwc5 k_r
 have fr := bwf5 k_r
 refine bws fun p1 => ?_
 go_wp2
 have kr := bkp5 (k_r.below p1.h) (.int .i64 0) (.int .i64 0) (.int .i64 0) (.int .i64 0) (.bool true)
 have rc := rwc5 kr
 exact bodyPost_ret (v := .agg #[.int .i64 0, .int .i64 0, .int .i64 0, .int .i64 0, .bool true]) (by simp [results, results67, go_sem, rc]) rfl ⟨rfl, blp5 (z00 B1 p1) (by omega)⟩
theorem whole16_a0 (a b : Option Addr) (n cap m capo : Nat) (s1 s2 s3 s4 : Int) (sb : Bool) (w : World) (hn : n = 0) (hm : ¬ m = 0) (K : Hid (∀ X, Below w.heap.size w X → Rt prog 70 #[.agg #[.slice a n cap, .slice b m capo], .int .i64 0, .int .i64 0] X (.agg #[s1, s2, s3, s4, .bool sb]))) (h1 : sb = false) :
  Rt prog 67 #[.agg #[.slice a n cap, .slice b m capo]] w (.agg #[s1, s2, s3, s4, .bool false]) := by
 subst hn
 have t2 : ((m : Int) == 0) = false := by rw [beq_eq_false_iff_ne]; omega
 clear hm
 subst h1
 go_enter func67, ntmps67
 go_upto_region 1 with (fail)
 refine wst2 fun W1 kt k_r B1 => ?_
 have lr : w.heap.size < w.heap.size + 1 := by omega
 generalize w.heap.size + 1 = gr at *
 have ct := bwc2 kt
 have cr := bwc5 k_r
 have fr := bwf5 k_r
 refine bws fun p1 => ?_
 go_upto_region 4 with (go_at_call 70; (with_reducible refine (K.out _ (z00 B1 _)).mono ?_); rintro e w1 ⟨rfl, hb⟩; obtain ⟨q, rfl⟩ := z04 hb)
 refine wnm fun W2 hW2 => ?_
 have B2 := bwA q hW2 B1
 have lp : gr < q.w.heap.size := (k_r.below q.h).lt
 have op : w.heap.size ≤ q.w.heap.size := (z00 B1 q).size
 have kt := bka hW2 (kt.below q.h)
 have k_r := bka hW2 (k_r.below q.h)
 have kp := bkn hW2
 clear hW2
 clear B1
 clear ct cr fr
 generalize q.w.heap.size = gp at *
 have ct := bwc2 kt
 have cr := bwc5 k_r
 have fr := bwf5 k_r
 have cp := bwc5 kp
 have fp := bwf5 kp
 refine bws fun p2 => ?_
 go_upto_region 5 with (fail)
 refine wnm fun W3 hW3 => ?_
 have B3 : Below w.heap.size w W3 := by rw [hW3]; exact ((z00 B2 p2).setCell (p := ⟨gp, 4, none⟩) (by show w.heap.size ≤ gp; omega) _)
 have kt : Bk W3 (w.heap.size) 39 #[.slice a 0 cap, .slice b m capo] := by rw [hW3]; exact ((kt.below p2.h).other (a := ⟨gp, 4, none⟩) (by show ¬ w.heap.size = gp; omega) (.bool false))
 have k_r : Bk W3 (gr) 115 #[.int .i64 0, .int .i64 0, .int .i64 0, .int .i64 0, .bool false] := by rw [hW3]; exact ((k_r.below p2.h).other (a := ⟨gp, 4, none⟩) (by show ¬ gr = gp; omega) (.bool false))
 have kp : Bk W3 (gp) 115 #[s1, s2, s3, s4, .bool false] := by rw [hW3]; exact ((kp.below p2.h).set 4 (.bool false)).cast (by simp)
 clear hW3
 clear B2
 clear ct cr fr cp fp
 have ct := bwc2 kt
 have cr := bwc5 k_r
 have fr := bwf5 k_r
 have cp := bwc5 kp
 refine bws fun p3 => ?_
 go_wp2
 have kr := bkp5 (k_r.below p3.h) (.int .i64 s1) (.int .i64 s2) (.int .i64 s3) (.int .i64 s4) (.bool false)
 have rc := rwc5 kr
 exact bodyPost_ret (v := .agg #[s1, s2, s3, s4, .bool false]) (by simp [results, results67, go_sem, rc]) rfl ⟨rfl, blp5 (z00 B3 p3) (by omega)⟩
theorem whole16_b0 (a b : Option Addr) (n cap m capo : Nat) (s1 s2 s3 s4 : Int) (sb : Bool) (w : World) (hn : ¬ n = 0) (K : Hid (∀ X, Below w.heap.size w X → Rt prog 70 #[.agg #[.slice a n cap, .slice b m capo], .int .i64 0, .int .i64 0] X (.agg #[s1, s2, s3, s4, .bool sb]))) (h1 : sb = false) :
  Rt prog 67 #[.agg #[.slice a n cap, .slice b m capo]] w (.agg #[s1, s2, s3, s4, .bool false]) := by
 have t1 : ((n : Int) == 0) = false := by rw [beq_eq_false_iff_ne]; omega
 clear hn
 subst h1
 go_enter func67, ntmps67
 go_upto_region 1 with (fail)
 refine wst2 fun W1 kt k_r B1 => ?_
 have lr : w.heap.size < w.heap.size + 1 := by omega
 generalize w.heap.size + 1 = gr at *
 have ct := bwc2 kt
 have cr := bwc5 k_r
 have fr := bwf5 k_r
 refine bws fun p1 => ?_
 go_upto_region 4 with (go_at_call 70; (with_reducible refine (K.out _ (z00 B1 _)).mono ?_); rintro e w1 ⟨rfl, hb⟩; obtain ⟨q, rfl⟩ := z04 hb)
 refine wnm fun W2 hW2 => ?_
 have B2 := bwA q hW2 B1
 have lp : gr < q.w.heap.size := (k_r.below q.h).lt
 have op : w.heap.size ≤ q.w.heap.size := (z00 B1 q).size
 have kt := bka hW2 (kt.below q.h)
 have k_r := bka hW2 (k_r.below q.h)
 have kp := bkn hW2
 clear hW2
 clear B1
 clear ct cr fr
 generalize q.w.heap.size = gp at *
 have ct := bwc2 kt
 have cr := bwc5 k_r
 have fr := bwf5 k_r
 have cp := bwc5 kp
 have fp := bwf5 kp
 refine bws fun p2 => ?_
 go_upto_region 5 with (fail)
 refine wnm fun W3 hW3 => ?_
 have B3 : Below w.heap.size w W3 := by rw [hW3]; exact ((z00 B2 p2).setCell (p := ⟨gp, 4, none⟩) (by show w.heap.size ≤ gp; omega) _)
 have kt : Bk W3 (w.heap.size) 39 #[.slice a n cap, .slice b m capo] := by rw [hW3]; exact ((kt.below p2.h).other (a := ⟨gp, 4, none⟩) (by show ¬ w.heap.size = gp; omega) (.bool false))
 have k_r : Bk W3 (gr) 115 #[.int .i64 0, .int .i64 0, .int .i64 0, .int .i64 0, .bool false] := by rw [hW3]; exact ((k_r.below p2.h).other (a := ⟨gp, 4, none⟩) (by show ¬ gr = gp; omega) (.bool false))
 have kp : Bk W3 (gp) 115 #[s1, s2, s3, s4, .bool false] := by rw [hW3]; exact ((kp.below p2.h).set 4 (.bool false)).cast (by simp)
 clear hW3
 clear B2
 clear ct cr fr cp fp
 have ct := bwc2 kt
 have cr := bwc5 k_r
 have fr := bwf5 k_r
 have cp := bwc5 kp
 refine bws fun p3 => ?_
 go_wp2
 have kr := bkp5 (k_r.below p3.h) (.int .i64 s1) (.int .i64 s2) (.int .i64 s3) (.int .i64 s4) (.bool false)
 have rc := rwc5 kr
 exact bodyPost_ret (v := .agg #[s1, s2, s3, s4, .bool false]) (by simp [results, results67, go_sem, rc]) rfl ⟨rfl, blp5 (z00 B3 p3) (by omega)⟩
theorem whole16_b1 (a b : Option Addr) (n cap m capo : Nat) (s1 s2 s3 s4 : Int) (sb : Bool) (w : World) (hn : ¬ n = 0) (K : Hid (∀ X, Below w.heap.size w X → Rt prog 70 #[.agg #[.slice a n cap, .slice b m capo], .int .i64 0, .int .i64 0] X (.agg #[s1, s2, s3, s4, .bool sb]))) (h1 : sb = true) (h2 : ¬ s1 = n) :
  Rt prog 67 #[.agg #[.slice a n cap, .slice b m capo]] w (.agg #[s1, s2, s3, s4, .bool false]) := by
 have t1 : ((n : Int) == 0) = false := by rw [beq_eq_false_iff_ne]; omega
 clear hn
 subst h1
 have t3 : (s1 == (n : Int)) = false := by rw [beq_eq_false_iff_ne]; exact h2
 clear h2
 go_enter func67, ntmps67
 go_upto_region 1 with (fail)
 refine wst2 fun W1 kt k_r B1 => ?_
 have lr : w.heap.size < w.heap.size + 1 := by omega
 generalize w.heap.size + 1 = gr at *
 have ct := bwc2 kt
 have cr := bwc5 k_r
 have fr := bwf5 k_r
 refine bws fun p1 => ?_
 go_upto_region 4 with (go_at_call 70; (with_reducible refine (K.out _ (z00 B1 _)).mono ?_); rintro e w1 ⟨rfl, hb⟩; obtain ⟨q, rfl⟩ := z04 hb)
 refine wnm fun W2 hW2 => ?_
 have B2 := bwA q hW2 B1
 have lp : gr < q.w.heap.size := (k_r.below q.h).lt
 have op : w.heap.size ≤ q.w.heap.size := (z00 B1 q).size
 have kt := bka hW2 (kt.below q.h)
 have k_r := bka hW2 (k_r.below q.h)
 have kp := bkn hW2
 clear hW2
 clear B1
 clear ct cr fr
 generalize q.w.heap.size = gp at *
 have ct := bwc2 kt
 have cr := bwc5 k_r
 have fr := bwf5 k_r
 have cp := bwc5 kp
 have fp := bwf5 kp
 refine bws fun p2 => ?_
 go_upto_region 5 with (fail)
 refine wnm fun W3 hW3 => ?_
 have B3 : Below w.heap.size w W3 := by rw [hW3]; exact ((z00 B2 p2).setCell (p := ⟨gp, 4, none⟩) (by show w.heap.size ≤ gp; omega) _)
 have kt : Bk W3 (w.heap.size) 39 #[.slice a n cap, .slice b m capo] := by rw [hW3]; exact ((kt.below p2.h).other (a := ⟨gp, 4, none⟩) (by show ¬ w.heap.size = gp; omega) (.bool false))
 have k_r : Bk W3 (gr) 115 #[.int .i64 0, .int .i64 0, .int .i64 0, .int .i64 0, .bool false] := by rw [hW3]; exact ((k_r.below p2.h).other (a := ⟨gp, 4, none⟩) (by show ¬ gr = gp; omega) (.bool false))
 have kp : Bk W3 (gp) 115 #[s1, s2, s3, s4, .bool false] := by rw [hW3]; exact ((kp.below p2.h).set 4 (.bool false)).cast (by simp)
 clear hW3
 clear B2
 clear ct cr fr cp fp
 have ct := bwc2 kt
 have cr := bwc5 k_r
 have fr := bwf5 k_r
 have cp := bwc5 kp
 refine bws fun p3 => ?_
 go_wp2
 have kr := bkp5 (k_r.below p3.h) (.int .i64 s1) (.int .i64 s2) (.int .i64 s3) (.int .i64 s4) (.bool false)
 have rc := rwc5 kr
 exact bodyPost_ret (v := .agg #[s1, s2, s3, s4, .bool false]) (by simp [results, results67, go_sem, rc]) rfl ⟨rfl, blp5 (z00 B3 p3) (by omega)⟩
theorem whole16_b2 (a b : Option Addr) (n cap m capo : Nat) (s1 s2 s3 s4 : Int) (sb : Bool) (w : World) (hn : ¬ n = 0) (K : Hid (∀ X, Below w.heap.size w X → Rt prog 70 #[.agg #[.slice a n cap, .slice b m capo], .int .i64 0, .int .i64 0] X (.agg #[s1, s2, s3, s4, .bool sb]))) (h1 : sb = true) (h2 : s1 = n) (h3 : ¬ s2 = m) :
  Rt prog 67 #[.agg #[.slice a n cap, .slice b m capo]] w (.agg #[s1, s2, s3, s4, .bool false]) := by
 have t1 : ((n : Int) == 0) = false := by rw [beq_eq_false_iff_ne]; omega
 clear hn
 subst h1
 subst h2
 have t4 : (s2 == (m : Int)) = false := by rw [beq_eq_false_iff_ne]; exact h3
 clear h3
 go_enter func67, ntmps67
 go_upto_region 1 with (fail)
 refine wst2 fun W1 kt k_r B1 => ?_
 have lr : w.heap.size < w.heap.size + 1 := by omega
 generalize w.heap.size + 1 = gr at *
 have ct := bwc2 kt
 have cr := bwc5 k_r
 have fr := bwf5 k_r
 refine bws fun p1 => ?_
 go_upto_region 4 with (go_at_call 70; (with_reducible refine (K.out _ (z00 B1 _)).mono ?_); rintro e w1 ⟨rfl, hb⟩; obtain ⟨q, rfl⟩ := z04 hb)
 refine wnm fun W2 hW2 => ?_
 have B2 := bwA q hW2 B1
 have lp : gr < q.w.heap.size := (k_r.below q.h).lt
 have op : w.heap.size ≤ q.w.heap.size := (z00 B1 q).size
 have kt := bka hW2 (kt.below q.h)
 have k_r := bka hW2 (k_r.below q.h)
 have kp := bkn hW2
 clear hW2
 clear B1
 clear ct cr fr
 generalize q.w.heap.size = gp at *
 have ct := bwc2 kt
 have cr := bwc5 k_r
 have fr := bwf5 k_r
 have cp := bwc5 kp
 have fp := bwf5 kp
 refine bws fun p2 => ?_
 go_upto_region 5 with (fail)
 refine wnm fun W3 hW3 => ?_
 have B3 : Below w.heap.size w W3 := by rw [hW3]; exact ((z00 B2 p2).setCell (p := ⟨gp, 4, none⟩) (by show w.heap.size ≤ gp; omega) _)
 have kt : Bk W3 (w.heap.size) 39 #[.slice a n cap, .slice b m capo] := by rw [hW3]; exact ((kt.below p2.h).other (a := ⟨gp, 4, none⟩) (by show ¬ w.heap.size = gp; omega) (.bool false))
 have k_r : Bk W3 (gr) 115 #[.int .i64 0, .int .i64 0, .int .i64 0, .int .i64 0, .bool false] := by rw [hW3]; exact ((k_r.below p2.h).other (a := ⟨gp, 4, none⟩) (by show ¬ gr = gp; omega) (.bool false))
 have kp : Bk W3 (gp) 115 #[n, s2, s3, s4, .bool false] := by rw [hW3]; exact ((kp.below p2.h).set 4 (.bool false)).cast (by simp)
 clear hW3
 clear B2
 clear ct cr fr cp fp
 have ct := bwc2 kt
 have cr := bwc5 k_r
 have fr := bwf5 k_r
 have cp := bwc5 kp
 refine bws fun p3 => ?_
 go_wp2
 have kr := bkp5 (k_r.below p3.h) (.int .i64 n) (.int .i64 s2) (.int .i64 s3) (.int .i64 s4) (.bool false)
 have rc := rwc5 kr
 exact bodyPost_ret (v := .agg #[n, s2, s3, s4, .bool false]) (by simp [results, results67, go_sem, rc]) rfl ⟨rfl, blp5 (z00 B3 p3) (by omega)⟩
theorem whole16_b3 (a b : Option Addr) (n cap m capo : Nat) (s1 s2 s3 s4 : Int) (sb : Bool) (w : World) (hn : ¬ n = 0) (K : Hid (∀ X, Below w.heap.size w X → Rt prog 70 #[.agg #[.slice a n cap, .slice b m capo], .int .i64 0, .int .i64 0] X (.agg #[s1, s2, s3, s4, .bool sb]))) (h1 : sb = true) (h2 : s1 = n) (h3 : s2 = m) :
  Rt prog 67 #[.agg #[.slice a n cap, .slice b m capo]] w (.agg #[s1, s2, s3, s4, .bool true]) := by
 have t1 : ((n : Int) == 0) = false := by rw [beq_eq_false_iff_ne]; omega
 clear hn
 subst h1
 subst h2
 subst h3
 go_enter func67, ntmps67
 go_upto_region 1 with (fail)
 refine wst2 fun W1 kt k_r B1 => ?_
 have lr : w.heap.size < w.heap.size + 1 := by omega
 generalize w.heap.size + 1 = gr at *
 have ct := bwc2 kt
 have cr := bwc5 k_r
 have fr := bwf5 k_r
 refine bws fun p1 => ?_
 go_upto_region 4 with (go_at_call 70; (with_reducible refine (K.out _ (z00 B1 _)).mono ?_); rintro e w1 ⟨rfl, hb⟩; obtain ⟨q, rfl⟩ := z04 hb)
 refine wnm fun W2 hW2 => ?_
 have B2 := bwA q hW2 B1
 have lp : gr < q.w.heap.size := (k_r.below q.h).lt
 have op : w.heap.size ≤ q.w.heap.size := (z00 B1 q).size
 have kt := bka hW2 (kt.below q.h)
 have k_r := bka hW2 (k_r.below q.h)
 have kp := bkn hW2
 clear hW2
 clear B1
 clear ct cr fr
 generalize q.w.heap.size = gp at *
 have ct := bwc2 kt
 have cr := bwc5 k_r
 have fr := bwf5 k_r
 have cp := bwc5 kp
 have fp := bwf5 kp
 refine bws fun p2 => ?_
 go_upto_region 5 with (fail)
 refine wnm fun W3 hW3 => ?_
 have B3 : Below w.heap.size w W3 := by rw [hW3]; exact ((z00 B2 p2).setCell (p := ⟨gp, 4, none⟩) (by show w.heap.size ≤ gp; omega) _)
 have kt : Bk W3 (w.heap.size) 39 #[.slice a n cap, .slice b m capo] := by rw [hW3]; exact ((kt.below p2.h).other (a := ⟨gp, 4, none⟩) (by show ¬ w.heap.size = gp; omega) (.bool true))
 have k_r : Bk W3 (gr) 115 #[.int .i64 0, .int .i64 0, .int .i64 0, .int .i64 0, .bool false] := by rw [hW3]; exact ((k_r.below p2.h).other (a := ⟨gp, 4, none⟩) (by show ¬ gr = gp; omega) (.bool true))
 have kp : Bk W3 (gp) 115 #[n, m, s3, s4, .bool true] := by rw [hW3]; exact ((kp.below p2.h).set 4 (.bool true)).cast (by simp)
 clear hW3
 clear B2
 clear ct cr fr cp fp
 have ct := bwc2 kt
 have cr := bwc5 k_r
 have fr := bwf5 k_r
 have cp := bwc5 kp
 refine bws fun p3 => ?_
 go_wp2
 have kr := bkp5 (k_r.below p3.h) (.int .i64 n) (.int .i64 m) (.int .i64 s3) (.int .i64 s4) (.bool true)
 have rc := rwc5 kr
 exact bodyPost_ret (v := .agg #[n, m, s3, s4, .bool true]) (by simp [results, results67, go_sem, rc]) rfl ⟨rfl, blp5 (z00 B3 p3) (by omega)⟩
theorem ref16_whole (ns : List Nd) (tv : Value) (b : Option Addr) (m capo : Nat) (hm : m ≤ 1048576) (hn : ns.length ≤ 1048576) (w : World) (hN : Nodes w tv ns) :
  Rt prog 67 #[.agg #[tv, .slice b m capo]] w (pv (mWhole ns m)) := by
 have K := fun X hX => ref16_walk ns tv b m capo hm hn (ns.length + 1 - 0) 0 0 X (by omega) (hN.below hX (Nat.le_refl _)) (by omega) (by omega)
 obtain ⟨a, cap, rfl, hmx, h⟩ := hN
 clear h hmx
 have K1 : Hid (∀ X, Below w.heap.size w X → Rt prog 70 #[.agg #[.slice a ns.length cap, .slice b m capo], .int .i64 0, .int .i64 0] X (.agg #[(mPart ns m 0 0).1, (mPart ns m 0 0).2.1, (mPart ns m 0 0).2.2.1, (mPart ns m 0 0).2.2.2.1, .bool (mPart ns m 0 0).2.2.2.2])) := zh K
 clear K
 unfold mWhole
 by_cases h0 : ns.length = 0 ∧ (m : Int) = 0
 · rw [if_pos h0]
   exact whole16_z a b _ cap m capo w h0.1 (by omega)
 · rw [if_neg h0]
   have h00 : ns.length = 0 → (mPart ns m 0 0).2.2.2.2 = false := fun e => by unfold mPart; rw [show ns.length + 1 - 0 = ns.length + 1 from rfl, mWalk_out (by omega)]; rfl
   generalize mPart ns m 0 0 = p at *
   by_cases h1 : p.2.2.2.2 = false
   · have e : pv (p.1, p.2.1, p.2.2.1, p.2.2.2.1, p.2.2.2.2 && (decide (p.1 = ns.length) && decide (p.2.1 = m))) = .agg #[p.1, p.2.1, p.2.2.1, p.2.2.2.1, .bool false] := by unfold pv; rw [h1]; rfl
     rw [e]
     by_cases hz : ns.length = 0
     · exact whole16_a0 a b _ cap m capo _ _ _ _ _ w hz (fun e => h0 ⟨hz, by omega⟩) K1 h1
     · exact whole16_b0 a b _ cap m capo _ _ _ _ _ w hz K1 h1
   · have h1 : p.2.2.2.2 = true := by simpa using h1
     have hz : ¬ ns.length = 0 := fun e => by rw [h00 e] at h1; cases h1
     by_cases h2 : p.1 = ns.length
     · by_cases h3 : p.2.1 = m
       · have e : pv (p.1, p.2.1, p.2.2.1, p.2.2.2.1, p.2.2.2.2 && (decide (p.1 = ns.length) && decide (p.2.1 = m))) = .agg #[p.1, p.2.1, p.2.2.1, p.2.2.2.1, .bool true] := by unfold pv; rw [h1, zt h2, zt h3]; rfl
         rw [e]
         exact whole16_b3 a b _ cap m capo _ _ _ _ _ w hz K1 h1 h2 h3
       · have e : pv (p.1, p.2.1, p.2.2.1, p.2.2.2.1, p.2.2.2.2 && (decide (p.1 = ns.length) && decide (p.2.1 = m))) = .agg #[p.1, p.2.1, p.2.2.1, p.2.2.2.1, .bool false] := by unfold pv; rw [zf h3, Bool.and_false, Bool.and_false]
         rw [e]
         exact whole16_b2 a b _ cap m capo _ _ _ _ _ w hz K1 h1 h2 h3
     · have e : pv (p.1, p.2.1, p.2.2.1, p.2.2.2.1, p.2.2.2.2 && (decide (p.1 = ns.length) && decide (p.2.1 = m))) = .agg #[p.1, p.2.1, p.2.2.1, p.2.2.2.1, .bool false] := by unfold pv; rw [zf h2, Bool.false_and, Bool.and_false]
       rw [e]
       exact whole16_b1 a b _ cap m capo _ _ _ _ _ w hz K1 h1 h2
theorem tell16_Ordered (tv ov : Value) (s1 s2 s3 s4 : Int) (sb : Bool) (w : World) (K : Hid (∀ X, Below w.heap.size w X → Rt prog 67 #[.agg #[tv, ov]] X (.agg #[s1, s2, s3, s4, .bool sb]))) :
  Rt prog 38 #[.agg #[tv, ov]] w (.bool sb) := by
 have hf : ∀ w, (Instr.field 115 (.agg #[s1, s2, s3, s4, .bool sb]) 4).run prog w = .ok (.bool sb) w := fun _ => by kernel_rfl
 go_enter func38, ntmps38
 go_upto_region 1 with (fail)
 refine wst1 fun W1 kt B1 => ?_
 have ct := bwc2 kt
 refine bws fun p1 => ?_
 go_wp2_with (go_at_call 67; (with_reducible refine (K.out _ (z00 B1 _)).mono ?_); rintro e w1 ⟨rfl, hb⟩; obtain ⟨q, rfl⟩ := z04 hb)
 go_ret
 exact ⟨rfl, z00 B1 _⟩
theorem whole_pv (ns : List Nd) (tv : Value) (b : Option Addr) (m capo : Nat) (hm : m ≤ 1048576) (hn : ns.length ≤ 1048576) (w : World) (hN : Nodes w tv ns) {c : Bool} (hc : (mWhole ns m).2.2.2.2 = c) :
  Hid (∀ X, Below w.heap.size w X → Rt prog 67 #[.agg #[tv, .slice b m capo]] X (.agg #[(mWhole ns m).1, (mWhole ns m).2.1, (mWhole ns m).2.2.1, (mWhole ns m).2.2.2.1, .bool c])) :=
 zh (fun X hX => by subst hc; exact ref16_whole ns tv b m capo hm hn X (hN.below hX (Nat.le_refl _)))
theorem ref16_Ordered (ns : List Nd) (tv : Value) (b : Option Addr) (m capo : Nat) (hm : m ≤ 1048576) (hn : ns.length ≤ 1048576) (w : World) (hN : Nodes w tv ns) :
  Rt prog 38 #[.agg #[tv, .slice b m capo]] w (.bool (mWhole ns m).2.2.2.2) :=
 tell16_Ordered tv _ _ _ _ _ _ w (whole_pv ns tv b m capo hm hn w hN rfl)
end
end Go.Proofs.YtbmpmjdlaahekaaGreat
