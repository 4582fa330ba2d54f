/- Contracts of the document's own answers, layer 16: a part gone through -/
import Derived.Test.YtbmpmjdlaahekaaGreatWs50
set_option maxRecDepth 100000
set_option maxHeartbeats 8000000
set_option linter.unusedVariables false
set_option linter.unusedSimpArgs false
open Go.Proofs.Tryz
namespace Go.Proofs.YtbmpmjdlaahekaaGreat
section
open Go.RowKit Go.Proofs.Sky
theorem walk16_out (a b : Option Addr) (n cap m capo i : Nat) (th : Int) (w : World) (h : n ≤ i) :
  Rt prog 70 #[.agg #[.slice a n cap, .slice b m capo], .int .i64 (i : Int), th] w (.agg #[.int .i64 0, .int .i64 0, .int .i64 0, .int .i64 0, .bool false]) := by
 have t1 : decide (n ≤ i) = true := zt h
 clear h
 go_enter func70, ntmps70
 go_upto_region 1 with (fail)
 refine wst2 fun W1 kt k_r B1 => ?_
 have lr : w.heap.size < w.heap.size + 1 := by omega
 generalize w.heap.size + 1 = gr at *
 have ct := bwc2 kt
 have cr := bwc5 k_r
 have fr := bwf5 k_r
 refine bws fun p1 => ?_
 go_wp2
 have kr := bkp5 (k_r.below p1.h) (.int .i64 0) (.int .i64 0) (.int .i64 0) (.int .i64 0) (.bool false)
 have rc := rwc5 kr
 exact bodyPost_ret (v := .agg #[.int .i64 0, .int .i64 0, .int .i64 0, .int .i64 0, .bool false]) (by simp [results, results70, go_sem, rc]) rfl ⟨rfl, blp5 (z00 B1 p1) (by omega)⟩
theorem walk16_w1 (b : Option Addr) (bb off n cap m capo i : Nat) (n1 n2 n3 n4 n5 n6 fi co ri th : Int) (w : World) (hi : i < n) (hbb : bb < w.heap.size) (x0 : w.cell? ⟨bb, off + i * 9, none⟩ = some (.int .i64 n1)) (x1 : w.cell? ⟨bb, off + i * 9 + 1, none⟩ = some (.int .i64 n2)) (x2 : w.cell? ⟨bb, off + i * 9 + 2, none⟩ = some (.int .i64 n3)) (x3 : w.cell? ⟨bb, off + i * 9 + 3, none⟩ = some (.int .i64 n4)) (x4 : w.cell? ⟨bb, off + i * 9 + 4, none⟩ = some (.int .i64 n5)) (x5 : w.cell? ⟨bb, off + i * 9 + 5, none⟩ = some (.int .i64 n6)) (x6 : w.cell? ⟨bb, off + i * 9 + 6, none⟩ = some (.int .i64 fi)) (x7 : w.cell? ⟨bb, off + i * 9 + 7, none⟩ = some (.int .i64 co)) (x8 : w.cell? ⟨bb, off + i * 9 + 8, none⟩ = some (.int .i64 ri)) (hc : ¬ co = 0) (h1 : ¬ 0 < co) (hm : m ≤ 1048576) (hn : n ≤ 1048576) (ht : 0 ≤ th ∧ th ≤ m) :
  Rt prog 70 #[.agg #[.slice (some ⟨bb, off, none⟩) n cap, .slice b m capo], .int .i64 (i : Int), th] w (.agg #[.int .i64 0, .int .i64 0, .int .i64 0, .int .i64 0, .bool false]) := by
 have d1 : decide (0 < co) = false := zf h1
 have dc : (co == 0) = false := by rw [beq_eq_false_iff_ne]; exact hc
 have t1 : decide (n ≤ i) = false := zf (by omega)
 go_enter func70, ntmps70
 go_upto_region 1 with (fail)
 refine wst2 fun W1 kt k_r B1 => ?_
 have lr : w.heap.size < w.heap.size + 1 := by omega
 generalize w.heap.size + 1 = gr at *
 have ct := bwc2 kt
 have cr := bwc5 k_r
 have ce0 := bwB B1 x0 hbb
 have ce1 := bwB B1 x1 hbb
 have ce2 := bwB B1 x2 hbb
 have ce3 := bwB B1 x3 hbb
 have ce4 := bwB B1 x4 hbb
 have ce5 := bwB B1 x5 hbb
 have ce6 := bwB B1 x6 hbb
 have ce7 := bwB B1 x7 hbb
 have ce8 := bwB B1 x8 hbb
 refine bws fun p1 => ?_
 go_upto_region 4 with (fail)
 refine wnm fun W2 hW2 => ?_
 have B2 := bwA p1 hW2 B1
 have ld : gr < p1.w.heap.size := (k_r.below p1.h).lt
 have od : w.heap.size ≤ p1.w.heap.size := (z00 B1 p1).size
 have kt := bka hW2 (kt.below p1.h)
 have k_r := bka hW2 (k_r.below p1.h)
 have kd := bkn hW2
 clear hW2
 clear B1
 clear ct cr ce0 ce1 ce2 ce3 ce4 ce5 ce6 ce7 ce8
 generalize p1.w.heap.size = gd at *
 have ct := bwc2 kt
 have cr := bwc5 k_r
 have fr := bwf5 k_r
 have cd := bwc9 kd
 refine bws fun p2 => ?_
 clear h1 ht hm hn hi
 go_wp2
 have kr := bkp5 (k_r.below p2.h) (.int .i64 0) (.int .i64 0) (.int .i64 0) (.int .i64 0) (.bool false)
 have rc := rwc5 kr
 exact bodyPost_ret (v := .agg #[.int .i64 0, .int .i64 0, .int .i64 0, .int .i64 0, .bool false]) (by simp [results, results70, go_sem, rc]) rfl ⟨rfl, blp5 (z00 B2 p2) (by omega)⟩
theorem walk16_w2 (b : Option Addr) (bb off n cap m capo i : Nat) (n1 n2 n3 n4 n5 n6 fi co ri th : Int) (w : World) (hi : i < n) (hbb : bb < w.heap.size) (x0 : w.cell? ⟨bb, off + i * 9, none⟩ = some (.int .i64 n1)) (x1 : w.cell? ⟨bb, off + i * 9 + 1, none⟩ = some (.int .i64 n2)) (x2 : w.cell? ⟨bb, off + i * 9 + 2, none⟩ = some (.int .i64 n3)) (x3 : w.cell? ⟨bb, off + i * 9 + 3, none⟩ = some (.int .i64 n4)) (x4 : w.cell? ⟨bb, off + i * 9 + 4, none⟩ = some (.int .i64 n5)) (x5 : w.cell? ⟨bb, off + i * 9 + 5, none⟩ = some (.int .i64 n6)) (x6 : w.cell? ⟨bb, off + i * 9 + 6, none⟩ = some (.int .i64 fi)) (x7 : w.cell? ⟨bb, off + i * 9 + 7, none⟩ = some (.int .i64 co)) (x8 : w.cell? ⟨bb, off + i * 9 + 8, none⟩ = some (.int .i64 ri)) (hc : ¬ co = 0) (h1 : 0 < co) (h2 : ¬ fi = th) (hm : m ≤ 1048576) (hn : n ≤ 1048576) (ht : 0 ≤ th ∧ th ≤ m) :
  Rt prog 70 #[.agg #[.slice (some ⟨bb, off, none⟩) n cap, .slice b m capo], .int .i64 (i : Int), th] w (.agg #[.int .i64 0, .int .i64 0, .int .i64 0, .int .i64 0, .bool false]) := by
 have d1 : decide (0 < co) = true := zt h1
 have d2 : (fi == th) = false := by rw [beq_eq_false_iff_ne]; exact h2
 have dc : (co == 0) = false := by rw [beq_eq_false_iff_ne]; exact hc
 have t1 : decide (n ≤ i) = false := zf (by omega)
 go_enter func70, ntmps70
 go_upto_region 1 with (fail)
 refine wst2 fun W1 kt k_r B1 => ?_
 have lr : w.heap.size < w.heap.size + 1 := by omega
 generalize w.heap.size + 1 = gr at *
 have ct := bwc2 kt
 have cr := bwc5 k_r
 have ce0 := bwB B1 x0 hbb
 have ce1 := bwB B1 x1 hbb
 have ce2 := bwB B1 x2 hbb
 have ce3 := bwB B1 x3 hbb
 have ce4 := bwB B1 x4 hbb
 have ce5 := bwB B1 x5 hbb
 have ce6 := bwB B1 x6 hbb
 have ce7 := bwB B1 x7 hbb
 have ce8 := bwB B1 x8 hbb
 refine bws fun p1 => ?_
 go_upto_region 4 with (fail)
 refine wnm fun W2 hW2 => ?_
 have B2 := bwA p1 hW2 B1
 have ld : gr < p1.w.heap.size := (k_r.below p1.h).lt
 have od : w.heap.size ≤ p1.w.heap.size := (z00 B1 p1).size
 have kt := bka hW2 (kt.below p1.h)
 have k_r := bka hW2 (k_r.below p1.h)
 have kd := bkn hW2
 clear hW2
 clear B1
 clear ct cr ce0 ce1 ce2 ce3 ce4 ce5 ce6 ce7 ce8
 generalize p1.w.heap.size = gd at *
 have ct := bwc2 kt
 have cr := bwc5 k_r
 have fr := bwf5 k_r
 have cd := bwc9 kd
 refine bws fun p2 => ?_
 clear h1 h2 ht hm hn hi
 go_wp2
 have kr := bkp5 (k_r.below p2.h) (.int .i64 0) (.int .i64 0) (.int .i64 0) (.int .i64 0) (.bool false)
 have rc := rwc5 kr
 exact bodyPost_ret (v := .agg #[.int .i64 0, .int .i64 0, .int .i64 0, .int .i64 0, .bool false]) (by simp [results, results70, go_sem, rc]) rfl ⟨rfl, blp5 (z00 B2 p2) (by omega)⟩
theorem walk16_w3 (b : Option Addr) (bb off n cap m capo i : Nat) (n1 n2 n3 n4 n5 n6 fi co ri th : Int) (w : World) (hi : i < n) (hbb : bb < w.heap.size) (x0 : w.cell? ⟨bb, off + i * 9, none⟩ = some (.int .i64 n1)) (x1 : w.cell? ⟨bb, off + i * 9 + 1, none⟩ = some (.int .i64 n2)) (x2 : w.cell? ⟨bb, off + i * 9 + 2, none⟩ = some (.int .i64 n3)) (x3 : w.cell? ⟨bb, off + i * 9 + 3, none⟩ = some (.int .i64 n4)) (x4 : w.cell? ⟨bb, off + i * 9 + 4, none⟩ = some (.int .i64 n5)) (x5 : w.cell? ⟨bb, off + i * 9 + 5, none⟩ = some (.int .i64 n6)) (x6 : w.cell? ⟨bb, off + i * 9 + 6, none⟩ = some (.int .i64 fi)) (x7 : w.cell? ⟨bb, off + i * 9 + 7, none⟩ = some (.int .i64 co)) (x8 : w.cell? ⟨bb, off + i * 9 + 8, none⟩ = some (.int .i64 ri)) (hc : ¬ co = 0) (h1 : 0 < co) (h2 : fi = th) (h3 : ¬ ri = 0) (hm : m ≤ 1048576) (hn : n ≤ 1048576) (ht : 0 ≤ th ∧ th ≤ m) :
  Rt prog 70 #[.agg #[.slice (some ⟨bb, off, none⟩) n cap, .slice b m capo], .int .i64 (i : Int), th] w (.agg #[.int .i64 0, .int .i64 0, .int .i64 0, .int .i64 0, .bool false]) := by
 have d1 : decide (0 < co) = true := zt h1
 have d3 : (ri == 0) = false := by rw [beq_eq_false_iff_ne]; exact h3
 have dc : (co == 0) = false := by rw [beq_eq_false_iff_ne]; exact hc
 subst h2
 have t1 : decide (n ≤ i) = false := zf (by omega)
 go_enter func70, ntmps70
 go_upto_region 1 with (fail)
 refine wst2 fun W1 kt k_r B1 => ?_
 have lr : w.heap.size < w.heap.size + 1 := by omega
 generalize w.heap.size + 1 = gr at *
 have ct := bwc2 kt
 have cr := bwc5 k_r
 have ce0 := bwB B1 x0 hbb
 have ce1 := bwB B1 x1 hbb
 have ce2 := bwB B1 x2 hbb
 have ce3 := bwB B1 x3 hbb
 have ce4 := bwB B1 x4 hbb
 have ce5 := bwB B1 x5 hbb
 have ce6 := bwB B1 x6 hbb
 have ce7 := bwB B1 x7 hbb
 have ce8 := bwB B1 x8 hbb
 refine bws fun p1 => ?_
 go_upto_region 4 with (fail)
 refine wnm fun W2 hW2 => ?_
 have B2 := bwA p1 hW2 B1
 have ld : gr < p1.w.heap.size := (k_r.below p1.h).lt
 have od : w.heap.size ≤ p1.w.heap.size := (z00 B1 p1).size
 have kt := bka hW2 (kt.below p1.h)
 have k_r := bka hW2 (k_r.below p1.h)
 have kd := bkn hW2
 clear hW2
 clear B1
 clear ct cr ce0 ce1 ce2 ce3 ce4 ce5 ce6 ce7 ce8
 generalize p1.w.heap.size = gd at *
 have ct := bwc2 kt
 have cr := bwc5 k_r
 have fr := bwf5 k_r
 have cd := bwc9 kd
 refine bws fun p2 => ?_
 clear h1 h3 ht hm hn hi
 go_wp2
 have kr := bkp5 (k_r.below p2.h) (.int .i64 0) (.int .i64 0) (.int .i64 0) (.int .i64 0) (.bool false)
 have rc := rwc5 kr
 exact bodyPost_ret (v := .agg #[.int .i64 0, .int .i64 0, .int .i64 0, .int .i64 0, .bool false]) (by simp [results, results70, go_sem, rc]) rfl ⟨rfl, blp5 (z00 B2 p2) (by omega)⟩
theorem walk16_w4 (b : Option Addr) (bb off n cap m capo i : Nat) (n1 n2 n3 n4 n5 n6 fi co ri th : Int) (w : World) (hi : i < n) (hbb : bb < w.heap.size) (x0 : w.cell? ⟨bb, off + i * 9, none⟩ = some (.int .i64 n1)) (x1 : w.cell? ⟨bb, off + i * 9 + 1, none⟩ = some (.int .i64 n2)) (x2 : w.cell? ⟨bb, off + i * 9 + 2, none⟩ = some (.int .i64 n3)) (x3 : w.cell? ⟨bb, off + i * 9 + 3, none⟩ = some (.int .i64 n4)) (x4 : w.cell? ⟨bb, off + i * 9 + 4, none⟩ = some (.int .i64 n5)) (x5 : w.cell? ⟨bb, off + i * 9 + 5, none⟩ = some (.int .i64 n6)) (x6 : w.cell? ⟨bb, off + i * 9 + 6, none⟩ = some (.int .i64 fi)) (x7 : w.cell? ⟨bb, off + i * 9 + 7, none⟩ = some (.int .i64 co)) (x8 : w.cell? ⟨bb, off + i * 9 + 8, none⟩ = some (.int .i64 ri)) (hc : ¬ co = 0) (h1 : 0 < co) (h2 : fi = th) (h3 : ri = 0) (h4 : ¬ co ≤ m - th) (hm : m ≤ 1048576) (hn : n ≤ 1048576) (ht : 0 ≤ th ∧ th ≤ m) :
  Rt prog 70 #[.agg #[.slice (some ⟨bb, off, none⟩) n cap, .slice b m capo], .int .i64 (i : Int), th] w (.agg #[.int .i64 0, .int .i64 0, .int .i64 0, .int .i64 0, .bool false]) := by
 have d1 : decide (0 < co) = true := zt h1
 have d4 : decide (co ≤ m - th) = false := zf h4
 have vv : wrap64 ((m : Int) - th) = m - th := IntWalk.wrap64_in _ (by omega)
 have VV := zh vv
 clear vv
 have dc : (co == 0) = false := by rw [beq_eq_false_iff_ne]; exact hc
 subst h2
 subst h3
 have t1 : decide (n ≤ i) = false := zf (by omega)
 go_enter func70, ntmps70
 go_upto_region 1 with (fail)
 refine wst2 fun W1 kt k_r B1 => ?_
 have lr : w.heap.size < w.heap.size + 1 := by omega
 generalize w.heap.size + 1 = gr at *
 have ct := bwc2 kt
 have cr := bwc5 k_r
 have ce0 := bwB B1 x0 hbb
 have ce1 := bwB B1 x1 hbb
 have ce2 := bwB B1 x2 hbb
 have ce3 := bwB B1 x3 hbb
 have ce4 := bwB B1 x4 hbb
 have ce5 := bwB B1 x5 hbb
 have ce6 := bwB B1 x6 hbb
 have ce7 := bwB B1 x7 hbb
 have ce8 : ∀ p : BW W1, p.w.cell? ⟨bb, off + i * 9 + 8, none⟩ = some (.int .i64 0) := bwB B1 x8 hbb
 refine bws fun p1 => ?_
 go_upto_region 4 with (fail)
 refine wnm fun W2 hW2 => ?_
 have B2 := bwA p1 hW2 B1
 have ld : gr < p1.w.heap.size := (k_r.below p1.h).lt
 have od : w.heap.size ≤ p1.w.heap.size := (z00 B1 p1).size
 have kt := bka hW2 (kt.below p1.h)
 have k_r := bka hW2 (k_r.below p1.h)
 have kd := bkn hW2
 clear hW2
 clear B1
 clear ct cr ce0 ce1 ce2 ce3 ce4 ce5 ce6 ce7 ce8
 generalize p1.w.heap.size = gd at *
 have ct := bwc2 kt
 have cr := bwc5 k_r
 have fr := bwf5 k_r
 have cd := bwc9 kd
 refine bws fun p2 => ?_
 clear h1 h4 ht hm hn hi
 have v1 := VV.out
 go_wp2
 have kr := bkp5 (k_r.below p2.h) (.int .i64 0) (.int .i64 0) (.int .i64 0) (.int .i64 0) (.bool false)
 have rc := rwc5 kr
 exact bodyPost_ret (v := .agg #[.int .i64 0, .int .i64 0, .int .i64 0, .int .i64 0, .bool false]) (by simp [results, results70, go_sem, rc]) rfl ⟨rfl, blp5 (z00 B2 p2) (by omega)⟩
theorem walk16_w5 (b : Option Addr) (bb off n cap m capo i : Nat) (n1 n2 n3 n4 n5 n6 fi co ri th : Int) (w : World) (hi : i < n) (hbb : bb < w.heap.size) (x0 : w.cell? ⟨bb, off + i * 9, none⟩ = some (.int .i64 n1)) (x1 : w.cell? ⟨bb, off + i * 9 + 1, none⟩ = some (.int .i64 n2)) (x2 : w.cell? ⟨bb, off + i * 9 + 2, none⟩ = some (.int .i64 n3)) (x3 : w.cell? ⟨bb, off + i * 9 + 3, none⟩ = some (.int .i64 n4)) (x4 : w.cell? ⟨bb, off + i * 9 + 4, none⟩ = some (.int .i64 n5)) (x5 : w.cell? ⟨bb, off + i * 9 + 5, none⟩ = some (.int .i64 n6)) (x6 : w.cell? ⟨bb, off + i * 9 + 6, none⟩ = some (.int .i64 fi)) (x7 : w.cell? ⟨bb, off + i * 9 + 7, none⟩ = some (.int .i64 co)) (x8 : w.cell? ⟨bb, off + i * 9 + 8, none⟩ = some (.int .i64 ri)) (hc : ¬ co = 0) (h1 : 0 < co) (h2 : fi = th) (h3 : ri = 0) (h4 : co ≤ m - th) (hm : m ≤ 1048576) (hn : n ≤ 1048576) (ht : 0 ≤ th ∧ th ≤ m) :
  Rt prog 70 #[.agg #[.slice (some ⟨bb, off, none⟩) n cap, .slice b m capo], .int .i64 (i : Int), th] w (.agg #[.int .i64 ((i : Int) + 1), .int .i64 (th + co), .int .i64 1, .int .i64 1, .bool true]) := by
 have d1 : decide (0 < co) = true := zt h1
 have d4 : decide (co ≤ m - th) = true := zt h4
 have vv : wrap64 ((m : Int) - th) = m - th ∧ wrap64 (th + co) = th + co ∧ wrap64 ((i : Int) + 1) = (i : Int) + 1 := ⟨IntWalk.wrap64_in _ (by omega), IntWalk.wrap64_in _ (by omega), IntWalk.wrap64_in _ (by omega)⟩
 have VV := zh vv
 clear vv
 have dc : (co == 0) = false := by rw [beq_eq_false_iff_ne]; exact hc
 subst h2
 subst h3
 have t1 : decide (n ≤ i) = false := zf (by omega)
 go_enter func70, ntmps70
 go_upto_region 1 with (fail)
 refine wst2 fun W1 kt k_r B1 => ?_
 have lr : w.heap.size < w.heap.size + 1 := by omega
 generalize w.heap.size + 1 = gr at *
 have ct := bwc2 kt
 have cr := bwc5 k_r
 have ce0 := bwB B1 x0 hbb
 have ce1 := bwB B1 x1 hbb
 have ce2 := bwB B1 x2 hbb
 have ce3 := bwB B1 x3 hbb
 have ce4 := bwB B1 x4 hbb
 have ce5 := bwB B1 x5 hbb
 have ce6 := bwB B1 x6 hbb
 have ce7 := bwB B1 x7 hbb
 have ce8 : ∀ p : BW W1, p.w.cell? ⟨bb, off + i * 9 + 8, none⟩ = some (.int .i64 0) := bwB B1 x8 hbb
 refine bws fun p1 => ?_
 go_upto_region 4 with (fail)
 refine wnm fun W2 hW2 => ?_
 have B2 := bwA p1 hW2 B1
 have ld : gr < p1.w.heap.size := (k_r.below p1.h).lt
 have od : w.heap.size ≤ p1.w.heap.size := (z00 B1 p1).size
 have kt := bka hW2 (kt.below p1.h)
 have k_r := bka hW2 (k_r.below p1.h)
 have kd := bkn hW2
 clear hW2
 clear B1
 clear ct cr ce0 ce1 ce2 ce3 ce4 ce5 ce6 ce7 ce8
 generalize p1.w.heap.size = gd at *
 have ct := bwc2 kt
 have cr := bwc5 k_r
 have fr := bwf5 k_r
 have cd := bwc9 kd
 refine bws fun p2 => ?_
 clear h1 h4 ht hm hn hi
 obtain ⟨v1, v2, v3⟩ := VV.out
 go_wp2
 have kr := bkp5 (k_r.below p2.h) (.int .i64 ((i : Int) + 1)) (.int .i64 (fi + co)) (.int .i64 1) (.int .i64 1) (.bool true)
 have rc := rwc5 kr
 exact bodyPost_ret (v := .agg #[.int .i64 ((i : Int) + 1), .int .i64 (fi + co), .int .i64 1, .int .i64 1, .bool true]) (by simp [results, results70, go_sem, rc]) rfl ⟨rfl, blp5 (z00 B2 p2) (by omega)⟩
theorem walk16_n1 (b : Option Addr) (bb off n cap m capo i : Nat) (n1 n2 n3 n4 n5 n6 fi co ri th : Int) (w : World) (hi : i < n) (hbb : bb < w.heap.size) (x0 : w.cell? ⟨bb, off + i * 9, none⟩ = some (.int .i64 n1)) (x1 : w.cell? ⟨bb, off + i * 9 + 1, none⟩ = some (.int .i64 n2)) (x2 : w.cell? ⟨bb, off + i * 9 + 2, none⟩ = some (.int .i64 n3)) (x3 : w.cell? ⟨bb, off + i * 9 + 3, none⟩ = some (.int .i64 n4)) (x4 : w.cell? ⟨bb, off + i * 9 + 4, none⟩ = some (.int .i64 n5)) (x5 : w.cell? ⟨bb, off + i * 9 + 5, none⟩ = some (.int .i64 n6)) (x6 : w.cell? ⟨bb, off + i * 9 + 6, none⟩ = some (.int .i64 fi)) (x7 : w.cell? ⟨bb, off + i * 9 + 7, none⟩ = some (.int .i64 co)) (x8 : w.cell? ⟨bb, off + i * 9 + 8, none⟩ = some (.int .i64 ri)) (hc : co = 0) (hf : ¬ fi = 0) (hn : n ≤ 1048576) :
  Rt prog 70 #[.agg #[.slice (some ⟨bb, off, none⟩) n cap, .slice b m capo], .int .i64 (i : Int), th] w (.agg #[.int .i64 0, .int .i64 0, .int .i64 0, .int .i64 0, .bool false]) := by
 subst hc
 have t1 : decide (n ≤ i) = false := zf (by omega)
 go_enter func70, ntmps70
 go_upto_region 1 with (fail)
 refine wst2 fun W1 kt k_r B1 => ?_
 have lr : w.heap.size < w.heap.size + 1 := by omega
 generalize w.heap.size + 1 = gr at *
 have ct := bwc2 kt
 have cr := bwc5 k_r
 have ce0 := bwB B1 x0 hbb
 have ce1 := bwB B1 x1 hbb
 have ce2 := bwB B1 x2 hbb
 have ce3 := bwB B1 x3 hbb
 have ce4 := bwB B1 x4 hbb
 have ce5 := bwB B1 x5 hbb
 have ce6 := bwB B1 x6 hbb
 have ce7 : ∀ p : BW W1, p.w.cell? ⟨bb, off + i * 9 + 7, none⟩ = some (.int .i64 0) := bwB B1 x7 hbb
 have ce8 := bwB B1 x8 hbb
 refine bws fun p1 => ?_
 go_upto_region 4 with (fail)
 refine wnm fun W2 hW2 => ?_
 have B2 := bwA p1 hW2 B1
 have ld : gr < p1.w.heap.size := (k_r.below p1.h).lt
 have od : w.heap.size ≤ p1.w.heap.size := (z00 B1 p1).size
 have kt := bka hW2 (kt.below p1.h)
 have k_r := bka hW2 (k_r.below p1.h)
 have kd := bkn hW2
 clear hW2
 clear B1
 clear ct cr ce0 ce1 ce2 ce3 ce4 ce5 ce6 ce7 ce8
 generalize p1.w.heap.size = gd at *
 have ct := bwc2 kt
 have cr := bwc5 k_r
 have fr := bwf5 k_r
 have cd := bwc9 kd
 refine bws fun p2 => ?_
 clear hn hi
 go_wp2
 have kr := bkp5 (k_r.below p2.h) (.int .i64 0) (.int .i64 0) (.int .i64 0) (.int .i64 0) (.bool false)
 have rc := rwc5 kr
 exact bodyPost_ret (v := .agg #[.int .i64 0, .int .i64 0, .int .i64 0, .int .i64 0, .bool false]) (by simp [results, results70, go_sem, rc]) rfl ⟨rfl, blp5 (z00 B2 p2) (by omega)⟩
theorem walk16_n2 (b : Option Addr) (bb off n cap m capo i : Nat) (n1 n2 n3 n4 n5 n6 fi co ri th s1 s2 s3 s4 : Int) (w : World) (hi : i < n) (hbb : bb < w.heap.size) (x0 : w.cell? ⟨bb, off + i * 9, none⟩ = some (.int .i64 n1)) (x1 : w.cell? ⟨bb, off + i * 9 + 1, none⟩ = some (.int .i64 n2)) (x2 : w.cell? ⟨bb, off + i * 9 + 2, none⟩ = some (.int .i64 n3)) (x3 : w.cell? ⟨bb, off + i * 9 + 3, none⟩ = some (.int .i64 n4)) (x4 : w.cell? ⟨bb, off + i * 9 + 4, none⟩ = some (.int .i64 n5)) (x5 : w.cell? ⟨bb, off + i * 9 + 5, none⟩ = some (.int .i64 n6)) (x6 : w.cell? ⟨bb, off + i * 9 + 6, none⟩ = some (.int .i64 fi)) (x7 : w.cell? ⟨bb, off + i * 9 + 7, none⟩ = some (.int .i64 co)) (x8 : w.cell? ⟨bb, off + i * 9 + 8, none⟩ = some (.int .i64 ri)) (hc : co = 0) (hf : fi = 0) (K1 : Hid (∀ X, Below w.heap.size w X → Rt prog 70 #[.agg #[.slice (some ⟨bb, off, none⟩) n cap, .slice b m capo], .int .i64 ((i : Int) + 1), th] X (.agg #[s1, s2, s3, s4, .bool false]))) (hn : n ≤ 1048576) :
  Rt prog 70 #[.agg #[.slice (some ⟨bb, off, none⟩) n cap, .slice b m capo], .int .i64 (i : Int), th] w (.agg #[.int .i64 0, .int .i64 0, .int .i64 0, .int .i64 0, .bool false]) := by
 subst hc
 subst hf
 have t1 : decide (n ≤ i) = false := zf (by omega)
 go_enter func70, ntmps70
 go_upto_region 1 with (fail)
 refine wst2 fun W1 kt k_r B1 => ?_
 have lr : w.heap.size < w.heap.size + 1 := by omega
 generalize w.heap.size + 1 = gr at *
 have ct := bwc2 kt
 have cr := bwc5 k_r
 have ce0 := bwB B1 x0 hbb
 have ce1 := bwB B1 x1 hbb
 have ce2 := bwB B1 x2 hbb
 have ce3 := bwB B1 x3 hbb
 have ce4 := bwB B1 x4 hbb
 have ce5 := bwB B1 x5 hbb
 have ce6 : ∀ p : BW W1, p.w.cell? ⟨bb, off + i * 9 + 6, none⟩ = some (.int .i64 0) := bwB B1 x6 hbb
 have ce7 : ∀ p : BW W1, p.w.cell? ⟨bb, off + i * 9 + 7, none⟩ = some (.int .i64 0) := bwB B1 x7 hbb
 have ce8 := bwB B1 x8 hbb
 refine bws fun p1 => ?_
 go_upto_region 4 with (fail)
 refine wnm fun W2 hW2 => ?_
 have B2 := bwA p1 hW2 B1
 have ld : gr < p1.w.heap.size := (k_r.below p1.h).lt
 have od : w.heap.size ≤ p1.w.heap.size := (z00 B1 p1).size
 have kt := bka hW2 (kt.below p1.h)
 have k_r := bka hW2 (k_r.below p1.h)
 have kd := bkn hW2
 clear hW2
 clear B1
 clear ct cr ce0 ce1 ce2 ce3 ce4 ce5 ce6 ce7 ce8
 generalize p1.w.heap.size = gd at *
 have ct := bwc2 kt
 have cr := bwc5 k_r
 have fr := bwf5 k_r
 have cd := bwc9 kd
 refine bws fun p2 => ?_
 go_upto_region 12 with (go_at_call 70; (with_reducible refine (K1.out _ (z00 B2 _)).mono ?_); rintro e w1 ⟨rfl, hb⟩; obtain ⟨q, rfl⟩ := z04 hb)
 refine wnm fun W3 hW3 => ?_
 have B3 := bwA q hW3 B2
 have la : gd < q.w.heap.size := (kd.below q.h).lt
 have oa : w.heap.size ≤ q.w.heap.size := (z00 B2 q).size
 have kt := bka hW3 (kt.below q.h)
 have k_r := bka hW3 (k_r.below q.h)
 have kd := bka hW3 (kd.below q.h)
 have ka := bkn hW3
 clear hW3
 clear B2
 clear ct cr fr cd
 generalize q.w.heap.size = ga at *
 have ct := bwc2 kt
 have cr := bwc5 k_r
 have fr := bwf5 k_r
 have cd := bwc9 kd
 have c_a := bwc5 ka
 refine bws fun p3 => ?_
 go_wp2
 have kr := bkp5 (k_r.below p3.h) (.int .i64 0) (.int .i64 0) (.int .i64 0) (.int .i64 0) (.bool false)
 have rc := rwc5 kr
 exact bodyPost_ret (v := .agg #[.int .i64 0, .int .i64 0, .int .i64 0, .int .i64 0, .bool false]) (by simp [results, results70, go_sem, rc]) rfl ⟨rfl, blp5 (z00 B3 p3) (by omega)⟩
theorem walk16_n3 (b : Option Addr) (bb off n cap m capo i : Nat) (n1 n2 n3 n4 n5 n6 fi co ri th s1 s2 s3 s4 : Int) (w : World) (hi : i < n) (hbb : bb < w.heap.size) (x0 : w.cell? ⟨bb, off + i * 9, none⟩ = some (.int .i64 n1)) (x1 : w.cell? ⟨bb, off + i * 9 + 1, none⟩ = some (.int .i64 n2)) (x2 : w.cell? ⟨bb, off + i * 9 + 2, none⟩ = some (.int .i64 n3)) (x3 : w.cell? ⟨bb, off + i * 9 + 3, none⟩ = some (.int .i64 n4)) (x4 : w.cell? ⟨bb, off + i * 9 + 4, none⟩ = some (.int .i64 n5)) (x5 : w.cell? ⟨bb, off + i * 9 + 5, none⟩ = some (.int .i64 n6)) (x6 : w.cell? ⟨bb, off + i * 9 + 6, none⟩ = some (.int .i64 fi)) (x7 : w.cell? ⟨bb, off + i * 9 + 7, none⟩ = some (.int .i64 co)) (x8 : w.cell? ⟨bb, off + i * 9 + 8, none⟩ = some (.int .i64 ri)) (hc : co = 0) (hf : fi = 0) (K1 : Hid (∀ X, Below w.heap.size w X → Rt prog 70 #[.agg #[.slice (some ⟨bb, off, none⟩) n cap, .slice b m capo], .int .i64 ((i : Int) + 1), th] X (.agg #[s1, s2, s3, s4, .bool true]))) (hr : ¬ ri = s1) (hn : n ≤ 1048576) :
  Rt prog 70 #[.agg #[.slice (some ⟨bb, off, none⟩) n cap, .slice b m capo], .int .i64 (i : Int), th] w (.agg #[.int .i64 0, .int .i64 0, .int .i64 0, .int .i64 0, .bool false]) := by
 subst hc
 subst hf
 have dr : (ri == s1) = false := by rw [beq_eq_false_iff_ne]; exact hr
 have t1 : decide (n ≤ i) = false := zf (by omega)
 go_enter func70, ntmps70
 go_upto_region 1 with (fail)
 refine wst2 fun W1 kt k_r B1 => ?_
 have lr : w.heap.size < w.heap.size + 1 := by omega
 generalize w.heap.size + 1 = gr at *
 have ct := bwc2 kt
 have cr := bwc5 k_r
 have ce0 := bwB B1 x0 hbb
 have ce1 := bwB B1 x1 hbb
 have ce2 := bwB B1 x2 hbb
 have ce3 := bwB B1 x3 hbb
 have ce4 := bwB B1 x4 hbb
 have ce5 := bwB B1 x5 hbb
 have ce6 : ∀ p : BW W1, p.w.cell? ⟨bb, off + i * 9 + 6, none⟩ = some (.int .i64 0) := bwB B1 x6 hbb
 have ce7 : ∀ p : BW W1, p.w.cell? ⟨bb, off + i * 9 + 7, none⟩ = some (.int .i64 0) := bwB B1 x7 hbb
 have ce8 := bwB B1 x8 hbb
 refine bws fun p1 => ?_
 go_upto_region 4 with (fail)
 refine wnm fun W2 hW2 => ?_
 have B2 := bwA p1 hW2 B1
 have ld : gr < p1.w.heap.size := (k_r.below p1.h).lt
 have od : w.heap.size ≤ p1.w.heap.size := (z00 B1 p1).size
 have kt := bka hW2 (kt.below p1.h)
 have k_r := bka hW2 (k_r.below p1.h)
 have kd := bkn hW2
 clear hW2
 clear B1
 clear ct cr ce0 ce1 ce2 ce3 ce4 ce5 ce6 ce7 ce8
 generalize p1.w.heap.size = gd at *
 have ct := bwc2 kt
 have cr := bwc5 k_r
 have fr := bwf5 k_r
 have cd := bwc9 kd
 refine bws fun p2 => ?_
 go_upto_region 12 with (go_at_call 70; (with_reducible refine (K1.out _ (z00 B2 _)).mono ?_); rintro e w1 ⟨rfl, hb⟩; obtain ⟨q, rfl⟩ := z04 hb)
 refine wnm fun W3 hW3 => ?_
 have B3 := bwA q hW3 B2
 have la : gd < q.w.heap.size := (kd.below q.h).lt
 have oa : w.heap.size ≤ q.w.heap.size := (z00 B2 q).size
 have kt := bka hW3 (kt.below q.h)
 have k_r := bka hW3 (k_r.below q.h)
 have kd := bka hW3 (kd.below q.h)
 have ka := bkn hW3
 clear hW3
 clear B2
 clear ct cr fr cd
 generalize q.w.heap.size = ga at *
 have ct := bwc2 kt
 have cr := bwc5 k_r
 have fr := bwf5 k_r
 have cd := bwc9 kd
 have c_a := bwc5 ka
 refine bws fun p3 => ?_
 go_wp2
 have kr := bkp5 (k_r.below p3.h) (.int .i64 0) (.int .i64 0) (.int .i64 0) (.int .i64 0) (.bool false)
 have rc := rwc5 kr
 exact bodyPost_ret (v := .agg #[.int .i64 0, .int .i64 0, .int .i64 0, .int .i64 0, .bool false]) (by simp [results, results70, go_sem, rc]) rfl ⟨rfl, blp5 (z00 B3 p3) (by omega)⟩
theorem walk16_n4 (b : Option Addr) (bb off n cap m capo i : Nat) (n1 n2 n3 n4 n5 n6 fi co ri th s1 s2 s3 s4 u1 u2 u3 u4 : Int) (w : World) (hi : i < n) (hbb : bb < w.heap.size) (x0 : w.cell? ⟨bb, off + i * 9, none⟩ = some (.int .i64 n1)) (x1 : w.cell? ⟨bb, off + i * 9 + 1, none⟩ = some (.int .i64 n2)) (x2 : w.cell? ⟨bb, off + i * 9 + 2, none⟩ = some (.int .i64 n3)) (x3 : w.cell? ⟨bb, off + i * 9 + 3, none⟩ = some (.int .i64 n4)) (x4 : w.cell? ⟨bb, off + i * 9 + 4, none⟩ = some (.int .i64 n5)) (x5 : w.cell? ⟨bb, off + i * 9 + 5, none⟩ = some (.int .i64 n6)) (x6 : w.cell? ⟨bb, off + i * 9 + 6, none⟩ = some (.int .i64 fi)) (x7 : w.cell? ⟨bb, off + i * 9 + 7, none⟩ = some (.int .i64 co)) (x8 : w.cell? ⟨bb, off + i * 9 + 8, none⟩ = some (.int .i64 ri)) (hc : co = 0) (hf : fi = 0) (K1 : Hid (∀ X, Below w.heap.size w X → Rt prog 70 #[.agg #[.slice (some ⟨bb, off, none⟩) n cap, .slice b m capo], .int .i64 ((i : Int) + 1), th] X (.agg #[s1, s2, s3, s4, .bool true]))) (hr : ri = s1) (K2 : Hid (∀ X, Below w.heap.size w X → Rt prog 70 #[.agg #[.slice (some ⟨bb, off, none⟩) n cap, .slice b m capo], .int .i64 (s1), s2] X (.agg #[u1, u2, u3, u4, .bool false]))) (hn : n ≤ 1048576) :
  Rt prog 70 #[.agg #[.slice (some ⟨bb, off, none⟩) n cap, .slice b m capo], .int .i64 (i : Int), th] w (.agg #[.int .i64 0, .int .i64 0, .int .i64 0, .int .i64 0, .bool false]) := by
 subst hc
 subst hf
 subst hr
 have t1 : decide (n ≤ i) = false := zf (by omega)
 go_enter func70, ntmps70
 go_upto_region 1 with (fail)
 refine wst2 fun W1 kt k_r B1 => ?_
 have lr : w.heap.size < w.heap.size + 1 := by omega
 generalize w.heap.size + 1 = gr at *
 have ct := bwc2 kt
 have cr := bwc5 k_r
 have ce0 := bwB B1 x0 hbb
 have ce1 := bwB B1 x1 hbb
 have ce2 := bwB B1 x2 hbb
 have ce3 := bwB B1 x3 hbb
 have ce4 := bwB B1 x4 hbb
 have ce5 := bwB B1 x5 hbb
 have ce6 : ∀ p : BW W1, p.w.cell? ⟨bb, off + i * 9 + 6, none⟩ = some (.int .i64 0) := bwB B1 x6 hbb
 have ce7 : ∀ p : BW W1, p.w.cell? ⟨bb, off + i * 9 + 7, none⟩ = some (.int .i64 0) := bwB B1 x7 hbb
 have ce8 := bwB B1 x8 hbb
 refine bws fun p1 => ?_
 go_upto_region 4 with (fail)
 refine wnm fun W2 hW2 => ?_
 have B2 := bwA p1 hW2 B1
 have ld : gr < p1.w.heap.size := (k_r.below p1.h).lt
 have od : w.heap.size ≤ p1.w.heap.size := (z00 B1 p1).size
 have kt := bka hW2 (kt.below p1.h)
 have k_r := bka hW2 (k_r.below p1.h)
 have kd := bkn hW2
 clear hW2
 clear B1
 clear ct cr ce0 ce1 ce2 ce3 ce4 ce5 ce6 ce7 ce8
 generalize p1.w.heap.size = gd at *
 have ct := bwc2 kt
 have cr := bwc5 k_r
 have fr := bwf5 k_r
 have cd := bwc9 kd
 refine bws fun p2 => ?_
 go_upto_region 12 with (go_at_call 70; (with_reducible refine (K1.out _ (z00 B2 _)).mono ?_); rintro e w1 ⟨rfl, hb⟩; obtain ⟨q, rfl⟩ := z04 hb)
 refine wnm fun W3 hW3 => ?_
 have B3 := bwA q hW3 B2
 have la : gd < q.w.heap.size := (kd.below q.h).lt
 have oa : w.heap.size ≤ q.w.heap.size := (z00 B2 q).size
 have kt := bka hW3 (kt.below q.h)
 have k_r := bka hW3 (k_r.below q.h)
 have kd := bka hW3 (kd.below q.h)
 have ka := bkn hW3
 clear hW3
 clear B2
 clear ct cr fr cd
 generalize q.w.heap.size = ga at *
 have ct := bwc2 kt
 have cr := bwc5 k_r
 have fr := bwf5 k_r
 have cd := bwc9 kd
 have c_a := bwc5 ka
 refine bws fun p3 => ?_
 go_upto_region 15 with (go_at_call 70; (with_reducible refine (K2.out _ (z00 B3 _)).mono ?_); rintro e w1 ⟨rfl, hb⟩; obtain ⟨q, rfl⟩ := z04 hb)
 refine wnm fun W4 hW4 => ?_
 have B4 := bwA q hW4 B3
 have lb : ga < q.w.heap.size := (ka.below q.h).lt
 have ob : w.heap.size ≤ q.w.heap.size := (z00 B3 q).size
 have kt := bka hW4 (kt.below q.h)
 have k_r := bka hW4 (k_r.below q.h)
 have kd := bka hW4 (kd.below q.h)
 have ka := bka hW4 (ka.below q.h)
 have kb := bkn hW4
 clear hW4
 clear B3
 clear ct cr fr cd c_a
 generalize q.w.heap.size = gb at *
 have ct := bwc2 kt
 have cr := bwc5 k_r
 have fr := bwf5 k_r
 have cd := bwc9 kd
 have c_a := bwc5 ka
 have cb := bwc5 kb
 refine bws fun p4 => ?_
 go_wp2
 have kr := bkp5 (k_r.below p4.h) (.int .i64 0) (.int .i64 0) (.int .i64 0) (.int .i64 0) (.bool false)
 have rc := rwc5 kr
 exact bodyPost_ret (v := .agg #[.int .i64 0, .int .i64 0, .int .i64 0, .int .i64 0, .bool false]) (by simp [results, results70, go_sem, rc]) rfl ⟨rfl, blp5 (z00 B4 p4) (by omega)⟩
theorem walk16_n5 (b : Option Addr) (bb off n cap m capo i : Nat) (n1 n2 n3 n4 n5 n6 fi co ri th s1 s2 s3 s4 u1 u2 u3 u4 dep lea : Int) (w : World) (hi : i < n) (hbb : bb < w.heap.size) (x0 : w.cell? ⟨bb, off + i * 9, none⟩ = some (.int .i64 n1)) (x1 : w.cell? ⟨bb, off + i * 9 + 1, none⟩ = some (.int .i64 n2)) (x2 : w.cell? ⟨bb, off + i * 9 + 2, none⟩ = some (.int .i64 n3)) (x3 : w.cell? ⟨bb, off + i * 9 + 3, none⟩ = some (.int .i64 n4)) (x4 : w.cell? ⟨bb, off + i * 9 + 4, none⟩ = some (.int .i64 n5)) (x5 : w.cell? ⟨bb, off + i * 9 + 5, none⟩ = some (.int .i64 n6)) (x6 : w.cell? ⟨bb, off + i * 9 + 6, none⟩ = some (.int .i64 fi)) (x7 : w.cell? ⟨bb, off + i * 9 + 7, none⟩ = some (.int .i64 co)) (x8 : w.cell? ⟨bb, off + i * 9 + 8, none⟩ = some (.int .i64 ri)) (hc : co = 0) (hf : fi = 0) (K1 : Hid (∀ X, Below w.heap.size w X → Rt prog 70 #[.agg #[.slice (some ⟨bb, off, none⟩) n cap, .slice b m capo], .int .i64 ((i : Int) + 1), th] X (.agg #[s1, s2, s3, s4, .bool true]))) (hr : ri = s1) (K2 : Hid (∀ X, Below w.heap.size w X → Rt prog 70 #[.agg #[.slice (some ⟨bb, off, none⟩) n cap, .slice b m capo], .int .i64 (s1), s2] X (.agg #[u1, u2, u3, u4, .bool true]))) (hv : wrap64 (1 + max s3 u3) = dep ∧ wrap64 (s4 + u4) = lea) (hn : n ≤ 1048576) :
  Rt prog 70 #[.agg #[.slice (some ⟨bb, off, none⟩) n cap, .slice b m capo], .int .i64 (i : Int), th] w (.agg #[u1, u2, dep, lea, .bool true]) := by
 subst hc
 subst hf
 subst hr
 have HV := zh hv
 clear hv
 have t1 : decide (n ≤ i) = false := zf (by omega)
 go_enter func70, ntmps70
 go_upto_region 1 with (fail)
 refine wst2 fun W1 kt k_r B1 => ?_
 have lr : w.heap.size < w.heap.size + 1 := by omega
 generalize w.heap.size + 1 = gr at *
 have ct := bwc2 kt
 have cr := bwc5 k_r
 have ce0 := bwB B1 x0 hbb
 have ce1 := bwB B1 x1 hbb
 have ce2 := bwB B1 x2 hbb
 have ce3 := bwB B1 x3 hbb
 have ce4 := bwB B1 x4 hbb
 have ce5 := bwB B1 x5 hbb
 have ce6 : ∀ p : BW W1, p.w.cell? ⟨bb, off + i * 9 + 6, none⟩ = some (.int .i64 0) := bwB B1 x6 hbb
 have ce7 : ∀ p : BW W1, p.w.cell? ⟨bb, off + i * 9 + 7, none⟩ = some (.int .i64 0) := bwB B1 x7 hbb
 have ce8 := bwB B1 x8 hbb
 refine bws fun p1 => ?_
 go_upto_region 4 with (fail)
 refine wnm fun W2 hW2 => ?_
 have B2 := bwA p1 hW2 B1
 have ld : gr < p1.w.heap.size := (k_r.below p1.h).lt
 have od : w.heap.size ≤ p1.w.heap.size := (z00 B1 p1).size
 have kt := bka hW2 (kt.below p1.h)
 have k_r := bka hW2 (k_r.below p1.h)
 have kd := bkn hW2
 clear hW2
 clear B1
 clear ct cr ce0 ce1 ce2 ce3 ce4 ce5 ce6 ce7 ce8
 generalize p1.w.heap.size = gd at *
 have ct := bwc2 kt
 have cr := bwc5 k_r
 have fr := bwf5 k_r
 have cd := bwc9 kd
 refine bws fun p2 => ?_
 go_upto_region 12 with (go_at_call 70; (with_reducible refine (K1.out _ (z00 B2 _)).mono ?_); rintro e w1 ⟨rfl, hb⟩; obtain ⟨q, rfl⟩ := z04 hb)
 refine wnm fun W3 hW3 => ?_
 have B3 := bwA q hW3 B2
 have la : gd < q.w.heap.size := (kd.below q.h).lt
 have oa : w.heap.size ≤ q.w.heap.size := (z00 B2 q).size
 have kt := bka hW3 (kt.below q.h)
 have k_r := bka hW3 (k_r.below q.h)
 have kd := bka hW3 (kd.below q.h)
 have ka := bkn hW3
 clear hW3
 clear B2
 clear ct cr fr cd
 generalize q.w.heap.size = ga at *
 have ct := bwc2 kt
 have cr := bwc5 k_r
 have fr := bwf5 k_r
 have cd := bwc9 kd
 have c_a := bwc5 ka
 refine bws fun p3 => ?_
 go_upto_region 15 with (go_at_call 70; (with_reducible refine (K2.out _ (z00 B3 _)).mono ?_); rintro e w1 ⟨rfl, hb⟩; obtain ⟨q, rfl⟩ := z04 hb)
 refine wnm fun W4 hW4 => ?_
 have B4 := bwA q hW4 B3
 have lb : ga < q.w.heap.size := (ka.below q.h).lt
 have ob : w.heap.size ≤ q.w.heap.size := (z00 B3 q).size
 have kt := bka hW4 (kt.below q.h)
 have k_r := bka hW4 (k_r.below q.h)
 have kd := bka hW4 (kd.below q.h)
 have ka := bka hW4 (ka.below q.h)
 have kb := bkn hW4
 clear hW4
 clear B3
 clear ct cr fr cd c_a
 generalize q.w.heap.size = gb at *
 have ct := bwc2 kt
 have cr := bwc5 k_r
 have fr := bwf5 k_r
 have cd := bwc9 kd
 have c_a := bwc5 ka
 have cb := bwc5 kb
 refine bws fun p4 => ?_
 obtain ⟨v1, v2⟩ := HV.out
 go_wp2
 have kr := bkp5 (k_r.below p4.h) (.int .i64 u1) (.int .i64 u2) (.int .i64 dep) (.int .i64 lea) (.bool true)
 have rc := rwc5 kr
 exact bodyPost_ret (v := .agg #[u1, u2, dep, lea, .bool true]) (by simp [results, results70, go_sem, rc]) rfl ⟨rfl, blp5 (z00 B4 p4) (by omega)⟩
theorem ref16_walk (ns : List Nd) (tv : Value) (b : Option Addr) (m capo : Nat) (hm : m ≤ 1048576) (hn : ns.length ≤ 1048576) : ∀ (f i : Nat) (th : Int) (w : World), ns.length < i + f → Nodes w tv ns → 0 ≤ th → th ≤ m →
  Rt prog 70 #[.agg #[tv, .slice b m capo], .int .i64 (i : Int), th] w (pv (mWalk ns m f i th))
 | 0, i, th, w, hf, hN, h0, h1 => by
  obtain ⟨a, cap, rfl, hmx, h⟩ := hN
  exact walk16_out a b _ cap m capo i th w (by omega)
 | f + 1, i, th, w, hf, hN, h0, h1 => by
  by_cases hi : i < ns.length
  · have IH : ∀ (j : Nat) (z t : Int) (X : World), (j : Int) = z → ns.length < j + f → Below w.heap.size w X → 0 ≤ t → t ≤ m → Rt prog 70 #[.agg #[tv, .slice b m capo], z, t] X (pv (mWalk ns m f j t)) := by
     rintro j z t X rfl hj hX h0 h1
     exact ref16_walk ns tv b m capo hm hn f j t X hj (hN.below hX (Nat.le_refl _)) h0 h1
    obtain ⟨a, cap, rfl, hmx, h⟩ := hN
    rcases h with h | ⟨bb, off, rfl, hbb, hc⟩
    · omega
    · have x0 : w.cell? ⟨bb, off + i * 9, none⟩ = some (.int .i64 ns[i].1.1.1) := hc i hi 0 (by omega)
      have x1 : w.cell? ⟨bb, off + i * 9 + 1, none⟩ = some (.int .i64 ns[i].1.1.2.1) := hc i hi 1 (by omega)
      have x2 : w.cell? ⟨bb, off + i * 9 + 2, none⟩ = some (.int .i64 ns[i].1.1.2.2) := hc i hi 2 (by omega)
      have x3 : w.cell? ⟨bb, off + i * 9 + 3, none⟩ = some (.int .i64 ns[i].1.2.1) := hc i hi 3 (by omega)
      have x4 : w.cell? ⟨bb, off + i * 9 + 4, none⟩ = some (.int .i64 ns[i].1.2.2.1) := hc i hi 4 (by omega)
      have x5 : w.cell? ⟨bb, off + i * 9 + 5, none⟩ = some (.int .i64 ns[i].1.2.2.2) := hc i hi 5 (by omega)
      have x6 : w.cell? ⟨bb, off + i * 9 + 6, none⟩ = some (.int .i64 ns[i].2.1) := hc i hi 6 (by omega)
      have x7 : w.cell? ⟨bb, off + i * 9 + 7, none⟩ = some (.int .i64 ns[i].2.2.1) := hc i hi 7 (by omega)
      have x8 : w.cell? ⟨bb, off + i * 9 + 8, none⟩ = some (.int .i64 ns[i].2.2.2) := hc i hi 8 (by omega)
      clear hc
      by_cases hco : ns[i].2.2.1 = 0
      · by_cases hfi : ns[i].2.1 = 0
        · have ea := mWalk_in (ns := ns) (m := m) f (i + 1) th
          have K1 := fun X hX => IH (i + 1) ((i : Int) + 1) th X (by omega) (by omega) hX h0 h1
          rw [mWalk_node hi hco hfi rfl]
          generalize mWalk ns m f (i + 1) th = pa at *
          by_cases ha : pa.2.2.2.2 = false
          · rw [if_pos (.inl ha)]
            have e : pv pa = .agg #[pa.1, pa.2.1, pa.2.2.1, pa.2.2.2.1, .bool false] := by unfold pv; rw [ha]
            rw [e] at K1
            exact walk16_n2 b bb off _ cap m capo i _ _ _ _ _ _ _ _ _ th _ _ _ _ w hi hbb x0 x1 x2 x3 x4 x5 x6 x7 x8 hco hfi (zh K1) hn
          · have ha : pa.2.2.2.2 = true := by simpa using ha
            have e : pv pa = .agg #[pa.1, pa.2.1, pa.2.2.1, pa.2.2.2.1, .bool true] := by unfold pv; rw [ha]
            rw [e] at K1
            have ea := ea ha
            by_cases hr : ns[i].2.2.2 = pa.1
            · rw [if_neg (by rw [ha]; simpa using hr)]
              have eb := mWalk_in (ns := ns) (m := m) f pa.1.toNat pa.2.1
              have K2 := fun X hX => IH pa.1.toNat pa.1 pa.2.1 X (by omega) (by omega) hX (by omega) (by omega)
              generalize mWalk ns m f pa.1.toNat pa.2.1 = pb at *
              by_cases hb : pb.2.2.2.2 = false
              · rw [if_pos hb]
                have e : pv pb = .agg #[pb.1, pb.2.1, pb.2.2.1, pb.2.2.2.1, .bool false] := by unfold pv; rw [hb]
                rw [e] at K2
                exact walk16_n4 b bb off _ cap m capo i _ _ _ _ _ _ _ _ _ th _ _ _ _ _ _ _ _ w hi hbb x0 x1 x2 x3 x4 x5 x6 x7 x8 hco hfi (zh K1) hr (zh K2) hn
              · have hb : pb.2.2.2.2 = true := by simpa using hb
                rw [if_neg (by rw [hb]; simp)]
                have e : pv pb = .agg #[pb.1, pb.2.1, pb.2.2.1, pb.2.2.2.1, .bool true] := by unfold pv; rw [hb]
                rw [e] at K2
                have eb := eb hb
                exact walk16_n5 b bb off _ cap m capo i _ _ _ _ _ _ _ _ _ th _ _ _ _ _ _ _ _ _ _ w hi hbb x0 x1 x2 x3 x4 x5 x6 x7 x8 hco hfi (zh K1) hr (zh K2) ⟨IntWalk.wrap64_in _ (by omega), IntWalk.wrap64_in _ (by omega)⟩ hn
            · rw [if_pos (.inr hr)]
              exact walk16_n3 b bb off _ cap m capo i _ _ _ _ _ _ _ _ _ th _ _ _ _ w hi hbb x0 x1 x2 x3 x4 x5 x6 x7 x8 hco hfi (zh K1) hr hn
        · rw [mWalk_first hi hco hfi]
          exact walk16_n1 b bb off _ cap m capo i _ _ _ _ _ _ _ _ _ th w hi hbb x0 x1 x2 x3 x4 x5 x6 x7 x8 hco hfi hn
      · rw [mWalk_leaf hi hco]
        by_cases g1 : 0 < ns[i].2.2.1
        · by_cases g2 : ns[i].2.1 = th
          · by_cases g3 : ns[i].2.2.2 = 0
            · by_cases g4 : ns[i].2.2.1 ≤ (m : Int) - th
              · rw [if_pos ⟨g1, g2, g3, g4⟩]
                exact walk16_w5 b bb off _ cap m capo i _ _ _ _ _ _ _ _ _ th w hi hbb x0 x1 x2 x3 x4 x5 x6 x7 x8 hco g1 g2 g3 g4 hm hn ⟨h0, h1⟩
              · rw [if_neg (fun h => g4 h.2.2.2)]
                exact walk16_w4 b bb off _ cap m capo i _ _ _ _ _ _ _ _ _ th w hi hbb x0 x1 x2 x3 x4 x5 x6 x7 x8 hco g1 g2 g3 g4 hm hn ⟨h0, h1⟩
            · rw [if_neg (fun h => g3 h.2.2.1)]
              exact walk16_w3 b bb off _ cap m capo i _ _ _ _ _ _ _ _ _ th w hi hbb x0 x1 x2 x3 x4 x5 x6 x7 x8 hco g1 g2 g3 hm hn ⟨h0, h1⟩
          · rw [if_neg (fun h => g2 h.2.1)]
            exact walk16_w2 b bb off _ cap m capo i _ _ _ _ _ _ _ _ _ th w hi hbb x0 x1 x2 x3 x4 x5 x6 x7 x8 hco g1 g2 hm hn ⟨h0, h1⟩
        · rw [if_neg (fun h => g1 h.1)]
          exact walk16_w1 b bb off _ cap m capo i _ _ _ _ _ _ _ _ _ th w hi hbb x0 x1 x2 x3 x4 x5 x6 x7 x8 hco g1 hm hn ⟨h0, h1⟩
  · rw [mWalk_out hi]
    obtain ⟨a, cap, rfl, hmx, h⟩ := hN
    exact walk16_out a b _ cap m capo i th w (by omega)
end
end Go.Proofs.YtbmpmjdlaahekaaGreat
