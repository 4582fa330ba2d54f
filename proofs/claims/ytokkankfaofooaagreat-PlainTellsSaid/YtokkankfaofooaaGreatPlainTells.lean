/- The walk of the statement PlainTells. -/
import Derived.Test.YtokkankfaofooaaGreatPlain14
import Derived.Test.YtokkankfaofooaaGreatRefb14
import Derived.Test.YtokkankfaofooaaGreatAwake14
import Derived.Test.YtokkankfaofooaaGreatMem14
import Derived.Test.YtokkankfaofooaaGreatRow
import Derived.Deep.DeepCutAuto
import Derived.Deep.RegionHeld3
namespace Go.Proofs.YtokkankfaofooaaGreat
open Go.RowKit Go.Proofs.Sky
set_option linter.unusedVariables false

theorem below_drew {n : Nat} {w X : World} (h : Below n w X) : Below n w X.drew := h.trans ⟨rfl, rfl, rfl, Nat.le_refl _, fun _ _ => rfl⟩

set_option maxRecDepth 100000 in
set_option maxHeartbeats 8000000 in
theorem tells_core (a : Option Addr) (n cap : Nat) (a2 : Option Addr) (m2 cap2 : Nat) (o1 o2 o3 d1 d2 d3 fr m e x1 x2 x3 y1 y2 y3 f1 f2 f3 g1 g2 g3 : Int) (fk gk yn bt : Bool) (L : List H3) (w : World) (hn : n ≤ 12) (hm : m2 ≤ 12) (hL : L.length ≤ maxLen) (KC : Hid (∀ X, Below w.heap.size w X → Calls Tryz.prog 5 #[.slice a n cap, .agg #[.int .i64 o1, .int .i64 o2, .int .i64 o3, .int .i64 d1, .int .i64 d2, .int .i64 d3, .int .i64 fr]] X fun e w' => e = .returned (.tuple #[.agg #[.int .i64 f1, .int .i64 f2, .int .i64 f3], .bool fk]) ∧ Below X.heap.size X w')) (KRC : Hid (∀ X, Below w.heap.size w X → Calls Tryz.prog 6 #[.slice a n cap, .agg #[.int .i64 o1, .int .i64 o2, .int .i64 o3, .int .i64 d1, .int .i64 d2, .int .i64 d3, .int .i64 fr]] X fun e w' => e = .returned (.tuple #[.agg #[.int .i64 f1, .int .i64 f2, .int .i64 f3], .bool fk]) ∧ Below X.heap.size X w')) (KM : Hid (∀ X, Below w.heap.size w X → Calls Tryz.prog 7 #[.slice a n cap, .slice a2 m2 cap2, .agg #[.int .i64 o1, .int .i64 o2, .int .i64 o3, .int .i64 d1, .int .i64 d2, .int .i64 d3, .int .i64 fr]] X fun e w' => e = .returned (.tuple #[.agg #[.int .i64 g1, .int .i64 g2, .int .i64 g3], .bool gk]) ∧ Below X.heap.size X w')) (KRM : Hid (∀ X, Below w.heap.size w X → Calls Tryz.prog 8 #[.slice a n cap, .slice a2 m2 cap2, .agg #[.int .i64 o1, .int .i64 o2, .int .i64 o3, .int .i64 d1, .int .i64 d2, .int .i64 d3, .int .i64 fr]] X fun e w' => e = .returned (.tuple #[.agg #[.int .i64 g1, .int .i64 g2, .int .i64 g3], .bool gk]) ∧ Below X.heap.size X w')) (KN : Hid (∀ X, Below w.heap.size w X → Calls Tryz.prog 9 #[.slice a n cap, .agg #[.int .i64 o1, .int .i64 o2, .int .i64 o3, .int .i64 d1, .int .i64 d2, .int .i64 d3, .int .i64 fr], .agg #[.int .i64 m, .int .i64 e]] X fun e w' => e = .returned (.bool yn) ∧ Below X.heap.size X w')) (KRN : Hid (∀ X, Below w.heap.size w X → Calls Tryz.prog 10 #[.slice a n cap, .agg #[.int .i64 o1, .int .i64 o2, .int .i64 o3, .int .i64 d1, .int .i64 d2, .int .i64 d3, .int .i64 fr], .agg #[.int .i64 m, .int .i64 e]] X fun e w' => e = .returned (.bool yn) ∧ Below X.heap.size X w')) (KB : Hid (∀ X, Below w.heap.size w X → Calls Tryz.prog 11 #[.agg #[.int .i64 x1, .int .i64 x2, .int .i64 x3], .agg #[.int .i64 y1, .int .i64 y2, .int .i64 y3]] X fun e w' => e = .returned (.bool bt) ∧ Below X.heap.size X w')) (KRB : Hid (∀ X, Below w.heap.size w X → Calls Tryz.prog 12 #[.agg #[.int .i64 x1, .int .i64 x2, .int .i64 x3], .agg #[.int .i64 y1, .int .i64 y2, .int .i64 y3]] X fun e w' => e = .returned (.bool bt) ∧ Below X.heap.size X w')) (KL : Hid (∀ X, Below w.heap.size w X → Calls Tryz.prog 14 #[.slice a n cap, .agg #[.int .i64 o1, .int .i64 o2, .int .i64 o3, .int .i64 d1, .int .i64 d2, .int .i64 d3, .int .i64 fr]] X fun e w' => ∃ u, e = .returned u ∧ w'.ownsRow X.heap.size 31 3 u L.length (L.flatMap hcells) ∧ Below X.heap.size X w')) (KRL : Hid (∀ X, Below w.heap.size w X → Calls Tryz.prog 15 #[.slice a n cap, .agg #[.int .i64 o1, .int .i64 o2, .int .i64 o3, .int .i64 d1, .int .i64 d2, .int .i64 d3, .int .i64 fr]] X fun e w' => ∃ u, e = .returned u ∧ w'.ownsRow X.heap.size 31 3 u L.length (L.flatMap hcells) ∧ Below X.heap.size X w')) (KS : Hid (∀ u v X, Hits X u L → Hits X v L → Calls Tryz.prog 13 #[u, v] X fun e w' => e = .returned (.bool true) ∧ Below X.heap.size X w')) (KW : Hid (∀ X, Calls Tryz.prog 4 #[] X fun e w' => e = .returned (.bool true) ∧ Below X.heap.size X w')) :
    Calls Tryz.prog 3 #[.slice a n cap, .slice a2 m2 cap2, .agg #[.int .i64 o1, .int .i64 o2, .int .i64 o3, .int .i64 d1, .int .i64 d2, .int .i64 d3, .int .i64 fr], .agg #[.int .i64 m, .int .i64 e], .agg #[.int .i64 x1, .int .i64 x2, .int .i64 x3], .agg #[.int .i64 y1, .int .i64 y2, .int .i64 y3]] w fun e w' => e = .returned (.bool true) ∧ Below w.heap.size w w' := by
  have t1 : decide ((12 : Int) < n) = false := decide_eq_false (by omega)
  have t2 : decide ((12 : Int) < m2) = false := decide_eq_false (by omega)
  clear hn hm
  have HLM := Lib.hid hL
  clear hL
  go_enter Tryz.func3, Tryz.ntmps3
  go_upto_region 1 with (fail)
  obtain ⟨W1, hW1⟩ : ∃ W, W = (((w.alloc (.cells #[.int .i64 o1, .int .i64 o2, .int .i64 o3, .int .i64 d1, .int .i64 d2, .int .i64 d3, .int .i64 fr] 27)).alloc (.cells #[.int .i64 m, .int .i64 e] 29)).alloc (.cells #[.int .i64 x1, .int .i64 x2, .int .i64 x3] 31)).alloc (.cells #[.int .i64 y1, .int .i64 y2, .int .i64 y3] 31) := ⟨_, rfl⟩
  obtain ⟨k_y, k_m, k_a, k_b, B1⟩ := st4 hW1
  rw [← hW1]
  clear hW1
  have l_m : w.heap.size < w.heap.size + 1 := by omega
  have l_a : w.heap.size + 1 < w.heap.size + 1 + 1 := by omega
  have l_b : w.heap.size + 1 + 1 < w.heap.size + 1 + 1 + 1 := by omega
  generalize w.heap.size + 1 + 1 + 1 = g_b at *
  generalize w.heap.size + 1 + 1 = g_a at *
  generalize w.heap.size + 1 = g_m at *
  obtain ⟨c_y_0, c_y_1, c_y_2, c_y_3, c_y_4, c_y_5, c_y_6⟩ := bwc7 (k_y)
  obtain ⟨c_m_0, c_m_1⟩ := bwc2 (k_m)
  obtain ⟨c_a_0, c_a_1, c_a_2⟩ := bwc3 (k_a)
  obtain ⟨c_b_0, c_b_1, c_b_2⟩ := bwc3 (k_b)
  obtain ⟨p1, hp1⟩ : ∃ p : BW W1, p.w = W1 := ⟨BW.start W1, rfl⟩
  rw [← hp1]
  clear hp1
  go_upto_region 4 with (go_at_call 5; (first | (with_reducible refine (KC.out _ (bw_below B1 _)).mono ?_) | (with_reducible refine (KC.out _ (below_drew (bw_below B1 _))).mono ?_)); rintro e w1 ⟨rfl, hb⟩; (first | obtain ⟨q, rfl⟩ := bw_take_drew hb | obtain ⟨q, rfl⟩ := bw_take hb))
  obtain ⟨W2, hW2⟩ : ∃ W, W = q.w.alloc (.cells #[.int .i64 f1, .int .i64 f2, .int .i64 f3] 31) := ⟨_, rfl⟩
  have B2 : Below w.heap.size w W2 := by rw [hW2]; exact (bw_below B1 q).alloc (bw_below B1 q).size _
  have l_h : g_b < q.w.heap.size := (k_b.below q.h).lt
  have o_h : w.heap.size ≤ q.w.heap.size := (bw_below B1 q).size
  have k_y := bka hW2 (k_y.below q.h)
  have k_m := bka hW2 (k_m.below q.h)
  have k_a := bka hW2 (k_a.below q.h)
  have k_b := bka hW2 (k_b.below q.h)
  have k_h := bkn hW2
  rw [← hW2]
  clear hW2
  clear B1
  clear c_y_0 c_y_1 c_y_2 c_y_3 c_y_4 c_y_5 c_y_6 c_m_0 c_m_1 c_a_0 c_a_1 c_a_2 c_b_0 c_b_1 c_b_2
  generalize q.w.heap.size = g_h at *
  obtain ⟨c_y_0, c_y_1, c_y_2, c_y_3, c_y_4, c_y_5, c_y_6⟩ := bwc7 (k_y)
  obtain ⟨c_m_0, c_m_1⟩ := bwc2 (k_m)
  obtain ⟨c_a_0, c_a_1, c_a_2⟩ := bwc3 (k_a)
  obtain ⟨c_b_0, c_b_1, c_b_2⟩ := bwc3 (k_b)
  obtain ⟨c_h_0, c_h_1, c_h_2⟩ := bwc3 (k_h)
  obtain ⟨p2, hp2⟩ : ∃ p : BW W2, p.w = W2 := ⟨BW.start W2, rfl⟩
  rw [← hp2]
  clear hp2
  go_upto_region 5 with (go_at_call 6; (first | (with_reducible refine (KRC.out _ (bw_below B2 _)).mono ?_) | (with_reducible refine (KRC.out _ (below_drew (bw_below B2 _))).mono ?_)); rintro e w1 ⟨rfl, hb⟩; (first | obtain ⟨q, rfl⟩ := bw_take_drew hb | obtain ⟨q, rfl⟩ := bw_take hb))
  obtain ⟨W3, hW3⟩ : ∃ W, W = q.w.alloc (.cells #[.int .i64 f1, .int .i64 f2, .int .i64 f3] 31) := ⟨_, rfl⟩
  have B3 : Below w.heap.size w W3 := by rw [hW3]; exact (bw_below B2 q).alloc (bw_below B2 q).size _
  have l_i : g_h < q.w.heap.size := (k_h.below q.h).lt
  have o_i : w.heap.size ≤ q.w.heap.size := (bw_below B2 q).size
  have k_y := bka hW3 (k_y.below q.h)
  have k_m := bka hW3 (k_m.below q.h)
  have k_a := bka hW3 (k_a.below q.h)
  have k_b := bka hW3 (k_b.below q.h)
  have k_h := bka hW3 (k_h.below q.h)
  have k_i := bkn hW3
  rw [← hW3]
  clear hW3
  clear B2
  clear c_y_0 c_y_1 c_y_2 c_y_3 c_y_4 c_y_5 c_y_6 c_m_0 c_m_1 c_a_0 c_a_1 c_a_2 c_b_0 c_b_1 c_b_2 c_h_0 c_h_1 c_h_2
  generalize q.w.heap.size = g_i at *
  obtain ⟨c_y_0, c_y_1, c_y_2, c_y_3, c_y_4, c_y_5, c_y_6⟩ := bwc7 (k_y)
  obtain ⟨c_m_0, c_m_1⟩ := bwc2 (k_m)
  obtain ⟨c_a_0, c_a_1, c_a_2⟩ := bwc3 (k_a)
  obtain ⟨c_b_0, c_b_1, c_b_2⟩ := bwc3 (k_b)
  obtain ⟨c_h_0, c_h_1, c_h_2⟩ := bwc3 (k_h)
  obtain ⟨c_i_0, c_i_1, c_i_2⟩ := bwc3 (k_i)
  obtain ⟨p3, hp3⟩ : ∃ p : BW W3, p.w = W3 := ⟨BW.start W3, rfl⟩
  rw [← hp3]
  clear hp3
  go_upto_region 6 with (go_at_call 7; (first | (with_reducible refine (KM.out _ (bw_below B3 _)).mono ?_) | (with_reducible refine (KM.out _ (below_drew (bw_below B3 _))).mono ?_)); rintro e w1 ⟨rfl, hb⟩; (first | obtain ⟨q, rfl⟩ := bw_take_drew hb | obtain ⟨q, rfl⟩ := bw_take hb))
  obtain ⟨W4, hW4⟩ : ∃ W, W = q.w.alloc (.cells #[.int .i64 g1, .int .i64 g2, .int .i64 g3] 31) := ⟨_, rfl⟩
  have B4 : Below w.heap.size w W4 := by rw [hW4]; exact (bw_below B3 q).alloc (bw_below B3 q).size _
  have l_j : g_i < q.w.heap.size := (k_i.below q.h).lt
  have o_j : w.heap.size ≤ q.w.heap.size := (bw_below B3 q).size
  have k_y := bka hW4 (k_y.below q.h)
  have k_m := bka hW4 (k_m.below q.h)
  have k_a := bka hW4 (k_a.below q.h)
  have k_b := bka hW4 (k_b.below q.h)
  have k_h := bka hW4 (k_h.below q.h)
  have k_i := bka hW4 (k_i.below q.h)
  have k_j := bkn hW4
  rw [← hW4]
  clear hW4
  clear B3
  clear c_y_0 c_y_1 c_y_2 c_y_3 c_y_4 c_y_5 c_y_6 c_m_0 c_m_1 c_a_0 c_a_1 c_a_2 c_b_0 c_b_1 c_b_2 c_h_0 c_h_1 c_h_2 c_i_0 c_i_1 c_i_2
  generalize q.w.heap.size = g_j at *
  obtain ⟨c_y_0, c_y_1, c_y_2, c_y_3, c_y_4, c_y_5, c_y_6⟩ := bwc7 (k_y)
  obtain ⟨c_m_0, c_m_1⟩ := bwc2 (k_m)
  obtain ⟨c_a_0, c_a_1, c_a_2⟩ := bwc3 (k_a)
  obtain ⟨c_b_0, c_b_1, c_b_2⟩ := bwc3 (k_b)
  obtain ⟨c_h_0, c_h_1, c_h_2⟩ := bwc3 (k_h)
  obtain ⟨c_i_0, c_i_1, c_i_2⟩ := bwc3 (k_i)
  obtain ⟨c_j_0, c_j_1, c_j_2⟩ := bwc3 (k_j)
  obtain ⟨p4, hp4⟩ : ∃ p : BW W4, p.w = W4 := ⟨BW.start W4, rfl⟩
  rw [← hp4]
  clear hp4
  go_upto_region 7 with (go_at_call 8; (first | (with_reducible refine (KRM.out _ (bw_below B4 _)).mono ?_) | (with_reducible refine (KRM.out _ (below_drew (bw_below B4 _))).mono ?_)); rintro e w1 ⟨rfl, hb⟩; (first | obtain ⟨q, rfl⟩ := bw_take_drew hb | obtain ⟨q, rfl⟩ := bw_take hb))
  obtain ⟨W5, hW5⟩ : ∃ W, W = q.w.alloc (.cells #[.int .i64 g1, .int .i64 g2, .int .i64 g3] 31) := ⟨_, rfl⟩
  have B5 : Below w.heap.size w W5 := by rw [hW5]; exact (bw_below B4 q).alloc (bw_below B4 q).size _
  have l_k : g_j < q.w.heap.size := (k_j.below q.h).lt
  have o_k : w.heap.size ≤ q.w.heap.size := (bw_below B4 q).size
  have k_y := bka hW5 (k_y.below q.h)
  have k_m := bka hW5 (k_m.below q.h)
  have k_a := bka hW5 (k_a.below q.h)
  have k_b := bka hW5 (k_b.below q.h)
  have k_h := bka hW5 (k_h.below q.h)
  have k_i := bka hW5 (k_i.below q.h)
  have k_j := bka hW5 (k_j.below q.h)
  have k_k := bkn hW5
  rw [← hW5]
  clear hW5
  clear B4
  clear c_y_0 c_y_1 c_y_2 c_y_3 c_y_4 c_y_5 c_y_6 c_m_0 c_m_1 c_a_0 c_a_1 c_a_2 c_b_0 c_b_1 c_b_2 c_h_0 c_h_1 c_h_2 c_i_0 c_i_1 c_i_2 c_j_0 c_j_1 c_j_2
  generalize q.w.heap.size = g_k at *
  obtain ⟨c_y_0, c_y_1, c_y_2, c_y_3, c_y_4, c_y_5, c_y_6⟩ := bwc7 (k_y)
  obtain ⟨c_m_0, c_m_1⟩ := bwc2 (k_m)
  obtain ⟨c_a_0, c_a_1, c_a_2⟩ := bwc3 (k_a)
  obtain ⟨c_b_0, c_b_1, c_b_2⟩ := bwc3 (k_b)
  obtain ⟨c_h_0, c_h_1, c_h_2⟩ := bwc3 (k_h)
  obtain ⟨c_i_0, c_i_1, c_i_2⟩ := bwc3 (k_i)
  obtain ⟨c_j_0, c_j_1, c_j_2⟩ := bwc3 (k_j)
  obtain ⟨c_k_0, c_k_1, c_k_2⟩ := bwc3 (k_k)
  obtain ⟨p5, hp5⟩ : ∃ p : BW W5, p.w = W5 := ⟨BW.start W5, rfl⟩
  rw [← hp5]
  clear hp5
  go_upto_region 7 with (fail)
  go_region_held3 (fun w' => w'.cell? ⟨w.heap.size, 0, none⟩ = some (.int .i64 o1) ∧ w'.cell? ⟨w.heap.size, 1, none⟩ = some (.int .i64 o2) ∧ w'.cell? ⟨w.heap.size, 2, none⟩ = some (.int .i64 o3) ∧ w'.cell? ⟨w.heap.size, 3, none⟩ = some (.int .i64 d1) ∧ w'.cell? ⟨w.heap.size, 4, none⟩ = some (.int .i64 d2) ∧ w'.cell? ⟨w.heap.size, 5, none⟩ = some (.int .i64 d3) ∧ w'.cell? ⟨w.heap.size, 6, none⟩ = some (.int .i64 fr) ∧ w'.cell? ⟨g_m, 0, none⟩ = some (.int .i64 m) ∧ w'.cell? ⟨g_m, 1, none⟩ = some (.int .i64 e) ∧ w'.cell? ⟨g_a, 0, none⟩ = some (.int .i64 x1) ∧ w'.cell? ⟨g_a, 1, none⟩ = some (.int .i64 x2) ∧ w'.cell? ⟨g_a, 2, none⟩ = some (.int .i64 x3) ∧ w'.cell? ⟨g_b, 0, none⟩ = some (.int .i64 y1) ∧ w'.cell? ⟨g_b, 1, none⟩ = some (.int .i64 y2) ∧ w'.cell? ⟨g_b, 2, none⟩ = some (.int .i64 y3) ∧ w'.cell? ⟨g_h, 0, none⟩ = some (.int .i64 f1) ∧ w'.cell? ⟨g_h, 1, none⟩ = some (.int .i64 f2) ∧ w'.cell? ⟨g_h, 2, none⟩ = some (.int .i64 f3) ∧ w'.cell? ⟨g_i, 0, none⟩ = some (.int .i64 f1) ∧ w'.cell? ⟨g_i, 1, none⟩ = some (.int .i64 f2) ∧ w'.cell? ⟨g_i, 2, none⟩ = some (.int .i64 f3) ∧ w'.cell? ⟨g_j, 0, none⟩ = some (.int .i64 g1) ∧ w'.cell? ⟨g_j, 1, none⟩ = some (.int .i64 g2) ∧ w'.cell? ⟨g_j, 2, none⟩ = some (.int .i64 g3) ∧ w'.cell? ⟨g_k, 0, none⟩ = some (.int .i64 g1) ∧ w'.cell? ⟨g_k, 1, none⟩ = some (.int .i64 g2) ∧ w'.cell? ⟨g_k, 2, none⟩ = some (.int .i64 g3)) (first | with_reducible exact ⟨c_y_0 _, c_y_1 _, c_y_2 _, c_y_3 _, c_y_4 _, c_y_5 _, c_y_6 _, c_m_0 _, c_m_1 _, c_a_0 _, c_a_1 _, c_a_2 _, c_b_0 _, c_b_1 _, c_b_2 _, c_h_0 _, c_h_1 _, c_h_2 _, c_i_0 _, c_i_1 _, c_i_2 _, c_j_0 _, c_j_1 _, c_j_2 _, c_k_0 _, c_k_1 _, c_k_2 _⟩ | fail "KEEP") (first
    | (go_at_call 9; (first | (with_reducible refine (KN.out _ (bw_below B5 _)).mono ?_) | (with_reducible refine (KN.out _ (below_drew (bw_below B5 _))).mono ?_)); rintro e w1 ⟨rfl, hb⟩; (first | obtain ⟨q, rfl⟩ := bw_take_drew hb | obtain ⟨q, rfl⟩ := bw_take hb))
    | (go_at_call 10; (first | (with_reducible refine (KRN.out _ (bw_below B5 _)).mono ?_) | (with_reducible refine (KRN.out _ (below_drew (bw_below B5 _))).mono ?_)); rintro e w1 ⟨rfl, hb⟩; (first | obtain ⟨q, rfl⟩ := bw_take_drew hb | obtain ⟨q, rfl⟩ := bw_take hb))
    | (go_at_call 11; (first | (with_reducible refine (KB.out _ (bw_below B5 _)).mono ?_) | (with_reducible refine (KB.out _ (below_drew (bw_below B5 _))).mono ?_)); rintro e w1 ⟨rfl, hb⟩; (first | obtain ⟨q, rfl⟩ := bw_take_drew hb | obtain ⟨q, rfl⟩ := bw_take hb))
    | (go_at_call 12; (first | (with_reducible refine (KRB.out _ (bw_below B5 _)).mono ?_) | (with_reducible refine (KRB.out _ (below_drew (bw_below B5 _))).mono ?_)); rintro e w1 ⟨rfl, hb⟩; (first | obtain ⟨q, rfl⟩ := bw_take_drew hb | obtain ⟨q, rfl⟩ := bw_take hb))
    | (go_at_call 14; (with_reducible refine (KL.out _ (bw_below B5 _)).mono ?_); rintro e w1 ⟨u1, rfl, hu1, hb⟩; obtain ⟨q, rfl⟩ := bw_take hb)
    | (go_at_call 15; (with_reducible refine (KRL.out _ (bw_below B5 _)).mono ?_); rintro e w1 ⟨u2, rfl, hu2, hb⟩; have hu1 := owns_below hu1 hb; obtain ⟨q, rfl⟩ := bw_take hb)
    | (go_at_call 13; (with_reducible refine (KS.out _ _ _ (owns_hits HLM.out hu1) (owns_hits HLM.out hu2)).mono ?_); rintro e w1 ⟨rfl, hb⟩; obtain ⟨q, rfl⟩ := bw_take hb)
    | (go_at_call 4; (with_reducible refine (KW.out _).mono ?_); rintro e w1 ⟨rfl, hb⟩; obtain ⟨q, rfl⟩ := bw_take hb)
    | fail)
  go_wp2
  go_ret
  exact ⟨rfl, bw_below B5 _⟩

set_option maxRecDepth 100000 in
set_option maxHeartbeats 8000000 in
theorem tells_no1 (a : Option Addr) (n cap : Nat) (a2 : Option Addr) (m2 cap2 : Nat) (o1 o2 o3 d1 d2 d3 fr m e x1 x2 x3 y1 y2 y3 : Int) (w : World) (hn : 12 < n) :
    Calls Tryz.prog 3 #[.slice a n cap, .slice a2 m2 cap2, .agg #[.int .i64 o1, .int .i64 o2, .int .i64 o3, .int .i64 d1, .int .i64 d2, .int .i64 d3, .int .i64 fr], .agg #[.int .i64 m, .int .i64 e], .agg #[.int .i64 x1, .int .i64 x2, .int .i64 x3], .agg #[.int .i64 y1, .int .i64 y2, .int .i64 y3]] w fun e w' => e = .returned (.bool true) ∧ Below w.heap.size w w' := by
  have KW := Lib.hid (fun w => awake14 w)
  have t1 : decide ((12 : Int) < n) = true := decide_eq_true (by omega)
  clear hn
  go_enter Tryz.func3, Tryz.ntmps3
  go_upto_region 1 with (fail)
  obtain ⟨W1, hW1⟩ : ∃ W, W = (((w.alloc (.cells #[.int .i64 o1, .int .i64 o2, .int .i64 o3, .int .i64 d1, .int .i64 d2, .int .i64 d3, .int .i64 fr] 27)).alloc (.cells #[.int .i64 m, .int .i64 e] 29)).alloc (.cells #[.int .i64 x1, .int .i64 x2, .int .i64 x3] 31)).alloc (.cells #[.int .i64 y1, .int .i64 y2, .int .i64 y3] 31) := ⟨_, rfl⟩
  obtain ⟨k_y, k_m, k_a, k_b, B1⟩ := st4 hW1
  rw [← hW1]
  clear hW1
  have l_m : w.heap.size < w.heap.size + 1 := by omega
  have l_a : w.heap.size + 1 < w.heap.size + 1 + 1 := by omega
  have l_b : w.heap.size + 1 + 1 < w.heap.size + 1 + 1 + 1 := by omega
  generalize w.heap.size + 1 + 1 + 1 = g_b at *
  generalize w.heap.size + 1 + 1 = g_a at *
  generalize w.heap.size + 1 = g_m at *
  obtain ⟨c_y_0, c_y_1, c_y_2, c_y_3, c_y_4, c_y_5, c_y_6⟩ := bwc7 (k_y)
  obtain ⟨c_m_0, c_m_1⟩ := bwc2 (k_m)
  obtain ⟨c_a_0, c_a_1, c_a_2⟩ := bwc3 (k_a)
  obtain ⟨c_b_0, c_b_1, c_b_2⟩ := bwc3 (k_b)
  obtain ⟨p1, hp1⟩ : ∃ p : BW W1, p.w = W1 := ⟨BW.start W1, rfl⟩
  rw [← hp1]
  clear hp1
  go_wp2_with (go_at_call 4; refine (KW.out _).mono ?_; rintro e w1 ⟨rfl, hb⟩; obtain ⟨q, rfl⟩ := bw_take hb)
  go_ret
  exact ⟨rfl, bw_below B1 _⟩

set_option maxRecDepth 100000 in
set_option maxHeartbeats 8000000 in
theorem tells_no2 (a : Option Addr) (n cap : Nat) (a2 : Option Addr) (m2 cap2 : Nat) (o1 o2 o3 d1 d2 d3 fr m e x1 x2 x3 y1 y2 y3 : Int) (w : World) (hn : n ≤ 12) (hm : 12 < m2) :
    Calls Tryz.prog 3 #[.slice a n cap, .slice a2 m2 cap2, .agg #[.int .i64 o1, .int .i64 o2, .int .i64 o3, .int .i64 d1, .int .i64 d2, .int .i64 d3, .int .i64 fr], .agg #[.int .i64 m, .int .i64 e], .agg #[.int .i64 x1, .int .i64 x2, .int .i64 x3], .agg #[.int .i64 y1, .int .i64 y2, .int .i64 y3]] w fun e w' => e = .returned (.bool true) ∧ Below w.heap.size w w' := by
  have KW := Lib.hid (fun w => awake14 w)
  have t1 : decide ((12 : Int) < n) = false := decide_eq_false (by omega)
  have t2 : decide ((12 : Int) < m2) = true := decide_eq_true (by omega)
  clear hn hm
  go_enter Tryz.func3, Tryz.ntmps3
  go_upto_region 1 with (fail)
  obtain ⟨W1, hW1⟩ : ∃ W, W = (((w.alloc (.cells #[.int .i64 o1, .int .i64 o2, .int .i64 o3, .int .i64 d1, .int .i64 d2, .int .i64 d3, .int .i64 fr] 27)).alloc (.cells #[.int .i64 m, .int .i64 e] 29)).alloc (.cells #[.int .i64 x1, .int .i64 x2, .int .i64 x3] 31)).alloc (.cells #[.int .i64 y1, .int .i64 y2, .int .i64 y3] 31) := ⟨_, rfl⟩
  obtain ⟨k_y, k_m, k_a, k_b, B1⟩ := st4 hW1
  rw [← hW1]
  clear hW1
  have l_m : w.heap.size < w.heap.size + 1 := by omega
  have l_a : w.heap.size + 1 < w.heap.size + 1 + 1 := by omega
  have l_b : w.heap.size + 1 + 1 < w.heap.size + 1 + 1 + 1 := by omega
  generalize w.heap.size + 1 + 1 + 1 = g_b at *
  generalize w.heap.size + 1 + 1 = g_a at *
  generalize w.heap.size + 1 = g_m at *
  obtain ⟨c_y_0, c_y_1, c_y_2, c_y_3, c_y_4, c_y_5, c_y_6⟩ := bwc7 (k_y)
  obtain ⟨c_m_0, c_m_1⟩ := bwc2 (k_m)
  obtain ⟨c_a_0, c_a_1, c_a_2⟩ := bwc3 (k_a)
  obtain ⟨c_b_0, c_b_1, c_b_2⟩ := bwc3 (k_b)
  obtain ⟨p1, hp1⟩ : ∃ p : BW W1, p.w = W1 := ⟨BW.start W1, rfl⟩
  rw [← hp1]
  clear hp1
  go_wp2_with (go_at_call 4; refine (KW.out _).mono ?_; rintro e w1 ⟨rfl, hb⟩; obtain ⟨q, rfl⟩ := bw_take hb)
  go_ret
  exact ⟨rfl, bw_below B1 _⟩

theorem law_PlainTells (a : Option Addr) (n cap : Nat) (P : Nat → Pr) (a2 : Option Addr) (m2 cap2 : Nat) (Z : Nat → Int) (o1 o2 o3 d1 d2 d3 fr m e x1 x2 x3 y1 y2 y3 : Int) (w : World) (hs : Prims w (.slice a n cap) n P) (hz : IntSlice w a2 m2 Z)
    (ho : I3 (o1, o2, o3)) (hd : I3 (d1, d2, d3)) (hf : I64 fr) (hm : I64 m) (he : I64 e) (hx : I64 x2 ∧ I64 x3) (hy : I64 y2 ∧ I64 y3) :
    Calls Tryz.prog 3 #[.slice a n cap, .slice a2 m2 cap2, .agg #[.int .i64 o1, .int .i64 o2, .int .i64 o3, .int .i64 d1, .int .i64 d2, .int .i64 d3, .int .i64 fr], .agg #[.int .i64 m, .int .i64 e], .agg #[.int .i64 x1, .int .i64 x2, .int .i64 x3], .agg #[.int .i64 y1, .int .i64 y2, .int .i64 y3]] w fun e w' => e = .returned (.bool true) ∧ Below w.heap.size w w' := by
  by_cases h1 : 12 < n
  · exact tells_no1 a n cap a2 m2 cap2 o1 o2 o3 d1 d2 d3 fr m e x1 x2 x3 y1 y2 y3 w h1
  by_cases h2 : 12 < m2
  · exact tells_no2 a n cap a2 m2 cap2 o1 o2 o3 d1 d2 d3 fr m e x1 x2 x3 y1 y2 y3 w (by omega) h2
  have hl : ∀ {X}, Below w.heap.size w X → Prims X (.slice a n cap) n P := fun hX => hs.below hX (Nat.le_refl _)
  have hlen : (hUp P n (o1, o2, o3) (d1, d2, d3) fr).length ≤ n := hUp_len _ _ _ _ _
  exact tells_core a n cap a2 m2 cap2 o1 o2 o3 d1 d2 d3 fr m e x1 x2 x3 y1 y2 y3 _ _ _ _ _ _ (hClosest P n (o1, o2, o3) (d1, d2, d3) fr).2 (hAmong P n Z m2 (o1, o2, o3) (d1, d2, d3) fr).2 (hAny P n (o1, o2, o3) (d1, d2, d3) fr m e) (hb (x1, x2, x3) (y1, y2, y3)) (hUp P n (o1, o2, o3) (d1, d2, d3) fr) w (by omega) (by omega) (by unfold maxLen; omega)
    (Lib.hid (fun X hX => plain_Closest a n cap P o1 o2 o3 d1 d2 d3 fr X (hl hX) ho hd hf (by omega)))
    (Lib.hid (fun X hX => ref14_Closest a n cap P o1 o2 o3 d1 d2 d3 fr X (hl hX) ho hd hf (by omega)))
    (Lib.hid (fun X hX => plain_Among a n cap P o1 o2 o3 d1 d2 d3 fr X (hl hX) ho hd hf (by omega) a2 m2 cap2 Z (intslice_down hz hX) (by omega)))
    (Lib.hid (fun X hX => ref14_Among a n cap P o1 o2 o3 d1 d2 d3 fr X (hl hX) ho hd hf a2 m2 cap2 Z (intslice_down hz hX) (by omega) (by omega)))
    (Lib.hid (fun X hX => plain_Any a n cap P o1 o2 o3 d1 d2 d3 fr X (hl hX) ho hd hf (by omega) m e hm he))
    (Lib.hid (fun X hX => ref14_Any a n cap P o1 o2 o3 d1 d2 d3 fr X (hl hX) ho hd hf m e hm he (by omega)))
    (Lib.hid (fun X hX => plain_Better x1 x2 x3 y1 y2 y3 X hx.1 hx.2 hy.1 hy.2))
    (Lib.hid (fun X hX => ref14_Better x1 x2 x3 y1 y2 y3 X hx.1 hx.2 hy.1 hy.2))
    (Lib.hid (fun X hX => plain_All a n cap P o1 o2 o3 d1 d2 d3 fr X (hl hX) ho hd hf (by omega)))
    (Lib.hid (fun X hX => ref14_All (.slice a n cap) n P o1 o2 o3 d1 d2 d3 fr X (hl hX) ho hd hf (by omega)))
    (Lib.hid (fun u v X hu hv => law14_same u v _ X hu hv (by omega)))
    (Lib.hid (fun X => awake14 X))

end Go.Proofs.YtokkankfaofooaaGreat
