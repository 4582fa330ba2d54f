/- The walk of the statement BinsTell. -/
import Derived.Test.YtfdolgdfadipeaaBins15
import Derived.Test.YtfdolgdfadipeaaRefc15
import Derived.Test.YtfdolgdfadipeaaAwake15
import Derived.Deep.DeepCutAuto
import Derived.Deep.RegionHeld3
namespace Go.Proofs.Ytfdolgdfadipeaa
open Go.RowKit Go.Proofs.Sky
set_option linter.unusedVariables false
set_option linter.unusedSimpArgs false

theorem below_drew15 {n : Nat} {w X : World} (h : Below n w X) : Below n w X.drew := h.trans ⟨rfl, rfl, rfl, Nat.le_refl _, fun _ _ => rfl⟩

set_option maxRecDepth 100000 in
set_option maxHeartbeats 8000000 in
theorem tell_core (a : Option Addr) (n cap : Nat) (V : Nat → Bx) (ax at_ lo hi a1 a2 a3 a4 a5 a6 c f1 f2 f3 f4 z : Int) (p fk b : Bool) (l1 l2 : List Nat) (w : World) (hn : n ≤ 16) (h1 : l1.length ≤ 1024) (h2 : l2.length ≤ 1024) (hk1 : ∀ k ∈ l1, k ≤ 1048576) (hk2 : ∀ k ∈ l2, k ≤ 1048576) (KO : Hid (∀ X, Below w.heap.size w X → Calls Try.prog 7 #[.slice a n cap] X fun e w' => ∃ u cp, e = .returned (.slice u n cp) ∧ Boxes w' (.slice u n cp) n V ∧ Below X.heap.size X w')) (KC : Hid (∀ u cp X, Boxes X (.slice u n cp) n V → Calls Try.prog 6 #[.agg #[.int .i64 ax, .int .i64 at_, .int .i64 lo, .int .i64 hi], .slice u n cp] X fun e w' => e = .returned (.tuple #[.int .i64 c, .bool p]) ∧ Below X.heap.size X w')) (KRC : Hid (∀ X, Below w.heap.size w X → Calls Try.prog 8 #[.agg #[.int .i64 ax, .int .i64 at_, .int .i64 lo, .int .i64 hi], .slice a n cap] X fun e w' => e = .returned (.tuple #[.int .i64 c, .bool p]) ∧ Below X.heap.size X w')) (KB : Hid (∀ u cp X, Boxes X (.slice u n cp) n V → Calls Try.prog 9 #[.slice u n cp] X fun e w' => e = .returned (.tuple #[.agg #[.int .i64 f1, .int .i64 f2, .int .i64 f3, .int .i64 f4], .bool fk]) ∧ Below X.heap.size X w')) (KRB : Hid (∀ X, Below w.heap.size w X → Calls Try.prog 10 #[.slice a n cap] X fun e w' => e = .returned (.tuple #[.agg #[.int .i64 f1, .int .i64 f2, .int .i64 f3, .int .i64 f4], .bool fk]) ∧ Below X.heap.size X w')) (KS : Hid (∀ u cp X, Boxes X (.slice u n cp) n V → Calls Try.prog 11 #[.agg #[.int .i64 ax, .int .i64 at_, .int .i64 lo, .int .i64 hi], .slice u n cp] X fun e w' => ∃ x y, e = .returned (.tuple #[x, y]) ∧ Ints w' X.heap.size x l1 ∧ Ints w' X.heap.size y l2 ∧ Below X.heap.size X w')) (KRS : Hid (∀ X, Below w.heap.size w X → Calls Try.prog 12 #[.agg #[.int .i64 ax, .int .i64 at_, .int .i64 lo, .int .i64 hi], .slice a n cap] X fun e w' => ∃ x y, e = .returned (.tuple #[x, y]) ∧ Ints w' X.heap.size x l1 ∧ Ints w' X.heap.size y l2 ∧ Below X.heap.size X w')) (KN : Hid (∀ w, Calls Try.prog 13 #[.agg #[.int .i64 a1, .int .i64 a2, .int .i64 a3, .int .i64 a4, .int .i64 a5, .int .i64 a6], .int .i64 ax, .int .i64 lo, .int .i64 hi] w fun en w' => en = .returned (.int .i64 z) ∧ Below w.heap.size w w')) (KRN : Hid (∀ w, Calls Try.prog 14 #[.agg #[.int .i64 a1, .int .i64 a2, .int .i64 a3, .int .i64 a4, .int .i64 a5, .int .i64 a6], .int .i64 ax, .int .i64 lo, .int .i64 hi] w fun en w' => en = .returned (.int .i64 z) ∧ Below w.heap.size w w')) (KL : Hid (∀ w, Calls Try.prog 15 #[.agg #[.int .i64 ax, .int .i64 at_, .int .i64 lo, .int .i64 hi], .agg #[.int .i64 a1, .int .i64 a2, .int .i64 a3, .int .i64 a4, .int .i64 a5, .int .i64 a6]] w fun en w' => en = .returned (.bool b) ∧ Below w.heap.size w w')) (KRL : Hid (∀ w, Calls Try.prog 16 #[.agg #[.int .i64 ax, .int .i64 at_, .int .i64 lo, .int .i64 hi], .agg #[.int .i64 a1, .int .i64 a2, .int .i64 a3, .int .i64 a4, .int .i64 a5, .int .i64 a6]] w fun en w' => en = .returned (.bool b) ∧ Below w.heap.size w w')) (KM : Hid (∀ w, Calls Try.prog 17 #[.agg #[.int .i64 f1, .int .i64 f2, .int .i64 f3, .int .i64 f4], .agg #[.int .i64 f1, .int .i64 f2, .int .i64 f3, .int .i64 f4]] w fun en w' => en = .returned (.bool true) ∧ Below w.heap.size w w')) (KW : Hid (∀ w, Calls Try.prog 5 #[] w fun en w' => en = .returned (.bool true) ∧ Below w.heap.size w w')) :
    Calls Try.prog 3 #[.slice a n cap, .agg #[.int .i64 ax, .int .i64 at_, .int .i64 lo, .int .i64 hi], .agg #[.int .i64 a1, .int .i64 a2, .int .i64 a3, .int .i64 a4, .int .i64 a5, .int .i64 a6]] w fun e w' => e = .returned (.bool true) ∧ Below w.heap.size w w' := by
  have t1 : decide ((16 : Int) < n) = false := decide_eq_false (by omega)
  have H1 := Lib.hid h1
  have H2 := Lib.hid h2
  have HK1 := Lib.hid hk1
  have HK2 := Lib.hid hk2
  clear hn h1 h2 hk1 hk2
  go_enter Try.func3, Try.ntmps3
  go_upto_region 1 with (fail)
  obtain ⟨W1, hW1⟩ : ∃ W, W = (w.alloc (.cells #[.int .i64 ax, .int .i64 at_, .int .i64 lo, .int .i64 hi] 24)).alloc (.cells #[.int .i64 a1, .int .i64 a2, .int .i64 a3, .int .i64 a4, .int .i64 a5, .int .i64 a6] 28) := ⟨_, rfl⟩
  obtain ⟨k_s, k_o, B1⟩ := st2 hW1
  rw [← hW1]
  clear hW1
  have l_o : w.heap.size < w.heap.size + 1 := by omega
  generalize w.heap.size + 1 = g_o at *
  obtain ⟨c_s_0, c_s_1, c_s_2, c_s_3⟩ := bwc4 (k_s)
  obtain ⟨c_o_0, c_o_1, c_o_2, c_o_3, c_o_4, c_o_5⟩ := bwc6 (k_o)
  obtain ⟨p1, hp1⟩ : ∃ p : BW W1, p.w = W1 := ⟨BW.start W1, rfl⟩
  rw [← hp1]
  clear hp1
  go_upto_region 4 with (fail)
  obtain ⟨W2, hW2⟩ : ∃ W, W = p1.w.alloc (.cells #[.int .i64 ax, .int .i64 at_, .int .i64 lo, .int .i64 hi] 30) := ⟨_, rfl⟩
  have B2 : Below w.heap.size w W2 := by rw [hW2]; exact (bw_below B1 p1).alloc (bw_below B1 p1).size _
  have l_t : g_o < p1.w.heap.size := (k_o.below p1.h).lt
  have o_t : w.heap.size ≤ p1.w.heap.size := (bw_below B1 p1).size
  have k_s := bka hW2 (k_s.below p1.h)
  have k_o := bka hW2 (k_o.below p1.h)
  have k_t := bkn hW2
  rw [← hW2]
  clear hW2
  clear B1
  clear c_s_0 c_s_1 c_s_2 c_s_3 c_o_0 c_o_1 c_o_2 c_o_3 c_o_4 c_o_5
  generalize p1.w.heap.size = g_t at *
  obtain ⟨c_s_0, c_s_1, c_s_2, c_s_3⟩ := bwc4 (k_s)
  obtain ⟨c_o_0, c_o_1, c_o_2, c_o_3, c_o_4, c_o_5⟩ := bwc6 (k_o)
  obtain ⟨c_t_0, c_t_1, c_t_2, c_t_3⟩ := bwc4 (k_t)
  obtain ⟨p2, hp2⟩ : ∃ p : BW W2, p.w = W2 := ⟨BW.start W2, rfl⟩
  rw [← hp2]
  clear hp2
  go_upto_region 5 with (fail)
  obtain ⟨W3, hW3⟩ : ∃ W, W = p2.w.alloc (.cells #[.int .i64 a1, .int .i64 a2, .int .i64 a3, .int .i64 a4, .int .i64 a5, .int .i64 a6] 31) := ⟨_, rfl⟩
  have B3 : Below w.heap.size w W3 := by rw [hW3]; exact (bw_below B2 p2).alloc (bw_below B2 p2).size _
  have l_b : g_t < p2.w.heap.size := (k_t.below p2.h).lt
  have o_b : w.heap.size ≤ p2.w.heap.size := (bw_below B2 p2).size
  have k_s := bka hW3 (k_s.below p2.h)
  have k_o := bka hW3 (k_o.below p2.h)
  have k_t := bka hW3 (k_t.below p2.h)
  have k_b := bkn hW3
  rw [← hW3]
  clear hW3
  clear B2
  clear c_s_0 c_s_1 c_s_2 c_s_3 c_o_0 c_o_1 c_o_2 c_o_3 c_o_4 c_o_5 c_t_0 c_t_1 c_t_2 c_t_3
  generalize p2.w.heap.size = g_b at *
  obtain ⟨c_s_0, c_s_1, c_s_2, c_s_3⟩ := bwc4 (k_s)
  obtain ⟨c_o_0, c_o_1, c_o_2, c_o_3, c_o_4, c_o_5⟩ := bwc6 (k_o)
  obtain ⟨c_t_0, c_t_1, c_t_2, c_t_3⟩ := bwc4 (k_t)
  obtain ⟨c_b_0, c_b_1, c_b_2, c_b_3, c_b_4, c_b_5⟩ := bwc6 (k_b)
  obtain ⟨p3, hp3⟩ : ∃ p : BW W3, p.w = W3 := ⟨BW.start W3, rfl⟩
  rw [← hp3]
  clear hp3
  go_region_held3 (fun w' => w'.cell? ⟨g_t, 0, none⟩ = some (.int .i64 ax) ∧ w'.cell? ⟨g_t, 1, none⟩ = some (.int .i64 at_) ∧ w'.cell? ⟨g_t, 2, none⟩ = some (.int .i64 lo) ∧ w'.cell? ⟨g_t, 3, none⟩ = some (.int .i64 hi)) (first | with_reducible exact ⟨c_t_0 _, c_t_1 _, c_t_2 _, c_t_3 _⟩ | fail "KEEP") (first
    | (go_at_call 7; (first | (refine (KO.out _ (bw_below B3 _)).mono ?_) | (refine (KO.out _ (below_drew15 (bw_below B3 _))).mono ?_)); rintro e w1 ⟨u, cp, rfl, hbx, hb⟩; (first | obtain ⟨q, rfl⟩ := bw_take_drew hb | obtain ⟨q, rfl⟩ := bw_take hb))
    | (go_at_call 6; (first | (refine (KC.out _ _ _ hbx).mono ?_) | (refine (KC.out _ _ (World.drew _) hbx).mono ?_)); rintro e w1 ⟨rfl, hb⟩; (first | obtain ⟨q, rfl⟩ := bw_take_drew hb | obtain ⟨q, rfl⟩ := bw_take hb)))
  go_upto_region 7 with (go_at_call 8; (with_reducible refine (KRC.out _ (bw_below B3 _)).mono ?_); rintro e w1 ⟨rfl, hb⟩; obtain ⟨q, rfl⟩ := bw_take hb)
  go_upto_region 8 with (first
    | (go_at_call 7; (first | (refine (KO.out _ (bw_below B3 _)).mono ?_) | (refine (KO.out _ (below_drew15 (bw_below B3 _))).mono ?_)); rintro e w1 ⟨u, cp, rfl, hbx, hb⟩; (first | obtain ⟨q, rfl⟩ := bw_take_drew hb | obtain ⟨q, rfl⟩ := bw_take hb))
    | (go_at_call 9; (first | (refine (KB.out _ _ _ hbx).mono ?_) | (refine (KB.out _ _ (World.drew _) hbx).mono ?_)); rintro e w1 ⟨rfl, hb⟩; (first | obtain ⟨q, rfl⟩ := bw_take_drew hb | obtain ⟨q, rfl⟩ := bw_take hb)))
  obtain ⟨W4, hW4⟩ : ∃ W, W = q.w.alloc (.cells #[.int .i64 f1, .int .i64 f2, .int .i64 f3, .int .i64 f4] 30) := ⟨_, rfl⟩
  have B4 : Below w.heap.size w W4 := by rw [hW4]; exact (bw_below B3 q).alloc (bw_below B3 q).size _
  have l_x : g_b < q.w.heap.size := (k_b.below q.h).lt
  have o_x : w.heap.size ≤ q.w.heap.size := (bw_below B3 q).size
  have k_s := bka hW4 (k_s.below q.h)
  have k_o := bka hW4 (k_o.below q.h)
  have k_t := bka hW4 (k_t.below q.h)
  have k_b := bka hW4 (k_b.below q.h)
  have k_x := bkn hW4
  rw [← hW4]
  clear hW4
  clear B3
  clear c_s_0 c_s_1 c_s_2 c_s_3 c_o_0 c_o_1 c_o_2 c_o_3 c_o_4 c_o_5 c_t_0 c_t_1 c_t_2 c_t_3 c_b_0 c_b_1 c_b_2 c_b_3 c_b_4 c_b_5
  generalize q.w.heap.size = g_x at *
  obtain ⟨c_s_0, c_s_1, c_s_2, c_s_3⟩ := bwc4 (k_s)
  obtain ⟨c_o_0, c_o_1, c_o_2, c_o_3, c_o_4, c_o_5⟩ := bwc6 (k_o)
  obtain ⟨c_t_0, c_t_1, c_t_2, c_t_3⟩ := bwc4 (k_t)
  obtain ⟨c_b_0, c_b_1, c_b_2, c_b_3, c_b_4, c_b_5⟩ := bwc6 (k_b)
  obtain ⟨c_x_0, c_x_1, c_x_2, c_x_3⟩ := bwc4 (k_x)
  obtain ⟨p4, hp4⟩ : ∃ p : BW W4, p.w = W4 := ⟨BW.start W4, rfl⟩
  rw [← hp4]
  clear hp4
  go_upto_region 9 with (go_at_call 10; (with_reducible refine (KRB.out _ (bw_below B4 _)).mono ?_); rintro e w1 ⟨rfl, hb⟩; obtain ⟨q, rfl⟩ := bw_take hb)
  obtain ⟨W5, hW5⟩ : ∃ W, W = q.w.alloc (.cells #[.int .i64 f1, .int .i64 f2, .int .i64 f3, .int .i64 f4] 24) := ⟨_, rfl⟩
  have B5 : Below w.heap.size w W5 := by rw [hW5]; exact (bw_below B4 q).alloc (bw_below B4 q).size _
  have l_y : g_x < q.w.heap.size := (k_x.below q.h).lt
  have o_y : w.heap.size ≤ q.w.heap.size := (bw_below B4 q).size
  have k_s := bka hW5 (k_s.below q.h)
  have k_o := bka hW5 (k_o.below q.h)
  have k_t := bka hW5 (k_t.below q.h)
  have k_b := bka hW5 (k_b.below q.h)
  have k_x := bka hW5 (k_x.below q.h)
  have k_y := bkn hW5
  rw [← hW5]
  clear hW5
  clear B4
  clear c_s_0 c_s_1 c_s_2 c_s_3 c_o_0 c_o_1 c_o_2 c_o_3 c_o_4 c_o_5 c_t_0 c_t_1 c_t_2 c_t_3 c_b_0 c_b_1 c_b_2 c_b_3 c_b_4 c_b_5 c_x_0 c_x_1 c_x_2 c_x_3
  generalize q.w.heap.size = g_y at *
  obtain ⟨c_s_0, c_s_1, c_s_2, c_s_3⟩ := bwc4 (k_s)
  obtain ⟨c_o_0, c_o_1, c_o_2, c_o_3, c_o_4, c_o_5⟩ := bwc6 (k_o)
  obtain ⟨c_t_0, c_t_1, c_t_2, c_t_3⟩ := bwc4 (k_t)
  obtain ⟨c_b_0, c_b_1, c_b_2, c_b_3, c_b_4, c_b_5⟩ := bwc6 (k_b)
  obtain ⟨c_x_0, c_x_1, c_x_2, c_x_3⟩ := bwc4 (k_x)
  obtain ⟨c_y_0, c_y_1, c_y_2, c_y_3⟩ := bwc4 (k_y)
  obtain ⟨p5, hp5⟩ : ∃ p : BW W5, p.w = W5 := ⟨BW.start W5, rfl⟩
  rw [← hp5]
  clear hp5
  go_region_held3 (fun w' => w'.cell? ⟨g_t, 0, none⟩ = some (.int .i64 ax) ∧ w'.cell? ⟨g_t, 1, none⟩ = some (.int .i64 at_) ∧ w'.cell? ⟨g_t, 2, none⟩ = some (.int .i64 lo) ∧ w'.cell? ⟨g_t, 3, none⟩ = some (.int .i64 hi)) (first | with_reducible exact ⟨c_t_0 _, c_t_1 _, c_t_2 _, c_t_3 _⟩ | fail "KEEP") (first
    | (go_at_call 7; (first | (refine (KO.out _ (bw_below B5 _)).mono ?_) | (refine (KO.out _ (below_drew15 (bw_below B5 _))).mono ?_)); rintro e w1 ⟨u, cp, rfl, hbx, hb⟩; (first | obtain ⟨q, rfl⟩ := bw_take_drew hb | obtain ⟨q, rfl⟩ := bw_take hb))
    | (go_at_call 11; (first | (refine (KS.out _ _ _ hbx).mono ?_) | (refine (KS.out _ _ (World.drew _) hbx).mono ?_)); rintro e w1 ⟨x1, y1, rfl, hx1, hy1, hb⟩; (first | obtain ⟨q, rfl⟩ := bw_take_drew hb | obtain ⟨q, rfl⟩ := bw_take hb)))
  go_upto_region 11 with (go_at_call 12; (with_reducible refine (KRS.out _ (bw_below B5 _)).mono ?_); rintro e w1 ⟨x2, y2, rfl, hx2, hy2, hb⟩; have hx1 := hx1.below hb; have hy1 := hy1.below hb; obtain ⟨q, rfl⟩ := bw_take hb)
  obtain ⟨o1, e1, rfl, gx1⟩ := Ints.slice hx1 HK1.out
  obtain ⟨o2, e2, rfl, gx2⟩ := Ints.slice hx2 HK1.out
  obtain ⟨o3, e3, rfl, gy1⟩ := Ints.slice hy1 HK2.out
  obtain ⟨o4, e4, rfl, gy2⟩ := Ints.slice hy2 HK2.out
  have KI1 : Hid (∀ r : BW q.w, Calls Try.prog 18 #[.slice o1 l1.length e1, .slice o2 l1.length e2] r.w fun e w' => e = .returned (.bool true) ∧ ∃ r : BW q.w, w' = r.w) := Lib.hid (bw_callp (fun r => law15_ints o1 o2 e1 e2 l1.length _ r.w (intslice_down15 gx1 r.h) (intslice_down15 gx2 r.h) H1.out))
  have KI2 : Hid (∀ r : BW q.w, Calls Try.prog 18 #[.slice o3 l2.length e3, .slice o4 l2.length e4] r.w fun e w' => e = .returned (.bool true) ∧ ∃ r : BW q.w, w' = r.w) := Lib.hid (bw_callp (fun r => law15_ints o3 o4 e3 e4 l2.length _ r.w (intslice_down15 gy1 r.h) (intslice_down15 gy2 r.h) H2.out))
  obtain ⟨Wq, hWq⟩ : ∃ W, W = q.w := ⟨_, rfl⟩
  have BQ := bw_below B5 q
  have k_s := k_s.below q.h
  rw [← hWq] at k_s
  have k_o := k_o.below q.h
  rw [← hWq] at k_o
  have k_t := k_t.below q.h
  rw [← hWq] at k_t
  have k_b := k_b.below q.h
  rw [← hWq] at k_b
  have k_x := k_x.below q.h
  rw [← hWq] at k_x
  have k_y := k_y.below q.h
  rw [← hWq] at k_y
  rw [← hWq] at KI1 KI2 BQ ⊢
  clear hx1 hx2 hy1 hy2 gx1 gx2 gy1 gy2
  clear hWq B5
  clear c_s_0 c_s_1 c_s_2 c_s_3 c_o_0 c_o_1 c_o_2 c_o_3 c_o_4 c_o_5 c_t_0 c_t_1 c_t_2 c_t_3 c_b_0 c_b_1 c_b_2 c_b_3 c_b_4 c_b_5 c_x_0 c_x_1 c_x_2 c_x_3 c_y_0 c_y_1 c_y_2 c_y_3
  have B6 := BQ
  obtain ⟨c_s_0, c_s_1, c_s_2, c_s_3⟩ := bwc4 (k_s)
  obtain ⟨c_o_0, c_o_1, c_o_2, c_o_3, c_o_4, c_o_5⟩ := bwc6 (k_o)
  obtain ⟨c_t_0, c_t_1, c_t_2, c_t_3⟩ := bwc4 (k_t)
  obtain ⟨c_b_0, c_b_1, c_b_2, c_b_3, c_b_4, c_b_5⟩ := bwc6 (k_b)
  obtain ⟨c_x_0, c_x_1, c_x_2, c_x_3⟩ := bwc4 (k_x)
  obtain ⟨c_y_0, c_y_1, c_y_2, c_y_3⟩ := bwc4 (k_y)
  obtain ⟨p6, hp6⟩ : ∃ p : BW Wq, p.w = Wq := ⟨BW.start Wq, rfl⟩
  rw [← hp6]
  clear hp6
  refine wp_region_bw (by kernel_rfl) (by kernel_rfl) ?_
  repeat (go_big_quiet_step (first
    | (go_at_call 13; (first | (with_reducible exact bw_call KN.out _)))
    | (go_at_call 14; (first | (with_reducible exact bw_call KRN.out _)))
    | (go_at_call 15; (first | (with_reducible exact bw_call KL.out _)))
    | (go_at_call 16; (first | (with_reducible exact bw_call KRL.out _)))
    | (go_at_call 17; (first | (with_reducible exact bw_call KM.out _)))
    | (go_at_call 5; (first | (with_reducible exact bw_call KW.out _)))
    | (go_at_call 18; (first | (with_reducible exact KI1.out _) | (with_reducible exact KI2.out _)))))
  refine wpQuiet_nil ?_
  intro _ hw'
  obtain ⟨q5, rfl⟩ := hw'
  go_wp2
  go_ret
  exact ⟨rfl, bw_below B6 _⟩

set_option maxRecDepth 100000 in
set_option maxHeartbeats 4000000 in
theorem tell_no (a : Option Addr) (n cap : Nat) (ax at_ lo hi a1 a2 a3 a4 a5 a6 : Int) (w : World) (hn : 16 < n) :
    Calls Try.prog 3 #[.slice a n cap, .agg #[.int .i64 ax, .int .i64 at_, .int .i64 lo, .int .i64 hi], .agg #[.int .i64 a1, .int .i64 a2, .int .i64 a3, .int .i64 a4, .int .i64 a5, .int .i64 a6]] w fun e w' => e = .returned (.bool true) ∧ Below w.heap.size w w' := by
  have KW := Lib.hid (fun w => awake15 w)
  have t1 : decide ((16 : Int) < n) = true := decide_eq_true (by omega)
  clear hn
  go_enter Try.func3, Try.ntmps3
  go_upto_region 1 with (fail)
  obtain ⟨W1, hW1⟩ : ∃ W, W = (w.alloc (.cells #[.int .i64 ax, .int .i64 at_, .int .i64 lo, .int .i64 hi] 24)).alloc (.cells #[.int .i64 a1, .int .i64 a2, .int .i64 a3, .int .i64 a4, .int .i64 a5, .int .i64 a6] 28) := ⟨_, rfl⟩
  obtain ⟨k_s, k_o, B1⟩ := st2 hW1
  rw [← hW1]
  clear hW1
  have l_o : w.heap.size < w.heap.size + 1 := by omega
  generalize w.heap.size + 1 = g_o at *
  obtain ⟨c_s_0, c_s_1, c_s_2, c_s_3⟩ := bwc4 (k_s)
  obtain ⟨c_o_0, c_o_1, c_o_2, c_o_3, c_o_4, c_o_5⟩ := bwc6 (k_o)
  obtain ⟨p1, hp1⟩ : ∃ p : BW W1, p.w = W1 := ⟨BW.start W1, rfl⟩
  rw [← hp1]
  clear hp1
  go_wp2_with (first
    | (go_at_call 5; (first | (with_reducible refine (bw_call KW.out _).mono ?_)); rintro e w' ⟨rfl, q, rfl⟩))
  go_ret
  exact ⟨rfl, bw_below B1 _⟩

theorem law_BinsTell (a : Option Addr) (n cap : Nat) (V : Nat → Bx) (ax at_ lo hi a1 a2 a3 a4 a5 a6 : Int) (w : World) (hs : Boxes w (.slice a n cap) n V) (hx : I64 ax) (hl : I64 lo) (hh : I64 hi) :
    Calls Try.prog 3 #[.slice a n cap, .agg #[.int .i64 ax, .int .i64 at_, .int .i64 lo, .int .i64 hi], .agg #[.int .i64 a1, .int .i64 a2, .int .i64 a3, .int .i64 a4, .int .i64 a5, .int .i64 a6]] w fun e w' => e = .returned (.bool true) ∧ Below w.heap.size w w' := by
  by_cases h1 : 16 < n
  · exact tell_no a n cap ax at_ lo hi a1 a2 a3 a4 a5 a6 w h1
  have hn : n ≤ 16 := by omega
  have hX : ∀ {X}, Below w.heap.size w X → Boxes X (.slice a n cap) n V := fun h => hs.below h (Nat.le_refl _)
  have l1 : (ix (isL ax lo hi at_) V n).length ≤ n := ix_le _ _ _
  have l2 : (ix (fun b => !isL ax lo hi at_ b) V n).length ≤ n := ix_le _ _ _
  exact tell_core a n cap V ax at_ lo hi a1 a2 a3 a4 a5 a6 (sCost ax lo hi at_ (bls V n)) (bBest V n).1.1 (bBest V n).1.2.1 (bBest V n).1.2.2.1 (bBest V n).1.2.2.2 (bBin ((a1, a2, a3), (a4, a5, a6)) ax lo hi) (sOk ax lo hi at_ (bls V n)) (bBest V n).2 (isL ax lo hi at_ ((a1, a2, a3), (a4, a5, a6)))
    (ix (isL ax lo hi at_) V n) (ix (fun b => !isL ax lo hi at_ b) V n) w hn (by omega) (by omega) (fun k hk => by have := ix_lt hk; omega) (fun k hk => by have := ix_lt hk; omega)
    (Lib.hid (fun X h => law15_of a n cap V X (hX h) (by omega)))
    (Lib.hid (fun u cp X h => bins_Cost u n cp V ax at_ lo hi X h hx hl hh))
    (Lib.hid (fun X h => ref15_Cost a n cap V ax at_ lo hi X (hX h) hx hl hh (by omega)))
    (Lib.hid (fun u cp X h => bins_Best u n cp V X h))
    (Lib.hid (fun X h => ref15_Best a n cap V X (hX h) (by omega)))
    (Lib.hid (fun u cp X h => bins_Sides u n cp V ax at_ lo hi X h hx hl hh (by omega)))
    (Lib.hid (fun X h => ref15_Sides a n cap V ax at_ lo hi X (hX h) hx hl hh (by omega)))
    (Lib.hid (fun X => bins_Bin a1 a2 a3 a4 a5 a6 ax lo hi X hx hl hh)) (Lib.hid (fun X => ref15_Bin a1 a2 a3 a4 a5 a6 ax lo hi X hx hl hh))
    (Lib.hid (fun X => bins_Left ax at_ lo hi a1 a2 a3 a4 a5 a6 X hx hl hh)) (Lib.hid (fun X => ref15_Left ax at_ lo hi a1 a2 a3 a4 a5 a6 X hx hl hh))
    (Lib.hid (fun X => law15_same _ _ _ _ X)) (Lib.hid (fun X => awake15 X))

end Go.Proofs.Ytfdolgdfadipeaa
