/- TreeTells: the walk. -/
import Derived.Test.YtomlcglnkdfemaaTt47
import Derived.Test.YtomlcglnkdfemaaTt37
import Derived.Test.YtomlcglnkdfemaaTt38


namespace Go.Proofs.Ytomlcglnkdfemaa
section

open Go.RowKit Go.Proofs.Sky

set_option linter.unusedVariables false

set_option linter.unusedSimpArgs false

set_option maxRecDepth 100000 in
set_option maxHeartbeats 8000000 in
theorem tells_a (a o lp : Option Addr) (N cn m co n lc : Nat) (w : World) (h1 : 24 < N) :
    Calls Try.prog 3 #[.agg #[.slice a N cn, .slice o m co], .slice lp n lc] w fun en w' => en = .returned (.bool true) ∧ Below w.heap.size w w' := by
  have t1 : decide (24 < (N : Int)) = true := decide_eq_true (by omega)
  clear h1
  have KA := Lib.hid (fun w => awake16 w)
  go_enter Try.func3, Try.ntmps3
  go_upto_region 1 with (fail)
  obtain ⟨W1, hW1⟩ : ∃ W, W = w.alloc (.cells #[.slice a N cn, .slice o m co] 25) := ⟨_, rfl⟩
  obtain ⟨k_t, B1⟩ := st1 hW1
  rw [← hW1]
  clear hW1
  obtain ⟨c_t_0, c_t_1⟩ := bwc2 (k_t)
  obtain ⟨p1, hp1⟩ : ∃ p : BW W1, p.w = W1 := ⟨BW.start W1, rfl⟩
  rw [← hp1]
  clear hp1
  go_wp2_with (go_at_call 5; (with_reducible refine (bw_call KA.out _).mono ?_); rintro e w' ⟨rfl, q, rfl⟩)
  go_ret
  exact ⟨rfl, bw_below B1 _⟩

set_option maxRecDepth 100000 in
set_option maxHeartbeats 8000000 in
theorem tells_b (a o lp : Option Addr) (N cn m co n lc : Nat) (w : World) (h1 : ¬ 24 < N) (h2 : 24 < m) :
    Calls Try.prog 3 #[.agg #[.slice a N cn, .slice o m co], .slice lp n lc] w fun en w' => en = .returned (.bool true) ∧ Below w.heap.size w w' := by
  have t1 : decide (24 < (N : Int)) = false := decide_eq_false (by omega)
  have t2 : decide (24 < (m : Int)) = true := decide_eq_true (by omega)
  clear h1 h2
  have KA := Lib.hid (fun w => awake16 w)
  go_enter Try.func3, Try.ntmps3
  go_upto_region 1 with (fail)
  obtain ⟨W1, hW1⟩ : ∃ W, W = w.alloc (.cells #[.slice a N cn, .slice o m co] 25) := ⟨_, rfl⟩
  obtain ⟨k_t, B1⟩ := st1 hW1
  rw [← hW1]
  clear hW1
  obtain ⟨c_t_0, c_t_1⟩ := bwc2 (k_t)
  obtain ⟨p1, hp1⟩ : ∃ p : BW W1, p.w = W1 := ⟨BW.start W1, rfl⟩
  rw [← hp1]
  clear hp1
  go_wp2_with (go_at_call 5; (with_reducible refine (bw_call KA.out _).mono ?_); rintro e w' ⟨rfl, q, rfl⟩)
  go_ret
  exact ⟨rfl, bw_below B1 _⟩

set_option maxRecDepth 100000 in
set_option maxHeartbeats 8000000 in
theorem tells_c (a o lp : Option Addr) (N cn m co n lc : Nat) (w : World) (h1 : ¬ 24 < N) (h2 : ¬ 24 < m) (h3 : 24 < n) :
    Calls Try.prog 3 #[.agg #[.slice a N cn, .slice o m co], .slice lp n lc] w fun en w' => en = .returned (.bool true) ∧ Below w.heap.size w w' := by
  have t1 : decide (24 < (N : Int)) = false := decide_eq_false (by omega)
  have t2 : decide (24 < (m : Int)) = false := decide_eq_false (by omega)
  have t3 : decide (24 < (n : Int)) = true := decide_eq_true (by omega)
  clear h1 h2 h3
  have KA := Lib.hid (fun w => awake16 w)
  go_enter Try.func3, Try.ntmps3
  go_upto_region 1 with (fail)
  obtain ⟨W1, hW1⟩ : ∃ W, W = w.alloc (.cells #[.slice a N cn, .slice o m co] 25) := ⟨_, rfl⟩
  obtain ⟨k_t, B1⟩ := st1 hW1
  rw [← hW1]
  clear hW1
  obtain ⟨c_t_0, c_t_1⟩ := bwc2 (k_t)
  obtain ⟨p1, hp1⟩ : ∃ p : BW W1, p.w = W1 := ⟨BW.start W1, rfl⟩
  rw [← hp1]
  clear hp1
  go_wp2_with (go_at_call 5; (with_reducible refine (bw_call KA.out _).mono ?_); rintro e w' ⟨rfl, q, rfl⟩)
  go_ret
  exact ⟨rfl, bw_below B1 _⟩

set_option maxRecDepth 100000 in
set_option maxHeartbeats 8000000 in
theorem tells_d (a o lp : Option Addr) (N cn m co n lc : Nat) (z1 z2 : Bool) (d1 d2 : Int) (w : World) (h1 : ¬ 24 < N) (h2 : ¬ 24 < m) (h3 : ¬ 24 < n) (KF : Hid (∀ X, Below w.heap.size w X → Calls Try.prog 6 #[.agg #[.slice a N cn, .slice o m co]] X fun e w1 => ∃ (ax ox : Option Addr) (cx dx : Nat), e = .returned (.agg #[.slice ax N cx, .slice ox m dx]) ∧ Below X.heap.size X w1 ∧ Hid (∀ Y, Below w1.heap.size w1 Y → (Calls Try.prog 7 #[.agg #[.slice ax N cx, .slice ox m dx]] Y fun e w2 => e = .returned (.bool z1) ∧ Below Y.heap.size Y w2) ∧ (Calls Try.prog 8 #[.agg #[.slice a N cn, .slice o m co]] Y fun e w2 => e = .returned (.bool z1) ∧ Below Y.heap.size Y w2) ∧ (Calls Try.prog 9 #[.agg #[.slice ax N cx, .slice ox m dx], .slice lp n lc] Y fun e w2 => e = .returned (.bool z2) ∧ Below Y.heap.size Y w2) ∧ (Calls Try.prog 10 #[.agg #[.slice a N cn, .slice o m co], .slice lp n lc] Y fun e w2 => e = .returned (.bool z2) ∧ Below Y.heap.size Y w2) ∧ (Calls Try.prog 11 #[.agg #[.slice ax N cx, .slice ox m dx]] Y fun e w2 => e = .returned (.int .i64 d1) ∧ Below Y.heap.size Y w2) ∧ (Calls Try.prog 12 #[.agg #[.slice a N cn, .slice o m co]] Y fun e w2 => e = .returned (.int .i64 d1) ∧ Below Y.heap.size Y w2) ∧ (Calls Try.prog 13 #[.agg #[.slice ax N cx, .slice ox m dx]] Y fun e w2 => e = .returned (.int .i64 d2) ∧ Below Y.heap.size Y w2) ∧ (Calls Try.prog 14 #[.agg #[.slice a N cn, .slice o m co]] Y fun e w2 => e = .returned (.int .i64 d2) ∧ Below Y.heap.size Y w2)))) :
    Calls Try.prog 3 #[.agg #[.slice a N cn, .slice o m co], .slice lp n lc] w fun en w' => en = .returned (.bool true) ∧ Below w.heap.size w w' := by
  have t1 : decide (24 < (N : Int)) = false := decide_eq_false (by omega)
  have t2 : decide (24 < (m : Int)) = false := decide_eq_false (by omega)
  have t3 : decide (24 < (n : Int)) = false := decide_eq_false (by omega)
  clear h1 h2 h3
  have KA := Lib.hid (fun w => awake16 w)
  go_enter Try.func3, Try.ntmps3
  go_upto_region 1 with (fail)
  obtain ⟨W1, hW1⟩ : ∃ W, W = w.alloc (.cells #[.slice a N cn, .slice o m co] 25) := ⟨_, rfl⟩
  obtain ⟨k_t, B1⟩ := st1 hW1
  rw [← hW1]
  clear hW1
  obtain ⟨c_t_0, c_t_1⟩ := bwc2 (k_t)
  obtain ⟨p1, hp1⟩ : ∃ p : BW W1, p.w = W1 := ⟨BW.start W1, rfl⟩
  rw [← hp1]
  clear hp1
  go_upto_region 4 with (go_at_call 6; (with_reducible refine (KF.out _ (bw_below B1 _)).mono ?_); rintro e w2 ⟨ax, ox, cx, dx, rfl, hb2, KK⟩; obtain ⟨q, rfl⟩ := bw_take hb2)
  obtain ⟨W2, hW2⟩ : ∃ W, W = q.w.alloc (.cells #[.slice ax N cx, .slice ox m dx] 30) := ⟨_, rfl⟩
  have B2 : Below w.heap.size w W2 := by rw [hW2]; exact (bw_below B1 q).alloc (bw_below B1 q).size _
  have l_x : w.heap.size < q.w.heap.size := (k_t.below q.h).lt
  have o_x : w.heap.size ≤ q.w.heap.size := (bw_below B1 q).size
  have k_t := bka hW2 (k_t.below q.h)
  have k_x := bkn hW2
  have BX : Below q.w.heap.size q.w W2 := by rw [hW2]; exact (Below.refl _ _).alloc (Nat.le_refl _) _
  have K0 := Lib.hid (fun Y (hY : Below W2.heap.size W2 Y) => (KK.out Y (BX.trans (hY.mono BX.size))).1)
  have K1 := Lib.hid (fun Y (hY : Below W2.heap.size W2 Y) => (KK.out Y (BX.trans (hY.mono BX.size))).2.1)
  have K2 := Lib.hid (fun Y (hY : Below W2.heap.size W2 Y) => (KK.out Y (BX.trans (hY.mono BX.size))).2.2.1)
  have K3 := Lib.hid (fun Y (hY : Below W2.heap.size W2 Y) => (KK.out Y (BX.trans (hY.mono BX.size))).2.2.2.1)
  have K4 := Lib.hid (fun Y (hY : Below W2.heap.size W2 Y) => (KK.out Y (BX.trans (hY.mono BX.size))).2.2.2.2.1)
  have K5 := Lib.hid (fun Y (hY : Below W2.heap.size W2 Y) => (KK.out Y (BX.trans (hY.mono BX.size))).2.2.2.2.2.1)
  have K6 := Lib.hid (fun Y (hY : Below W2.heap.size W2 Y) => (KK.out Y (BX.trans (hY.mono BX.size))).2.2.2.2.2.2.1)
  have K7 := Lib.hid (fun Y (hY : Below W2.heap.size W2 Y) => (KK.out Y (BX.trans (hY.mono BX.size))).2.2.2.2.2.2.2)
  clear BX hb2 KK KF
  rw [← hW2]
  clear hW2
  clear B1
  clear c_t_0 c_t_1
  generalize q.w.heap.size = g_x at *
  obtain ⟨c_t_0, c_t_1⟩ := bwc2 (k_t)
  obtain ⟨c_x_0, c_x_1⟩ := bwc2 (k_x)
  obtain ⟨p2, hp2⟩ : ∃ p : BW W2, p.w = W2 := ⟨BW.start W2, rfl⟩
  rw [← hp2]
  clear hp2
  cases z1 <;> cases z2
  all_goals (
    refine wp_region_bw (by kernel_rfl) (by kernel_rfl) ?_
    repeat (go_big_quiet_step (first
        | (go_at_call 7; (with_reducible exact (bw_callB K0.out (Below.refl _ _) _)))
        | (go_at_call 8; (with_reducible exact (bw_callB K1.out (Below.refl _ _) _)))
        | (go_at_call 9; (with_reducible exact (bw_callB K2.out (Below.refl _ _) _)))
        | (go_at_call 10; (with_reducible exact (bw_callB K3.out (Below.refl _ _) _)))
        | (go_at_call 11; (with_reducible exact (bw_callB K4.out (Below.refl _ _) _)))
        | (go_at_call 12; (with_reducible exact (bw_callB K5.out (Below.refl _ _) _)))
        | (go_at_call 13; (with_reducible exact (bw_callB K6.out (Below.refl _ _) _)))
        | (go_at_call 14; (with_reducible exact (bw_callB K7.out (Below.refl _ _) _)))
        | (go_at_call 5; (with_reducible exact (bw_call KA.out _)))))
    refine wpQuiet_nil ?_
    intro _ hw'
    obtain ⟨q, rfl⟩ := hw'
    go_wp2
    go_ret
    exact ⟨rfl, bw_below B2 _⟩)

theorem law_TreeTells (a o : Option Addr) (N cn m co : Nat) (ns : List Nd) (ord : List Int) (lp : Option Addr) (n lc : Nat) (P : Nat → Pr) (w : World) (hN : N = ns.length) (hm : m = ord.length) (hco : m ≤ co) (hns : Nodes w (.slice a N cn) ns) (ho : IntSlice w o ord.length (fun i => ord.getD i 0)) (hs : Prims w (.slice lp n lc) n P) :
    Calls Try.prog 3 #[.agg #[.slice a N cn, .slice o m co], .slice lp n lc] w fun en w' => en = .returned (.bool true) ∧ Below w.heap.size w w' := by
  by_cases h1 : 24 < N
  · exact tells_a a o lp N cn m co n lc w h1
  by_cases h2 : 24 < m
  · exact tells_b a o lp N cn m co n lc w h1 h2
  by_cases h3 : 24 < n
  · exact tells_c a o lp N cn m co n lc w h1 h2 h3
  refine tells_d a o lp N cn m co n lc (mWhole ns m).2.2.2.2 (mWh ns P ord n) (mDeep ns m) (mLeaves ns m) w h1 h2 h3 (Lib.hid fun X hX => ?_)
  subst hm
  have hn1 : ns.length ≤ 1048576 := by omega
  refine (law16_of (.slice a N cn) ns o ord co X (hns.below hX (Nat.le_refl _)) (intslice_down15 ho hX) hn1 (by omega)).mono fun e w1 h => ?_
  obtain ⟨u, v, rfl, hu, hv, hb⟩ := h
  obtain ⟨ax, cx, rfl⟩ := owns_val hu
  obtain ⟨ox, dx, rfl, hdx, hsx⟩ := ordrow_slice hv (intslice_i64 ho)
  have hbw : Below w.heap.size w w1 := hX.trans (hb.mono hX.size)
  subst hN
  refine ⟨ax, ox, cx, dx, rfl, hb, Lib.hid fun Y hY => ?_⟩
  have hwY : Below w.heap.size w Y := hbw.trans (hY.mono hbw.size)
  have n1 := nodrow_nodes (hu.below hY) hn1
  have n2 := hns.below hwY (Nat.le_refl _)
  have i1 := intslice_down15 hsx hY
  have i2 := intslice_down15 ho hwY
  have p1 := hs.below hwY (Nat.le_refl _)
  exact ⟨tree_Ordered _ ns ox ord.length dx Y n1 hn1 (by omega), ref16_Ordered ns _ o ord.length co (by omega) hn1 Y n2, tree_Whole _ ns ox ord dx lp n lc P Y n1 i1 p1 hdx hn1 (by omega) (by omega), ref16_Whole _ ns o ord co lp n lc P Y n2 i2 p1 hco hn1 (by omega) (by omega),
    tree_Depth _ ns ox ord.length dx Y n1 hn1 (by omega), ref16_Depth ns _ o ord.length co (by omega) hn1 Y n2, tree_Leaves _ ns ox ord.length dx Y n1 hn1 (by omega), ref16_Leaves ns _ o ord.length co (by omega) hn1 Y n2⟩

end
end Go.Proofs.Ytomlcglnkdfemaa
