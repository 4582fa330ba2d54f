/- Contracts of package vec, below: coordinates, within, each, pair, the closures. Contracts of package vec: the closures, product, Near, normalize. Contracts of package vec (landed at 7315bb3e32). -/
import Derived.Test.YtdmfmdekcojjbaaGreatFrac01
import Derived.Test.YtdmfmdekcojjbaaGreatMath06
import Derived.Test.YtdmfmdekcojjbaaGreatMem06
import Derived.Test.YtdmfmdekcojjbaaGreatTail
import Derived.Test.YtdmfmdekcojjbaaGreatFloat
import Derived.Deep.DeepCutAuto
import Derived.Deep.RegionHeld3
import Derived.LoopN
import Derived.Shelf.Abstract
import Derived.Test.YtdmfmdekcojjbaaGreatRefb06
import Derived.Test.YtdmfmdekcojjbaaGreatRoot01

namespace Go.Proofs.YtdmfmdekcojjbaaGreat
section
open Go.RowKit Go.Shelf Go.Proofs.Sky
set_option linter.unusedVariables false

/-- A contract that holds in every later world, as one of the class. -/
theorem bw_callB {P : Program} {f : FuncId} {args : Array Value} {v : Value} {w wb : World} (h : ∀ w', Below w.heap.size w w' → Calls P f args w' fun e w'' => e = .returned v ∧ Below w'.heap.size w' w'') (hB : Below w.heap.size w wb) :
    ∀ p : BW wb, Calls P f args p.w fun e w' => e = .returned v ∧ ∃ q : BW wb, w' = q.w :=
  fun p => (h p.w (bw_below hB p)).mono fun e w' ⟨he, hb⟩ => ⟨he, p.next w' hb, rfl⟩

theorem vec_coordinates (x y z : Int) (w : World) :
    Calls Tryz.prog 73 #[.agg #[.int .i64 x, .int .i64 y, .int .i64 z]] w fun e w' => e = .returned (.agg #[.int .i64 x, .int .i64 y, .int .i64 z]) ∧ Below w.heap.size w w' := by
  go_enter Tryz.func73, Tryz.ntmps73
  go_wp2
  go_returns
  exact ⟨rfl, by go_grown⟩

set_option maxRecDepth 100000 in
set_option maxHeartbeats 4000000 in
theorem vec_within (n x y z : Int) (w : World) (hn : 0 ≤ n ∧ n ≤ 4611686018427387904) :
    Calls Tryz.prog 55 #[.agg #[.int .i64 x, .int .i64 y, .int .i64 z], .int .i64 n] w fun e w' => e = .returned (.bool (wi n x y z)) ∧ Below w.heap.size w w' := by
  have K := Lib.hid (fun w => vec_coordinates x y z w)
  have hb0 : Below w.heap.size w (w.alloc (.cells #[.int .i64 x, .int .i64 y, .int .i64 z] 23)) := by go_grown
  have i0 : ∀ w, (Instr.index 97 (.agg #[.int .i64 x, .int .i64 y, .int .i64 z]) (.int .i64 0)).run Tryz.prog w = .ok (.int .i64 x) w := fun _ => by kernel_rfl
  have i1 : ∀ w, (Instr.index 97 (.agg #[.int .i64 x, .int .i64 y, .int .i64 z]) (.int .i64 1)).run Tryz.prog w = .ok (.int .i64 y) w := fun _ => by kernel_rfl
  have i2 : ∀ w, (Instr.index 97 (.agg #[.int .i64 x, .int .i64 y, .int .i64 z]) (.int .i64 2)).run Tryz.prog w = .ok (.int .i64 z) w := fun _ => by kernel_rfl
  have e1 : IntKind.i64.wrap (-n) = -n := by rw [i64w]; omega
  have e3 : wrap64 (-n) = -n := by unfold wrap64; omega
  obtain ⟨m, hm⟩ : ∃ m, m = -n := ⟨_, rfl⟩
  have e2 : wi n x y z = decide (m ≤ x ∧ x ≤ n ∧ m ≤ y ∧ y ≤ n ∧ m ≤ z ∧ z ≤ n) := by unfold wi; rw [hm]
  rw [e2]
  rw [← hm] at e1 e3
  have e4 : -n = m := hm.symm
  clear e2 hn
  by_cases h0 : x < m
  · have t : decide (m ≤ x ∧ x ≤ n ∧ m ≤ y ∧ y ≤ n ∧ m ≤ z ∧ z ≤ n) = false := decide_eq_false (by omega)
    rw [t]
    have t0 : decide (x < m) = true := decide_eq_true h0
    clear t hm h0
    go_enter Tryz.func55, Tryz.ntmps55
    go_upto_region 2 with (go_at_call 73; (with_reducible refine (K.out _).mono ?_); rintro e w1 ⟨rfl, hb⟩)
    refine wp_loop_rounds 4 ?_
    rw [rounds_succ]
    go_wp2
    go_ret
    exact ⟨rfl, hb0.trans (hb.mono hb0.size)⟩
  by_cases h1 : n < x
  · have t : decide (m ≤ x ∧ x ≤ n ∧ m ≤ y ∧ y ≤ n ∧ m ≤ z ∧ z ≤ n) = false := decide_eq_false (by omega)
    rw [t]
    have t0 : decide (x < m) = false := decide_eq_false h0
    have t1 : decide (n < x) = true := decide_eq_true h1
    clear t hm h0 h1
    go_enter Tryz.func55, Tryz.ntmps55
    go_upto_region 2 with (go_at_call 73; (with_reducible refine (K.out _).mono ?_); rintro e w1 ⟨rfl, hb⟩)
    refine wp_loop_rounds 4 ?_
    rw [rounds_succ]
    go_wp2
    go_ret
    exact ⟨rfl, hb0.trans (hb.mono hb0.size)⟩
  by_cases h2 : y < m
  · have t : decide (m ≤ x ∧ x ≤ n ∧ m ≤ y ∧ y ≤ n ∧ m ≤ z ∧ z ≤ n) = false := decide_eq_false (by omega)
    rw [t]
    have t0 : decide (x < m) = false := decide_eq_false h0
    have t1 : decide (n < x) = false := decide_eq_false h1
    have t2 : decide (y < m) = true := decide_eq_true h2
    clear t hm h0 h1 h2
    go_enter Tryz.func55, Tryz.ntmps55
    go_upto_region 2 with (go_at_call 73; (with_reducible refine (K.out _).mono ?_); rintro e w1 ⟨rfl, hb⟩)
    refine wp_loop_rounds 4 ?_
    rw [rounds_succ]
    go_wp2
    rw [rounds_succ]
    go_wp2
    go_ret
    exact ⟨rfl, hb0.trans (hb.mono hb0.size)⟩
  by_cases h3 : n < y
  · have t : decide (m ≤ x ∧ x ≤ n ∧ m ≤ y ∧ y ≤ n ∧ m ≤ z ∧ z ≤ n) = false := decide_eq_false (by omega)
    rw [t]
    have t0 : decide (x < m) = false := decide_eq_false h0
    have t1 : decide (n < x) = false := decide_eq_false h1
    have t2 : decide (y < m) = false := decide_eq_false h2
    have t3 : decide (n < y) = true := decide_eq_true h3
    clear t hm h0 h1 h2 h3
    go_enter Tryz.func55, Tryz.ntmps55
    go_upto_region 2 with (go_at_call 73; (with_reducible refine (K.out _).mono ?_); rintro e w1 ⟨rfl, hb⟩)
    refine wp_loop_rounds 4 ?_
    rw [rounds_succ]
    go_wp2
    rw [rounds_succ]
    go_wp2
    go_ret
    exact ⟨rfl, hb0.trans (hb.mono hb0.size)⟩
  by_cases h4 : z < m
  · have t : decide (m ≤ x ∧ x ≤ n ∧ m ≤ y ∧ y ≤ n ∧ m ≤ z ∧ z ≤ n) = false := decide_eq_false (by omega)
    rw [t]
    have t0 : decide (x < m) = false := decide_eq_false h0
    have t1 : decide (n < x) = false := decide_eq_false h1
    have t2 : decide (y < m) = false := decide_eq_false h2
    have t3 : decide (n < y) = false := decide_eq_false h3
    have t4 : decide (z < m) = true := decide_eq_true h4
    clear t hm h0 h1 h2 h3 h4
    go_enter Tryz.func55, Tryz.ntmps55
    go_upto_region 2 with (go_at_call 73; (with_reducible refine (K.out _).mono ?_); rintro e w1 ⟨rfl, hb⟩)
    refine wp_loop_rounds 4 ?_
    rw [rounds_succ]
    go_wp2
    rw [rounds_succ]
    go_wp2
    rw [rounds_succ]
    go_wp2
    go_ret
    exact ⟨rfl, hb0.trans (hb.mono hb0.size)⟩
  by_cases h5 : n < z
  · have t : decide (m ≤ x ∧ x ≤ n ∧ m ≤ y ∧ y ≤ n ∧ m ≤ z ∧ z ≤ n) = false := decide_eq_false (by omega)
    rw [t]
    have t0 : decide (x < m) = false := decide_eq_false h0
    have t1 : decide (n < x) = false := decide_eq_false h1
    have t2 : decide (y < m) = false := decide_eq_false h2
    have t3 : decide (n < y) = false := decide_eq_false h3
    have t4 : decide (z < m) = false := decide_eq_false h4
    have t5 : decide (n < z) = true := decide_eq_true h5
    clear t hm h0 h1 h2 h3 h4 h5
    go_enter Tryz.func55, Tryz.ntmps55
    go_upto_region 2 with (go_at_call 73; (with_reducible refine (K.out _).mono ?_); rintro e w1 ⟨rfl, hb⟩)
    refine wp_loop_rounds 4 ?_
    rw [rounds_succ]
    go_wp2
    rw [rounds_succ]
    go_wp2
    rw [rounds_succ]
    go_wp2
    go_ret
    exact ⟨rfl, hb0.trans (hb.mono hb0.size)⟩
  have t : decide (m ≤ x ∧ x ≤ n ∧ m ≤ y ∧ y ≤ n ∧ m ≤ z ∧ z ≤ n) = true := decide_eq_true (by omega)
  rw [t]
  have t0 : decide (x < m) = false := decide_eq_false h0
  have t1 : decide (n < x) = false := decide_eq_false h1
  have t2 : decide (y < m) = false := decide_eq_false h2
  have t3 : decide (n < y) = false := decide_eq_false h3
  have t4 : decide (z < m) = false := decide_eq_false h4
  have t5 : decide (n < z) = false := decide_eq_false h5
  clear t hm h0 h1 h2 h3 h4 h5
  go_enter Tryz.func55, Tryz.ntmps55
  go_upto_region 2 with (go_at_call 73; (with_reducible refine (K.out _).mono ?_); rintro e w1 ⟨rfl, hb⟩)
  refine wp_loop_rounds 4 ?_
  rw [rounds_succ]
  go_wp2
  rw [rounds_succ]
  go_wp2
  rw [rounds_succ]
  go_wp2
  rw [rounds_succ]
  go_wp2
  go_ret
  exact ⟨rfl, hb0.trans (hb.mono hb0.size)⟩

set_option maxRecDepth 100000 in
set_option maxHeartbeats 4000000 in
theorem vec_each (g : FuncId) (bd : Array Value) (x y z a b c : Int) (w : World) (hg : Enters Tryz.prog g)
    (hx : ∀ w', Below w.heap.size w w' → Calls Tryz.prog g (#[.int .i64 x] ++ bd) w' fun e w'' => e = .returned (.int .i64 a) ∧ Below w'.heap.size w' w'')
    (hy : ∀ w', Below w.heap.size w w' → Calls Tryz.prog g (#[.int .i64 y] ++ bd) w' fun e w'' => e = .returned (.int .i64 b) ∧ Below w'.heap.size w' w'')
    (hz : ∀ w', Below w.heap.size w w' → Calls Tryz.prog g (#[.int .i64 z] ++ bd) w' fun e w'' => e = .returned (.int .i64 c) ∧ Below w'.heap.size w' w'') :
    Calls Tryz.prog 50 #[.agg #[.int .i64 x, .int .i64 y, .int .i64 z], .func (.func g) #[] bd] w fun e w' => e = .returned (.agg #[.int .i64 a, .int .i64 b, .int .i64 c]) ∧ Below w.heap.size w w' := by
  have K := Lib.hid (fun w => vec_coordinates x y z w)
  have eg : ∀ args w, (callFunc g args).run Tryz.prog w = .ok (.enter g args) w := hg
  go_enter Tryz.func50, Tryz.ntmps50
  go_upto_region 1 with (fail)
  obtain ⟨W1, hW1⟩ : ∃ W, W = (w.alloc (.cells #[.int .i64 x, .int .i64 y, .int .i64 z] 23)).alloc (.cells #[.int .i64 0, .int .i64 0, .int .i64 0] 23) := ⟨_, rfl⟩
  obtain ⟨k_v, k_r, B1⟩ := st2 hW1
  rw [← hW1]
  clear hW1
  have l_r : w.heap.size < w.heap.size + 1 := by omega
  generalize w.heap.size + 1 = g_r at *
  obtain ⟨c_v_0, c_v_1, c_v_2⟩ := bwc3 (k_v)
  obtain ⟨c_r_0, c_r_1, c_r_2⟩ := bwc3 (k_r)
  obtain ⟨p1, hp1⟩ : ∃ p : BW W1, p.w = W1 := ⟨BW.start W1, rfl⟩
  rw [← hp1]
  clear hp1
  go_upto_region 2 with (first
    | (go_at_call 73; (first | (with_reducible refine (bw_call K.out _).mono ?_)); rintro e w' ⟨rfl, q, rfl⟩))
  obtain ⟨W2, hW2⟩ : ∃ W, W = q.w.alloc (.cells #[.int .i64 x, .int .i64 y, .int .i64 z] 97) := ⟨_, rfl⟩
  have B2 : Below w.heap.size w W2 := by rw [hW2]; exact (bw_below B1 q).alloc (bw_below B1 q).size _
  have l_l : g_r < q.w.heap.size := (k_r.below q.h).lt
  have o_l : w.heap.size ≤ q.w.heap.size := (bw_below B1 q).size
  have k_v := bka hW2 (k_v.below q.h)
  have k_r := bka hW2 (k_r.below q.h)
  have k_l := bkn hW2
  rw [← hW2]
  clear hW2
  clear B1
  clear c_v_0 c_v_1 c_v_2 c_r_0 c_r_1 c_r_2
  generalize q.w.heap.size = g_l at *
  obtain ⟨c_v_0, c_v_1, c_v_2⟩ := bwc3 (k_v)
  obtain ⟨c_r_0, c_r_1, c_r_2⟩ := bwc3 (k_r)
  obtain ⟨c_l_0, c_l_1, c_l_2⟩ := bwc3 (k_l)
  obtain ⟨f_l_0, f_l_1, f_l_2⟩ := bwf3 (k_l)
  obtain ⟨p2, hp2⟩ : ∃ p : BW W2, p.w = W2 := ⟨BW.start W2, rfl⟩
  rw [← hp2]
  clear hp2
  have i0 : ∀ w, (Instr.index 97 (.agg #[.int .i64 x, .int .i64 y, .int .i64 z]) (.int .i64 0)).run Tryz.prog w = .ok (.int .i64 x) w := fun _ => by kernel_rfl
  have i1 : ∀ w, (Instr.index 97 (.agg #[.int .i64 x, .int .i64 y, .int .i64 z]) (.int .i64 1)).run Tryz.prog w = .ok (.int .i64 y) w := fun _ => by kernel_rfl
  have i2 : ∀ w, (Instr.index 97 (.agg #[.int .i64 x, .int .i64 y, .int .i64 z]) (.int .i64 2)).run Tryz.prog w = .ok (.int .i64 z) w := fun _ => by kernel_rfl
  go_wp2
  refine wp_loop_rounds 4 ?_
  have KX := bw_callB hx B2
  rw [rounds_succ]
  go_upto_region 6 with (with_reducible refine (KX _).mono ?_; rintro e w' ⟨rfl, q, rfl⟩)
  clear KX
  obtain ⟨W3, hW3⟩ : ∃ W, W = q.w.setCell ⟨g_l, 0, none⟩ (.int .i64 a) := ⟨_, rfl⟩
  have B3 : Below w.heap.size w W3 := by rw [hW3]; exact ((bw_below B2 q).setCell (p := ⟨g_l, 0, none⟩) (by show w.heap.size ≤ g_l; omega) _)
  have k_v : Bk W3 (w.heap.size) 23 #[.int .i64 x, .int .i64 y, .int .i64 z] := by rw [hW3]; exact ((k_v.below q.h).other (a := ⟨g_l, 0, none⟩) (by show ¬ w.heap.size = g_l; omega) (.int .i64 a))
  have k_r : Bk W3 (g_r) 23 #[.int .i64 0, .int .i64 0, .int .i64 0] := by rw [hW3]; exact ((k_r.below q.h).other (a := ⟨g_l, 0, none⟩) (by show ¬ g_r = g_l; omega) (.int .i64 a))
  have k_l : Bk W3 (g_l) 97 #[.int .i64 a, .int .i64 y, .int .i64 z] := by rw [hW3]; exact ((k_l.below q.h).set 0 (.int .i64 a)).cast (by simp)
  rw [← hW3]
  clear hW3
  clear B2
  clear c_v_0 c_v_1 c_v_2 c_r_0 c_r_1 c_r_2 c_l_0 c_l_1 c_l_2 f_l_0 f_l_1 f_l_2
  obtain ⟨c_v_0, c_v_1, c_v_2⟩ := bwc3 (k_v)
  obtain ⟨c_r_0, c_r_1, c_r_2⟩ := bwc3 (k_r)
  obtain ⟨c_l_0, c_l_1, c_l_2⟩ := bwc3 (k_l)
  obtain ⟨f_l_0, f_l_1, f_l_2⟩ := bwf3 (k_l)
  obtain ⟨p3, hp3⟩ : ∃ p : BW W3, p.w = W3 := ⟨BW.start W3, rfl⟩
  rw [← hp3]
  clear hp3
  go_wp2
  have KX := bw_callB hy B3
  rw [rounds_succ]
  go_upto_region 6 with (with_reducible refine (KX _).mono ?_; rintro e w' ⟨rfl, q, rfl⟩)
  clear KX
  obtain ⟨W4, hW4⟩ : ∃ W, W = q.w.setCell ⟨g_l, 1, none⟩ (.int .i64 b) := ⟨_, rfl⟩
  have B4 : Below w.heap.size w W4 := by rw [hW4]; exact ((bw_below B3 q).setCell (p := ⟨g_l, 1, none⟩) (by show w.heap.size ≤ g_l; omega) _)
  have k_v : Bk W4 (w.heap.size) 23 #[.int .i64 x, .int .i64 y, .int .i64 z] := by rw [hW4]; exact ((k_v.below q.h).other (a := ⟨g_l, 1, none⟩) (by show ¬ w.heap.size = g_l; omega) (.int .i64 b))
  have k_r : Bk W4 (g_r) 23 #[.int .i64 0, .int .i64 0, .int .i64 0] := by rw [hW4]; exact ((k_r.below q.h).other (a := ⟨g_l, 1, none⟩) (by show ¬ g_r = g_l; omega) (.int .i64 b))
  have k_l : Bk W4 (g_l) 97 #[.int .i64 a, .int .i64 b, .int .i64 z] := by rw [hW4]; exact ((k_l.below q.h).set 1 (.int .i64 b)).cast (by simp)
  rw [← hW4]
  clear hW4
  clear B3
  clear c_v_0 c_v_1 c_v_2 c_r_0 c_r_1 c_r_2 c_l_0 c_l_1 c_l_2 f_l_0 f_l_1 f_l_2
  obtain ⟨c_v_0, c_v_1, c_v_2⟩ := bwc3 (k_v)
  obtain ⟨c_r_0, c_r_1, c_r_2⟩ := bwc3 (k_r)
  obtain ⟨c_l_0, c_l_1, c_l_2⟩ := bwc3 (k_l)
  obtain ⟨f_l_0, f_l_1, f_l_2⟩ := bwf3 (k_l)
  obtain ⟨p4, hp4⟩ : ∃ p : BW W4, p.w = W4 := ⟨BW.start W4, rfl⟩
  rw [← hp4]
  clear hp4
  go_wp2
  have KX := bw_callB hz B4
  rw [rounds_succ]
  go_upto_region 6 with (with_reducible refine (KX _).mono ?_; rintro e w' ⟨rfl, q, rfl⟩)
  clear KX
  obtain ⟨W5, hW5⟩ : ∃ W, W = q.w.setCell ⟨g_l, 2, none⟩ (.int .i64 c) := ⟨_, rfl⟩
  have B5 : Below w.heap.size w W5 := by rw [hW5]; exact ((bw_below B4 q).setCell (p := ⟨g_l, 2, none⟩) (by show w.heap.size ≤ g_l; omega) _)
  have k_v : Bk W5 (w.heap.size) 23 #[.int .i64 x, .int .i64 y, .int .i64 z] := by rw [hW5]; exact ((k_v.below q.h).other (a := ⟨g_l, 2, none⟩) (by show ¬ w.heap.size = g_l; omega) (.int .i64 c))
  have k_r : Bk W5 (g_r) 23 #[.int .i64 0, .int .i64 0, .int .i64 0] := by rw [hW5]; exact ((k_r.below q.h).other (a := ⟨g_l, 2, none⟩) (by show ¬ g_r = g_l; omega) (.int .i64 c))
  have k_l : Bk W5 (g_l) 97 #[.int .i64 a, .int .i64 b, .int .i64 c] := by rw [hW5]; exact ((k_l.below q.h).set 2 (.int .i64 c)).cast (by simp)
  rw [← hW5]
  clear hW5
  clear B4
  clear c_v_0 c_v_1 c_v_2 c_r_0 c_r_1 c_r_2 c_l_0 c_l_1 c_l_2 f_l_0 f_l_1 f_l_2
  obtain ⟨c_v_0, c_v_1, c_v_2⟩ := bwc3 (k_v)
  obtain ⟨c_r_0, c_r_1, c_r_2⟩ := bwc3 (k_r)
  obtain ⟨f_r_0, f_r_1, f_r_2⟩ := bwf3 (k_r)
  obtain ⟨c_l_0, c_l_1, c_l_2⟩ := bwc3 (k_l)
  obtain ⟨p5, hp5⟩ : ∃ p : BW W5, p.w = W5 := ⟨BW.start W5, rfl⟩
  rw [← hp5]
  clear hp5
  go_wp2
  rw [rounds_succ]
  go_wp2
  have kr := bkp3 (k_r.below p5.h) (.int .i64 a) (.int .i64 b) (.int .i64 c)
  obtain ⟨rc0, rc1, rc2⟩ := rwc3 kr
  exact bodyPost_ret (v := .agg #[.int .i64 a, .int .i64 b, .int .i64 c]) (by simp [results, Tryz.results50, go_sem, rc0, rc1, rc2]) rfl ⟨rfl, blp3 (bw_below B5 p5) (by omega)⟩

set_option maxRecDepth 100000 in
set_option maxHeartbeats 4000000 in
theorem vec_pair (g : FuncId) (bd : Array Value) (x y z a b c r1 r2 r3 : Int) (w : World) (hg : Enters Tryz.prog g)
    (hx : ∀ w', Below w.heap.size w w' → Calls Tryz.prog g (#[.int .i64 x, .int .i64 a] ++ bd) w' fun e w'' => e = .returned (.int .i64 r1) ∧ Below w'.heap.size w' w'')
    (hy : ∀ w', Below w.heap.size w w' → Calls Tryz.prog g (#[.int .i64 y, .int .i64 b] ++ bd) w' fun e w'' => e = .returned (.int .i64 r2) ∧ Below w'.heap.size w' w'')
    (hz : ∀ w', Below w.heap.size w w' → Calls Tryz.prog g (#[.int .i64 z, .int .i64 c] ++ bd) w' fun e w'' => e = .returned (.int .i64 r3) ∧ Below w'.heap.size w' w'') :
    Calls Tryz.prog 53 #[.agg #[.int .i64 x, .int .i64 y, .int .i64 z], .agg #[.int .i64 a, .int .i64 b, .int .i64 c], .func (.func g) #[] bd] w fun e w' => e = .returned (.agg #[.int .i64 r1, .int .i64 r2, .int .i64 r3]) ∧ Below w.heap.size w w' := by
  have K1 := Lib.hid (fun w => vec_coordinates x y z w)
  have K2 := Lib.hid (fun w => vec_coordinates a b c w)
  have eg : ∀ args w, (callFunc g args).run Tryz.prog w = .ok (.enter g args) w := hg
  go_enter Tryz.func53, Tryz.ntmps53
  go_upto_region 1 with (fail)
  obtain ⟨W1, hW1⟩ : ∃ W, W = ((w.alloc (.cells #[.int .i64 x, .int .i64 y, .int .i64 z] 23)).alloc (.cells #[.int .i64 a, .int .i64 b, .int .i64 c] 23)).alloc (.cells #[.int .i64 0, .int .i64 0, .int .i64 0] 23) := ⟨_, rfl⟩
  obtain ⟨k_v, k_u, k_r, B1⟩ := st3 hW1
  rw [← hW1]
  clear hW1
  have l_u : w.heap.size < w.heap.size + 1 := by omega
  have l_r : w.heap.size + 1 < w.heap.size + 1 + 1 := by omega
  generalize w.heap.size + 1 + 1 = g_r at *
  generalize w.heap.size + 1 = g_u at *
  obtain ⟨c_v_0, c_v_1, c_v_2⟩ := bwc3 (k_v)
  obtain ⟨c_u_0, c_u_1, c_u_2⟩ := bwc3 (k_u)
  obtain ⟨c_r_0, c_r_1, c_r_2⟩ := bwc3 (k_r)
  obtain ⟨p1, hp1⟩ : ∃ p : BW W1, p.w = W1 := ⟨BW.start W1, rfl⟩
  rw [← hp1]
  clear hp1
  refine wp_region_float2 (t1 := 97) (z1 := #[.int .i64 0, .int .i64 0, .int .i64 0]) (t2 := 97) (z2 := #[.int .i64 0, .int .i64 0, .int .i64 0]) 6 4 5 7 8 36 (by kernel_rfl) (by kernel_rfl) (by kernel_rfl) (by kernel_rfl) (by kernel_rfl) (by decide) (by kernel_rfl) rfl rfl ?_ ?_ ?_
  · intro ev wx
    simp [execOp, go_sem]
  · intro ev wx
    simp [execOp, go_sem]
  apply Exists.intro
  refine ⟨?_, ?_⟩
  · intro wb' hwb'
    obtain ⟨d_v_0, d_v_1, d_v_2⟩ := bwc3 (k_v.below hwb')
    obtain ⟨d_u_0, d_u_1, d_u_2⟩ := bwc3 (k_u.below hwb')
    obtain ⟨d_r_0, d_r_1, d_r_2⟩ := bwc3 (k_r.below hwb')
    simp only [mask2, maskAt, List.take_succ_cons, List.take_zero]
    repeat (go_big_quiet_step (first
      | (go_at_call 73; (first | (with_reducible exact bw_call K1.out _) | (with_reducible exact bw_call K2.out _)))))
    refine wpQuiet_nil ?_
    exact rfl
  intro W2 g_l g_m hW hga hgb n_m k_l k_m
  have B2 : Below w.heap.size w W2 := B1.trans (hW.mono B1.size)
  have l_l : g_r < g_l := Nat.lt_of_lt_of_le k_r.lt hga
  have l_m : g_r < g_m := Nat.lt_of_lt_of_le k_r.lt hgb
  have k_v := k_v.below hW
  have k_u := k_u.below hW
  have k_r := k_r.below hW
  clear hW hga hgb B1
  clear c_v_0 c_v_1 c_v_2 c_u_0 c_u_1 c_u_2 c_r_0 c_r_1 c_r_2
  simp only [List.drop_succ_cons, List.drop_zero, Act.put, List.setIfInBounds_toArray, List.set_cons_zero, List.set_cons_succ]
  obtain ⟨c_v_0, c_v_1, c_v_2⟩ := bwc3 (k_v)
  obtain ⟨c_u_0, c_u_1, c_u_2⟩ := bwc3 (k_u)
  obtain ⟨c_r_0, c_r_1, c_r_2⟩ := bwc3 (k_r)
  obtain ⟨c_l_0, c_l_1, c_l_2⟩ := bwc3 (k_l)
  obtain ⟨f_l_0, f_l_1, f_l_2⟩ := bwf3 (k_l)
  obtain ⟨c_m_0, c_m_1, c_m_2⟩ := bwc3 (k_m)
  obtain ⟨f_m_0, f_m_1, f_m_2⟩ := bwf3 (k_m)
  obtain ⟨p2, hp2⟩ : ∃ p : BW W2, p.w = W2 := ⟨BW.start W2, rfl⟩
  rw [← hp2]
  clear hp2
  go_upto_region 2 with (fail)
  obtain ⟨W3, hW3⟩ : ∃ W, W = ((p2.w.setCell ⟨g_l, 0, none⟩ (.int .i64 x)).setCell ⟨g_l, 1, none⟩ (.int .i64 y)).setCell ⟨g_l, 2, none⟩ (.int .i64 z) := ⟨_, rfl⟩
  have B3 : Below w.heap.size w W3 := by rw [hW3]; exact blp3 (bw_below B2 p2) (by omega)
  have k_v := bkoe3 hW3 (k_v.below p2.h) (by omega)
  have k_u := bkoe3 hW3 (k_u.below p2.h) (by omega)
  have k_r := bkoe3 hW3 (k_r.below p2.h) (by omega)
  have k_l := bkpe3 hW3 (k_l.below p2.h)
  have k_m := bkoe3 hW3 (k_m.below p2.h) (by omega)
  rw [← hW3]
  clear hW3
  clear B2
  clear c_v_0 c_v_1 c_v_2 c_u_0 c_u_1 c_u_2 c_r_0 c_r_1 c_r_2 c_l_0 c_l_1 c_l_2 f_l_0 f_l_1 f_l_2 c_m_0 c_m_1 c_m_2 f_m_0 f_m_1 f_m_2
  obtain ⟨c_v_0, c_v_1, c_v_2⟩ := bwc3 (k_v)
  obtain ⟨c_u_0, c_u_1, c_u_2⟩ := bwc3 (k_u)
  obtain ⟨c_r_0, c_r_1, c_r_2⟩ := bwc3 (k_r)
  obtain ⟨c_l_0, c_l_1, c_l_2⟩ := bwc3 (k_l)
  obtain ⟨c_m_0, c_m_1, c_m_2⟩ := bwc3 (k_m)
  obtain ⟨f_m_0, f_m_1, f_m_2⟩ := bwf3 (k_m)
  obtain ⟨p3, hp3⟩ : ∃ p : BW W3, p.w = W3 := ⟨BW.start W3, rfl⟩
  rw [← hp3]
  clear hp3
  obtain ⟨W4, hW4⟩ : ∃ W, W = ((p3.w.setCell ⟨g_m, 0, none⟩ (.int .i64 a)).setCell ⟨g_m, 1, none⟩ (.int .i64 b)).setCell ⟨g_m, 2, none⟩ (.int .i64 c) := ⟨_, rfl⟩
  have B4 : Below w.heap.size w W4 := by rw [hW4]; exact blp3 (bw_below B3 p3) (by omega)
  have k_v := bkoe3 hW4 (k_v.below p3.h) (by omega)
  have k_u := bkoe3 hW4 (k_u.below p3.h) (by omega)
  have k_r := bkoe3 hW4 (k_r.below p3.h) (by omega)
  have k_l := bkoe3 hW4 (k_l.below p3.h) (by omega)
  have k_m := bkpe3 hW4 (k_m.below p3.h)
  rw [← hW4]
  clear hW4
  clear B3
  clear c_v_0 c_v_1 c_v_2 c_u_0 c_u_1 c_u_2 c_r_0 c_r_1 c_r_2 c_l_0 c_l_1 c_l_2 c_m_0 c_m_1 c_m_2 f_m_0 f_m_1 f_m_2
  obtain ⟨c_v_0, c_v_1, c_v_2⟩ := bwc3 (k_v)
  obtain ⟨c_u_0, c_u_1, c_u_2⟩ := bwc3 (k_u)
  obtain ⟨c_r_0, c_r_1, c_r_2⟩ := bwc3 (k_r)
  obtain ⟨c_l_0, c_l_1, c_l_2⟩ := bwc3 (k_l)
  obtain ⟨f_l_0, f_l_1, f_l_2⟩ := bwf3 (k_l)
  obtain ⟨c_m_0, c_m_1, c_m_2⟩ := bwc3 (k_m)
  obtain ⟨p4, hp4⟩ : ∃ p : BW W4, p.w = W4 := ⟨BW.start W4, rfl⟩
  rw [← hp4]
  clear hp4
  have i0 : ∀ w, (Instr.index 97 (.agg #[.int .i64 x, .int .i64 y, .int .i64 z]) (.int .i64 0)).run Tryz.prog w = .ok (.int .i64 x) w := fun _ => by kernel_rfl
  have i1 : ∀ w, (Instr.index 97 (.agg #[.int .i64 x, .int .i64 y, .int .i64 z]) (.int .i64 1)).run Tryz.prog w = .ok (.int .i64 y) w := fun _ => by kernel_rfl
  have i2 : ∀ w, (Instr.index 97 (.agg #[.int .i64 x, .int .i64 y, .int .i64 z]) (.int .i64 2)).run Tryz.prog w = .ok (.int .i64 z) w := fun _ => by kernel_rfl
  go_wp2
  refine wp_loop_rounds 4 ?_
  have KX := bw_callB hx B4
  rw [rounds_succ]
  go_upto_region 6 with (with_reducible refine (KX _).mono ?_; rintro e w' ⟨rfl, q, rfl⟩)
  clear KX
  obtain ⟨W5, hW5⟩ : ∃ W, W = q.w.setCell ⟨g_l, 0, none⟩ (.int .i64 r1) := ⟨_, rfl⟩
  have B5 : Below w.heap.size w W5 := by rw [hW5]; exact ((bw_below B4 q).setCell (p := ⟨g_l, 0, none⟩) (by show w.heap.size ≤ g_l; omega) _)
  have k_v : Bk W5 (w.heap.size) 23 #[.int .i64 x, .int .i64 y, .int .i64 z] := by rw [hW5]; exact ((k_v.below q.h).other (a := ⟨g_l, 0, none⟩) (by show ¬ w.heap.size = g_l; omega) (.int .i64 r1))
  have k_u : Bk W5 (g_u) 23 #[.int .i64 a, .int .i64 b, .int .i64 c] := by rw [hW5]; exact ((k_u.below q.h).other (a := ⟨g_l, 0, none⟩) (by show ¬ g_u = g_l; omega) (.int .i64 r1))
  have k_r : Bk W5 (g_r) 23 #[.int .i64 0, .int .i64 0, .int .i64 0] := by rw [hW5]; exact ((k_r.below q.h).other (a := ⟨g_l, 0, none⟩) (by show ¬ g_r = g_l; omega) (.int .i64 r1))
  have k_l : Bk W5 (g_l) 97 #[.int .i64 r1, .int .i64 y, .int .i64 z] := by rw [hW5]; exact ((k_l.below q.h).set 0 (.int .i64 r1)).cast (by simp)
  have k_m : Bk W5 (g_m) 97 #[.int .i64 a, .int .i64 b, .int .i64 c] := by rw [hW5]; exact ((k_m.below q.h).other (a := ⟨g_l, 0, none⟩) (by show ¬ g_m = g_l; omega) (.int .i64 r1))
  rw [← hW5]
  clear hW5
  clear B4
  clear c_v_0 c_v_1 c_v_2 c_u_0 c_u_1 c_u_2 c_r_0 c_r_1 c_r_2 c_l_0 c_l_1 c_l_2 f_l_0 f_l_1 f_l_2 c_m_0 c_m_1 c_m_2
  obtain ⟨c_v_0, c_v_1, c_v_2⟩ := bwc3 (k_v)
  obtain ⟨c_u_0, c_u_1, c_u_2⟩ := bwc3 (k_u)
  obtain ⟨c_r_0, c_r_1, c_r_2⟩ := bwc3 (k_r)
  obtain ⟨c_l_0, c_l_1, c_l_2⟩ := bwc3 (k_l)
  obtain ⟨f_l_0, f_l_1, f_l_2⟩ := bwf3 (k_l)
  obtain ⟨c_m_0, c_m_1, c_m_2⟩ := bwc3 (k_m)
  obtain ⟨p5, hp5⟩ : ∃ p : BW W5, p.w = W5 := ⟨BW.start W5, rfl⟩
  rw [← hp5]
  clear hp5
  go_wp2
  have KX := bw_callB hy B5
  rw [rounds_succ]
  go_upto_region 6 with (with_reducible refine (KX _).mono ?_; rintro e w' ⟨rfl, q, rfl⟩)
  clear KX
  obtain ⟨W6, hW6⟩ : ∃ W, W = q.w.setCell ⟨g_l, 1, none⟩ (.int .i64 r2) := ⟨_, rfl⟩
  have B6 : Below w.heap.size w W6 := by rw [hW6]; exact ((bw_below B5 q).setCell (p := ⟨g_l, 1, none⟩) (by show w.heap.size ≤ g_l; omega) _)
  have k_v : Bk W6 (w.heap.size) 23 #[.int .i64 x, .int .i64 y, .int .i64 z] := by rw [hW6]; exact ((k_v.below q.h).other (a := ⟨g_l, 1, none⟩) (by show ¬ w.heap.size = g_l; omega) (.int .i64 r2))
  have k_u : Bk W6 (g_u) 23 #[.int .i64 a, .int .i64 b, .int .i64 c] := by rw [hW6]; exact ((k_u.below q.h).other (a := ⟨g_l, 1, none⟩) (by show ¬ g_u = g_l; omega) (.int .i64 r2))
  have k_r : Bk W6 (g_r) 23 #[.int .i64 0, .int .i64 0, .int .i64 0] := by rw [hW6]; exact ((k_r.below q.h).other (a := ⟨g_l, 1, none⟩) (by show ¬ g_r = g_l; omega) (.int .i64 r2))
  have k_l : Bk W6 (g_l) 97 #[.int .i64 r1, .int .i64 r2, .int .i64 z] := by rw [hW6]; exact ((k_l.below q.h).set 1 (.int .i64 r2)).cast (by simp)
  have k_m : Bk W6 (g_m) 97 #[.int .i64 a, .int .i64 b, .int .i64 c] := by rw [hW6]; exact ((k_m.below q.h).other (a := ⟨g_l, 1, none⟩) (by show ¬ g_m = g_l; omega) (.int .i64 r2))
  rw [← hW6]
  clear hW6
  clear B5
  clear c_v_0 c_v_1 c_v_2 c_u_0 c_u_1 c_u_2 c_r_0 c_r_1 c_r_2 c_l_0 c_l_1 c_l_2 f_l_0 f_l_1 f_l_2 c_m_0 c_m_1 c_m_2
  obtain ⟨c_v_0, c_v_1, c_v_2⟩ := bwc3 (k_v)
  obtain ⟨c_u_0, c_u_1, c_u_2⟩ := bwc3 (k_u)
  obtain ⟨c_r_0, c_r_1, c_r_2⟩ := bwc3 (k_r)
  obtain ⟨c_l_0, c_l_1, c_l_2⟩ := bwc3 (k_l)
  obtain ⟨f_l_0, f_l_1, f_l_2⟩ := bwf3 (k_l)
  obtain ⟨c_m_0, c_m_1, c_m_2⟩ := bwc3 (k_m)
  obtain ⟨p6, hp6⟩ : ∃ p : BW W6, p.w = W6 := ⟨BW.start W6, rfl⟩
  rw [← hp6]
  clear hp6
  go_wp2
  have KX := bw_callB hz B6
  rw [rounds_succ]
  go_upto_region 6 with (with_reducible refine (KX _).mono ?_; rintro e w' ⟨rfl, q, rfl⟩)
  clear KX
  obtain ⟨W7, hW7⟩ : ∃ W, W = q.w.setCell ⟨g_l, 2, none⟩ (.int .i64 r3) := ⟨_, rfl⟩
  have B7 : Below w.heap.size w W7 := by rw [hW7]; exact ((bw_below B6 q).setCell (p := ⟨g_l, 2, none⟩) (by show w.heap.size ≤ g_l; omega) _)
  have k_v : Bk W7 (w.heap.size) 23 #[.int .i64 x, .int .i64 y, .int .i64 z] := by rw [hW7]; exact ((k_v.below q.h).other (a := ⟨g_l, 2, none⟩) (by show ¬ w.heap.size = g_l; omega) (.int .i64 r3))
  have k_u : Bk W7 (g_u) 23 #[.int .i64 a, .int .i64 b, .int .i64 c] := by rw [hW7]; exact ((k_u.below q.h).other (a := ⟨g_l, 2, none⟩) (by show ¬ g_u = g_l; omega) (.int .i64 r3))
  have k_r : Bk W7 (g_r) 23 #[.int .i64 0, .int .i64 0, .int .i64 0] := by rw [hW7]; exact ((k_r.below q.h).other (a := ⟨g_l, 2, none⟩) (by show ¬ g_r = g_l; omega) (.int .i64 r3))
  have k_l : Bk W7 (g_l) 97 #[.int .i64 r1, .int .i64 r2, .int .i64 r3] := by rw [hW7]; exact ((k_l.below q.h).set 2 (.int .i64 r3)).cast (by simp)
  have k_m : Bk W7 (g_m) 97 #[.int .i64 a, .int .i64 b, .int .i64 c] := by rw [hW7]; exact ((k_m.below q.h).other (a := ⟨g_l, 2, none⟩) (by show ¬ g_m = g_l; omega) (.int .i64 r3))
  rw [← hW7]
  clear hW7
  clear B6
  clear c_v_0 c_v_1 c_v_2 c_u_0 c_u_1 c_u_2 c_r_0 c_r_1 c_r_2 c_l_0 c_l_1 c_l_2 f_l_0 f_l_1 f_l_2 c_m_0 c_m_1 c_m_2
  obtain ⟨c_v_0, c_v_1, c_v_2⟩ := bwc3 (k_v)
  obtain ⟨c_u_0, c_u_1, c_u_2⟩ := bwc3 (k_u)
  obtain ⟨c_r_0, c_r_1, c_r_2⟩ := bwc3 (k_r)
  obtain ⟨f_r_0, f_r_1, f_r_2⟩ := bwf3 (k_r)
  obtain ⟨c_l_0, c_l_1, c_l_2⟩ := bwc3 (k_l)
  obtain ⟨c_m_0, c_m_1, c_m_2⟩ := bwc3 (k_m)
  obtain ⟨p7, hp7⟩ : ∃ p : BW W7, p.w = W7 := ⟨BW.start W7, rfl⟩
  rw [← hp7]
  clear hp7
  go_wp2
  rw [rounds_succ]
  go_wp2
  have kr := bkp3 (k_r.below p7.h) (.int .i64 r1) (.int .i64 r2) (.int .i64 r3)
  obtain ⟨rc0, rc1, rc2⟩ := rwc3 kr
  exact bodyPost_ret (v := .agg #[.int .i64 r1, .int .i64 r2, .int .i64 r3]) (by simp [results, Tryz.results53, go_sem, rc0, rc1, rc2]) rfl ⟨rfl, blp3 (bw_below B7 p7) (by omega)⟩

end
end Go.Proofs.YtdmfmdekcojjbaaGreat

namespace Go.Proofs.YtdmfmdekcojjbaaGreat
section
open Go.RowKit Go.Shelf Go.Shelf Go.Proofs.Sky
set_option linter.unusedVariables false

theorem vec_double (n : Int) (w : World) (hn : -4611686018427387904 ≤ n ∧ n ≤ 4611686018427387903) :
    Calls Tryz.prog 97 #[.int .i64 n] w fun e w' => e = .returned (.int .i64 (2 * n)) ∧ Below w.heap.size w w' := by
  have e1 : wrap64 (n * 2) = 2 * n := by unfold wrap64; omega
  clear hn
  go_enter Tryz.func97, Tryz.ntmps97
  go_wp2
  go_ret
  exact ⟨ret_int (by simp only [e1]), Below.refl _ _⟩

theorem vec_halve (n : Int) (w : World) (hn : I64 n) :
    Calls Tryz.prog 98 #[.int .i64 n] w fun e w' => e = .returned (.int .i64 (n.tdiv 2)) ∧ Below w.heap.size w w' := by
  have e1 : wrap64 (n.tdiv 2) = n.tdiv 2 := IntWalk.wrap64_in _ (by unfold I64 at hn; have t : (n.tdiv 2).natAbs = n.natAbs / 2 := Int.natAbs_tdiv n 2; omega)
  clear hn
  go_enter Tryz.func98, Tryz.ntmps98
  go_wp2
  go_ret
  exact ⟨ret_int (by first | rfl | simp only [e1]), Below.refl _ _⟩

theorem vec_turned (n : Int) (w : World) (hn : I64 n) :
    Calls Tryz.prog 51 #[.int .i64 n] w fun e w' => e = .returned (.int .i64 (sat (n * -1))) ∧ Below w.heap.size w w' := by
  have K := Lib.hid (fun w => num_Times n (-1) w hn (by unfold I64; omega))
  generalize sat (n * -1) = r at *
  clear hn
  go_enter Tryz.func51, Tryz.ntmps51
  go_wp2_with (go_at_call 52; (with_reducible refine (K.out _).mono ?_); rintro e w' ⟨rfl, rfl⟩)
  go_ret
  exact ⟨rfl, Below.refl _ _⟩

theorem vec_times (m n p : Int) (w : World) (h : wrap64 (m * n) = p) :
    Calls Tryz.prog 87 #[.int .i64 m, .int .i64 n] w fun e w' => e = .returned (.int .i64 p) ∧ Below w.heap.size w w' := by
  go_enter Tryz.func87, Tryz.ntmps87
  go_wp2
  go_ret
  exact ⟨ret_int (by first | rfl | simp only [h]), Below.refl _ _⟩

theorem vec_parted (n L r : Int) (g0 : Nat) (w : World) (hc : w.cell? ⟨g0, 0, none⟩ = some (.int .i64 L)) (hn : -1048576 ≤ n ∧ n ≤ 1048576) (hL : 1 ≤ L ∧ L ≤ 9223372036854775807) (hr : (n * 16384).tdiv L = r) :
    Calls Tryz.prog 82 #[.int .i64 n, .pointer (some ⟨g0, 0, none⟩)] w fun e w' => e = .returned (.int .i64 r) ∧ Below w.heap.size w w' := by
  have e1 : wrap64 (n * 16384) = n * 16384 := by unfold wrap64; omega
  have e2 : wrap64 r = r := IntWalk.wrap64_in _ (by have t : ((n * 16384).tdiv L).natAbs = (n * 16384).natAbs / L.natAbs := Int.natAbs_tdiv _ _; rw [hr] at t; have u := Nat.div_le_self (n * 16384).natAbs L.natAbs; rw [← t] at u; omega)
  obtain ⟨k, hk⟩ : ∃ k, k = n * 16384 := ⟨_, rfl⟩
  rw [← hk] at e1 hr
  have e3 : n * 16384 = k := hk.symm
  have l0 : ¬ L = 0 := by omega
  have l1 : ¬ L = -1 := by omega
  clear hk hn hL
  go_enter Tryz.func82, Tryz.ntmps82
  go_wp2
  go_ret
  exact ⟨ret_int (by first | rfl | simp only [e2]), Below.refl _ _⟩

theorem vec_taken (v n d : Int) (g0 : Nat) (w : World) (hc : w.cell? ⟨g0, 0, none⟩ = some (.int .i64 n)) (hd : w.cell? ⟨g0, 1, none⟩ = some (.int .i64 d)) (h1 : I64 v) (h2 : I64 n) (h3 : I64 d) :
    Calls Tryz.prog 83 #[.int .i64 v, .pointer (some ⟨g0, 0, none⟩)] w fun e w' => e = .returned (.int .i64 (fat v n d)) ∧ Below w.heap.size w w' := by
  have K := Lib.hid (fun w => frac_At v n d w h1 h2 h3)
  generalize fat v n d = r at *
  clear h1 h2 h3
  go_enter Tryz.func83, Tryz.ntmps83
  go_wp2_with (go_at_call 84; (with_reducible refine (K.out _).mono ?_); rintro e w' ⟨rfl, hb⟩)
  go_ret
  exact ⟨rfl, hb⟩

/-- A sum of three products that do not go round. -/
theorem vec_product (x y z a b c d1 d2 d3 : Int) (w : World) (h1 : d1 = x * a) (h2 : d2 = y * b) (h3 : d3 = z * c)
    (b1 : -2305843009213693952 ≤ d1 ∧ d1 ≤ 2305843009213693952) (b2 : -2305843009213693952 ≤ d2 ∧ d2 ≤ 2305843009213693952) (b3 : -2305843009213693952 ≤ d3 ∧ d3 ≤ 2305843009213693952) :
    Calls Tryz.prog 67 #[.agg #[.int .i64 x, .int .i64 y, .int .i64 z], .agg #[.int .i64 a, .int .i64 b, .int .i64 c]] w fun e w' => e = .returned (.int .i64 (d1 + d2 + d3)) ∧ Below w.heap.size w w' := by
  have K := Lib.hid (fun w => vec_pair 87 #[] x y z a b c d1 d2 d3 w (enters_of Tryz.func87 (by kernel_rfl) rfl)
    (fun w' _ => by simpa using vec_times x a d1 w' (by rw [← h1]; exact IntWalk.wrap64_in _ (by omega)))
    (fun w' _ => by simpa using vec_times y b d2 w' (by rw [← h2]; exact IntWalk.wrap64_in _ (by omega)))
    (fun w' _ => by simpa using vec_times z c d3 w' (by rw [← h3]; exact IntWalk.wrap64_in _ (by omega))))
  obtain ⟨s, hs⟩ : ∃ s, s = d1 + d2 := ⟨_, rfl⟩
  obtain ⟨t, ht⟩ : ∃ t, t = s + d3 := ⟨_, rfl⟩
  have w4 : wrap64 s = s := IntWalk.wrap64_in _ (by omega)
  have w5 : wrap64 t = t := IntWalk.wrap64_in _ (by omega)
  have e4 : d1 + d2 = s := hs.symm
  have e5 : s + d3 = t := ht.symm
  rw [e4, e5]
  clear hs ht h1 h2 h3 b1 b2 b3
  go_enter Tryz.func67, Tryz.ntmps67
  go_upto_region 1 with (fail)
  obtain ⟨W1, hW1⟩ : ∃ W, W = (w.alloc (.cells #[.int .i64 x, .int .i64 y, .int .i64 z] 23)).alloc (.cells #[.int .i64 a, .int .i64 b, .int .i64 c] 23) := ⟨_, rfl⟩
  obtain ⟨k_v, k_u, B1⟩ := st2 hW1
  rw [← hW1]
  clear hW1
  have l_u : w.heap.size < w.heap.size + 1 := by omega
  generalize w.heap.size + 1 = g_u at *
  obtain ⟨c_v_0, c_v_1, c_v_2⟩ := bwc3 (k_v)
  obtain ⟨c_u_0, c_u_1, c_u_2⟩ := bwc3 (k_u)
  obtain ⟨p1, hp1⟩ : ∃ p : BW W1, p.w = W1 := ⟨BW.start W1, rfl⟩
  rw [← hp1]
  clear hp1
  go_upto_region 2 with (first
    | (go_at_call 53; (first | (with_reducible refine (bw_call K.out _).mono ?_)); rintro e w' ⟨rfl, q, rfl⟩))
  obtain ⟨W2, hW2⟩ : ∃ W, W = q.w.alloc (.cells #[.int .i64 d1, .int .i64 d2, .int .i64 d3] 23) := ⟨_, rfl⟩
  have B2 : Below w.heap.size w W2 := by rw [hW2]; exact (bw_below B1 q).alloc (bw_below B1 q).size _
  have l_l : g_u < q.w.heap.size := (k_u.below q.h).lt
  have o_l : w.heap.size ≤ q.w.heap.size := (bw_below B1 q).size
  have k_v := bka hW2 (k_v.below q.h)
  have k_u := bka hW2 (k_u.below q.h)
  have k_l := bkn hW2
  rw [← hW2]
  clear hW2
  clear B1
  clear c_v_0 c_v_1 c_v_2 c_u_0 c_u_1 c_u_2
  generalize q.w.heap.size = g_l at *
  obtain ⟨c_v_0, c_v_1, c_v_2⟩ := bwc3 (k_v)
  obtain ⟨c_u_0, c_u_1, c_u_2⟩ := bwc3 (k_u)
  obtain ⟨c_l_0, c_l_1, c_l_2⟩ := bwc3 (k_l)
  obtain ⟨p2, hp2⟩ : ∃ p : BW W2, p.w = W2 := ⟨BW.start W2, rfl⟩
  rw [← hp2]
  clear hp2
  go_wp2
  go_ret
  exact ⟨ret_int (by first | rfl | simp only [w5]), bw_below B2 p2⟩

theorem vec_Near (x y z : Int) (w : World) :
    Calls Tryz.prog 28 #[.agg #[.int .i64 x, .int .i64 y, .int .i64 z]] w fun r w' => r = .returned (.bool (vnear x y z)) ∧ Below w.heap.size w w' := by
  have K := Lib.hid (fun w => vec_within 1048576 x y z w (by omega))
  unfold vnear
  generalize wi 1048576 x y z = r at *
  have hb0 : Below w.heap.size w (w.alloc (.cells #[.int .i64 x, .int .i64 y, .int .i64 z] 23)) := by go_grown
  go_enter Tryz.func28, Tryz.ntmps28
  go_wp2_with (go_at_call 55; (with_reducible refine (K.out _).mono ?_); rintro e w1 ⟨rfl, hb⟩)
  go_ret
  exact ⟨rfl, hb0.trans (hb.mono hb0.size)⟩

set_option maxRecDepth 100000 in
theorem vec_normalize (x y z : Int) (w : World) (h : Evb x y z) :
    Calls Tryz.prog 80 #[.agg #[.int .i64 x, .int .i64 y, .int .i64 z]] w fun e w' => e = .returned (.agg #[.int .i64 (evn x y z).1, .int .i64 (evn x y z).2.1, .int .i64 (evn x y z).2.2]) ∧ Below w.heap.size w w' := by
  obtain ⟨E, hE⟩ : ∃ E, E = evn x y z := ⟨_, rfl⟩
  rw [← hE]
  obtain ⟨D, hD⟩ : ∃ D, D = dbl x y z := ⟨_, rfl⟩
  have hED : E = halN 44 D.1 D.2.1 D.2.2 := by rw [hE, hD]; rfl
  go_enter Tryz.func80, Tryz.ntmps80
  go_wp2
  have hs : Box3 w ((w.alloc (.cells #[.int .i64 x, .int .i64 y, .int .i64 z] 23)).alloc (.cells #[.int .i64 0, .int .i64 0, .int .i64 0] 23)) w.heap.size (w.heap.size + 1) 23 x y z :=
    ⟨((Below.refl _ _).alloc (Nat.le_refl _) _).alloc (by simp) _, (Bk.new w _ _).alloc _, Bk.new_at _ _ _ _ (by simp)⟩
  go_loopw [] (fun wr => ∃ k : Nat, ∃ x y z : Int, k ≤ 19 ∧ DblK (19 - k) x y z ∧ wi 4611686018427387904 x y z = true ∧ D = dblN (k + 1) x y z ∧ Box3 w wr w.heap.size (w.heap.size + 1) 23 x y z) (fun wr => 4194304 - sum3 wr w.heap.size)
  case atStart =>
    refine ⟨19, x, y, z, by omega, ?_, h.1, hD, hs⟩
    have := h.2
    rw [wi_no] at this
    unfold DblK
    simp
    omega
  case round =>
    clear hs h hE hD
    obtain ⟨k, x, y, z, hk, hd, hI, hD, hs⟩ := hrel
    have z1 : w.heap.size < w.heap.size + 1 := by omega
    have K1 := Lib.hid (fun w => vec_within 524287 x y z w (by omega))
    obtain ⟨c0, c1, c2⟩ := bw_bk3 hs.b0
    obtain ⟨p0, hp0⟩ : ∃ p0 : BW wr, p0.w = wr := ⟨BW.start wr, rfl⟩
    rw [← hp0]
    clear hp0
    have f0 : ∀ p : BW wr, p.w.frozen? ⟨w.heap.size, 0, none⟩ = false := fun p => (hs.b0.below p.h).frozen 0
    have f1 : ∀ p : BW wr, p.w.frozen? ⟨w.heap.size, 1, none⟩ = false := fun p => (hs.b0.below p.h).frozen 1
    have f2 : ∀ p : BW wr, p.w.frozen? ⟨w.heap.size, 2, none⟩ = false := fun p => (hs.b0.below p.h).frozen 2
    by_cases hw : wi 524287 x y z = true
    · rw [hw] at K1
      have HS := Lib.hid hs
      have HW := Lib.hid hw
      have HD := Lib.hid hD
      have HK := Lib.hid hd
      rw [wi_iff] at hw
      have K2 := Lib.hid (fun w => vec_each 97 #[] x y z (2 * x) (2 * y) (2 * z) w (enters_of Tryz.func97 (by kernel_rfl) rfl)
        (fun w' _ => by simpa using vec_double x w' (by omega)) (fun w' _ => by simpa using vec_double y w' (by omega)) (fun w' _ => by simpa using vec_double z w' (by omega)))
      obtain ⟨x', hx'⟩ : ∃ x', x' = 2 * x := ⟨_, rfl⟩
      obtain ⟨y', hy'⟩ : ∃ y', y' = 2 * y := ⟨_, rfl⟩
      obtain ⟨z', hz'⟩ : ∃ z', z' = 2 * z := ⟨_, rfl⟩
      rw [← hx', ← hy', ← hz'] at K2
      have HX : Hid (x' = 2 * x ∧ y' = 2 * y ∧ z' = 2 * z) := Lib.hid ⟨hx', hy', hz'⟩
      clear hx' hy' hz' hw hs hD hd hI
      go_wp2_with (first
        | (go_at_call 55; (with_reducible refine (bw_call K1.out _).mono ?_); rintro e w' ⟨rfl, q, rfl⟩)
        | (go_at_call 50; (with_reducible refine (bw_call K2.out _).mono ?_); rintro e w' ⟨rfl, q, rfl⟩))
      go_roundw
      case rel =>
        obtain ⟨rfl, rfl, rfl⟩ := HX.out
        have hw := wi_iff.1 HW.out
        have hd := HK.out
        have hk1 : 1 ≤ k := by
          rcases Nat.eq_zero_or_pos k with rfl | hk
          · unfold DblK at hd; have : (2 : Nat) ^ (19 - 0) = 524288 := rfl; omega
          · exact hk
        obtain ⟨j, rfl⟩ : ∃ j, k = j + 1 := ⟨k - 1, by omega⟩
        refine ⟨j, 2 * x, 2 * y, 2 * z, by omega, ?_, ?_, ?_, box3_next q HS.out (Nat.le_refl _) z1⟩
        · unfold DblK at hd ⊢
          rw [show 19 - j = (19 - (j + 1)) + 1 by omega, Nat.pow_succ]
          omega
        · rw [wi_iff]; omega
        · rw [HD.out, dblN, if_pos HW.out]
      case measure =>
        obtain ⟨rfl, rfl, rfl⟩ := HX.out
        have hw := wi_iff.1 HW.out
        have hd := HK.out
        rw [sum3_of (HS.out.b0.below p0.h), sum3_of (box3_next q HS.out (Nat.le_refl _) z1).b0]
        have : 1 ≤ 2 ^ (19 - k) := Nat.two_pow_pos _
        unfold DblK at hd
        omega
    · rw [Bool.not_eq_true] at hw
      rw [hw] at K1
      rw [dblN_same _ _ _ _ hw] at hD
      subst hD
      have HS := Lib.hid hs
      have HE : Hid (∃ k, k ≤ 44 ∧ E = halN k x y z ∧ x.natAbs < 2 ^ (k + 20) ∧ y.natAbs < 2 ^ (k + 20) ∧ z.natAbs < 2 ^ (k + 20)) := Lib.hid ⟨44, by omega, hED, by
        rw [wi_iff] at hI
        have : (2 : Nat) ^ (44 + 20) = 18446744073709551616 := rfl
        omega⟩
      have HW := Lib.hid hw
      have HI := Lib.hid hI
      clear hw hs hd hI hED
      go_wp2_with (go_at_call 55; (with_reducible refine (bw_call K1.out _).mono ?_); rintro e w' ⟨rfl, q, rfl⟩)
      have hs : Box3 w q.w w.heap.size (w.heap.size + 1) 23 x y z := ⟨bw_below HS.out.h q, HS.out.b0.below q.h, HS.out.b1.below q.h⟩
      go_loopw [] (fun wr => ∃ k : Nat, ∃ x y z : Int, k ≤ 44 ∧ E = halN k x y z ∧ x.natAbs < 2 ^ (k + 20) ∧ y.natAbs < 2 ^ (k + 20) ∧ z.natAbs < 2 ^ (k + 20) ∧ wi 4611686018427387904 x y z = true ∧ Box3 w wr w.heap.size (w.heap.size + 1) 23 x y z) (fun wr => sum3 wr w.heap.size)
      case atStart =>
        obtain ⟨k, h1, h2, h3, h4, h5⟩ := HE.out
        exact ⟨k, x, y, z, h1, h2, h3, h4, h5, HI.out, hs⟩
      case round =>
        clear hs HS HE HW HI c0 c1 c2 f0 f1 f2 K1
        obtain ⟨k, x, y, z, hk, hE, n1, n2, n3, hI, hs⟩ := hrel
        have K1 := Lib.hid (fun w => vec_within 1048575 x y z w (by omega))
        obtain ⟨c0, c1, c2⟩ := bw_bk3 hs.b0
        have f0 : ∀ p : BW wr, p.w.frozen? ⟨w.heap.size, 0, none⟩ = false := fun p => (hs.b0.below p.h).frozen 0
        have f1 : ∀ p : BW wr, p.w.frozen? ⟨w.heap.size, 1, none⟩ = false := fun p => (hs.b0.below p.h).frozen 1
        have f2 : ∀ p : BW wr, p.w.frozen? ⟨w.heap.size, 2, none⟩ = false := fun p => (hs.b0.below p.h).frozen 2
        obtain ⟨c3, c4, c5⟩ := bw_bk3 hs.b1
        have f3 : ∀ p : BW wr, p.w.frozen? ⟨w.heap.size + 1, 0, none⟩ = false := fun p => (hs.b1.below p.h).frozen 0
        have f4 : ∀ p : BW wr, p.w.frozen? ⟨w.heap.size + 1, 1, none⟩ = false := fun p => (hs.b1.below p.h).frozen 1
        have f5 : ∀ p : BW wr, p.w.frozen? ⟨w.heap.size + 1, 2, none⟩ = false := fun p => (hs.b1.below p.h).frozen 2
        obtain ⟨p1, hp1⟩ : ∃ p1 : BW wr, p1.w = wr := ⟨BW.start wr, rfl⟩
        rw [← hp1]
        clear hp1
        have HS := Lib.hid hs
        by_cases hw : wi 1048575 x y z = true
        · rw [hw] at K1
          rw [halN_same _ _ _ _ hw] at hE
          subst hE
          clear hw hs hI n1 n2 n3
          go_wp2_with (go_at_call 55; (with_reducible refine (bw_call K1.out _).mono ?_); rintro e w' ⟨rfl, q, rfl⟩)
          obtain ⟨k0, k1, k2, k3⟩ := (HS.out.b1.below q.h).put3 (.int .i64 x) (.int .i64 y) (.int .i64 z)
          exact bodyPost_ret (v := .agg #[.int .i64 x, .int .i64 y, .int .i64 z]) (by simp [results, Tryz.results80, go_sem, k0, k1, k2]) rfl
            ⟨rfl, (((bw_below HS.out.h q).setCell (p := ⟨w.heap.size + 1, 0, none⟩) (by show _ ≤ w.heap.size + 1; omega) _).setCell (p := ⟨w.heap.size + 1, 1, none⟩) (by show _ ≤ w.heap.size + 1; omega) _).setCell (p := ⟨w.heap.size + 1, 2, none⟩) (by show _ ≤ w.heap.size + 1; omega) _⟩
        · have HW := Lib.hid hw
          rw [Bool.not_eq_true] at hw
          rw [hw] at K1
          have hI' := wi_iff.1 hI
          have K2 := Lib.hid (fun w => vec_each 98 #[] x y z (x.tdiv 2) (y.tdiv 2) (z.tdiv 2) w (enters_of Tryz.func98 (by kernel_rfl) rfl)
            (fun w' _ => by simpa using vec_halve x w' (by unfold I64; omega)) (fun w' _ => by simpa using vec_halve y w' (by unfold I64; omega)) (fun w' _ => by simpa using vec_halve z w' (by unfold I64; omega)))
          have HE := Lib.hid hE
          have HN := Lib.hid (show x.natAbs < 2 ^ (k + 20) ∧ y.natAbs < 2 ^ (k + 20) ∧ z.natAbs < 2 ^ (k + 20) from ⟨n1, n2, n3⟩)
          have HI := Lib.hid hI
          obtain ⟨x', hx'⟩ : ∃ x', x' = x.tdiv 2 := ⟨_, rfl⟩
          obtain ⟨y', hy'⟩ : ∃ y', y' = y.tdiv 2 := ⟨_, rfl⟩
          obtain ⟨z', hz'⟩ : ∃ z', z' = z.tdiv 2 := ⟨_, rfl⟩
          rw [← hx', ← hy', ← hz'] at K2
          have HX : Hid (x' = x.tdiv 2 ∧ y' = y.tdiv 2 ∧ z' = z.tdiv 2) := Lib.hid ⟨hx', hy', hz'⟩
          clear hx' hy' hz' hw hs hE hI hI' n1 n2 n3
          go_wp2_with (first
            | (go_at_call 55; (with_reducible refine (bw_call K1.out _).mono ?_); rintro e w' ⟨rfl, q, rfl⟩)
            | (go_at_call 50; (with_reducible refine (bw_call K2.out _).mono ?_); rintro e w' ⟨rfl, q, rfl⟩))
          go_roundw
          case rel =>
            obtain ⟨rfl, rfl, rfl⟩ := HX.out
            have hw := HW.out
            rw [wi_iff] at hw
            obtain ⟨n1, n2, n3⟩ := HN.out
            have t : ∀ v : Int, (v.tdiv 2).natAbs = v.natAbs / 2 := fun v => by rw [Int.natAbs_tdiv]; rfl
            have tx := t x; have ty := t y; have tz := t z
            have hk1 : 1 ≤ k := by
              rcases Nat.eq_zero_or_pos k with rfl | hk
              · rw [Nat.zero_add] at n1 n2 n3
                have : (2 : Nat) ^ 20 = 1048576 := rfl
                omega
              · exact hk
            obtain ⟨j, rfl⟩ : ∃ j, k = j + 1 := ⟨k - 1, by omega⟩
            rw [show j + 1 + 20 = (j + 20) + 1 by omega, Nat.pow_succ] at n1 n2 n3
            have hI := HI.out
            rw [wi_iff] at hI
            refine ⟨j, x.tdiv 2, y.tdiv 2, z.tdiv 2, by omega, ?_, by omega, by omega, by omega, ?_, box3_next q HS.out (Nat.le_refl _) z1⟩
            · rw [HE.out, halN, if_neg HW.out]
            · rw [wi_iff]; omega
          case measure =>
            obtain ⟨rfl, rfl, rfl⟩ := HX.out
            have hw := HW.out
            rw [wi_iff] at hw
            have t : ∀ v : Int, (v.tdiv 2).natAbs = v.natAbs / 2 := fun v => by rw [Int.natAbs_tdiv]; rfl
            have tx := t x; have ty := t y; have tz := t z
            rw [sum3_of (HS.out.b0.below p1.h), sum3_of (box3_next q HS.out (Nat.le_refl _) z1).b0]
            omega

end
end Go.Proofs.YtdmfmdekcojjbaaGreat

namespace Go.Proofs.YtdmfmdekcojjbaaGreat
section
open Go.RowKit Go.Shelf Go.Shelf Go.Proofs.Sky
set_option linter.unusedVariables false

theorem vcr_small (x y z a b c : Int) : (-2199023255552 ≤ (vcr x y z a b c).1 ∧ (vcr x y z a b c).1 ≤ 2199023255552) ∧ (-2199023255552 ≤ (vcr x y z a b c).2.1 ∧ (vcr x y z a b c).2.1 ≤ 2199023255552) ∧ (-2199023255552 ≤ (vcr x y z a b c).2.2 ∧ (vcr x y z a b c).2.2 ≤ 2199023255552) := by
  unfold vcr
  split
  · rename_i h
    obtain ⟨h1, h2⟩ := h
    rw [vnear_iff] at h1 h2
    have p1 := near_mul (x := y) (a := c) (by omega) (by omega)
    have p2 := near_mul (x := z) (a := b) (by omega) (by omega)
    have p3 := near_mul (x := z) (a := a) (by omega) (by omega)
    have p4 := near_mul (x := x) (a := c) (by omega) (by omega)
    have p5 := near_mul (x := x) (a := b) (by omega) (by omega)
    have p6 := near_mul (x := y) (a := a) (by omega) (by omega)
    dsimp only
    omega
  · dsimp only; omega
theorem vvol_of (x y z a b c d e f : Int) : vvol x y z a b c d e f = if vnear x y z = true then x * (vcr a b c d e f).1 + y * (vcr a b c d e f).2.1 + z * (vcr a b c d e f).2.2 else 0 := by
  unfold vvol vcr
  by_cases h : vnear x y z = true
  · by_cases h2 : vnear a b c = true ∧ vnear d e f = true
    · rw [if_pos ⟨h, h2.1, h2.2⟩, if_pos h, if_pos h2]
    · rw [if_neg (fun g => h2 ⟨g.2.1, g.2.2⟩), if_pos h, if_neg h2]
      simp
  · rw [if_neg (fun g => h g.1), if_neg h]

set_option maxRecDepth 100000 in
set_option maxHeartbeats 4000000 in
theorem vec_Add (x y z a b c : Int) (w : World) (hx : I64 x) (hy : I64 y) (hz : I64 z) (ha : I64 a) (hb : I64 b) (hc : I64 c) :
    Calls Tryz.prog 27 #[.agg #[.int .i64 x, .int .i64 y, .int .i64 z], .agg #[.int .i64 a, .int .i64 b, .int .i64 c]] w fun r w' => r = .returned (.agg #[.int .i64 (sat (x + a)), .int .i64 (sat (y + b)), .int .i64 (sat (z + c))]) ∧ Below w.heap.size w w' := by
  have K := Lib.hid (fun w => vec_pair 54 #[] x y z a b c (sat (x + a)) (sat (y + b)) (sat (z + c)) w (enters_of Tryz.func54 (by kernel_rfl) rfl)
    (fun w' _ => by simpa using below_of_same (fun w => num_Plus x a w hx ha) w')
    (fun w' _ => by simpa using below_of_same (fun w => num_Plus y b w hy hb) w')
    (fun w' _ => by simpa using below_of_same (fun w => num_Plus z c w hz hc) w'))
  clear hx hy hz ha hb hc
  generalize sat (x + a) = r1 at *
  generalize sat (y + b) = r2 at *
  generalize sat (z + c) = r3 at *
  go_enter Tryz.func27, Tryz.ntmps27
  go_upto_region 1 with (fail)
  obtain ⟨W1, hW1⟩ : ∃ W, W = ((w.alloc (.cells #[.int .i64 x, .int .i64 y, .int .i64 z] 23)).alloc (.cells #[.int .i64 a, .int .i64 b, .int .i64 c] 23)).alloc (.cells #[.int .i64 0, .int .i64 0, .int .i64 0] 23) := ⟨_, rfl⟩
  obtain ⟨k_v, k_u, k_r, B1⟩ := st3 hW1
  rw [← hW1]
  clear hW1
  have l_u : w.heap.size < w.heap.size + 1 := by omega
  have l_r : w.heap.size + 1 < w.heap.size + 1 + 1 := by omega
  generalize w.heap.size + 1 + 1 = g_r at *
  generalize w.heap.size + 1 = g_u at *
  obtain ⟨c_v_0, c_v_1, c_v_2⟩ := bwc3 (k_v)
  obtain ⟨c_u_0, c_u_1, c_u_2⟩ := bwc3 (k_u)
  obtain ⟨c_r_0, c_r_1, c_r_2⟩ := bwc3 (k_r)
  obtain ⟨f_r_0, f_r_1, f_r_2⟩ := bwf3 (k_r)
  obtain ⟨p1, hp1⟩ : ∃ p : BW W1, p.w = W1 := ⟨BW.start W1, rfl⟩
  rw [← hp1]
  clear hp1
  go_wp2_with (first
    | (go_at_call 53; (first | (with_reducible refine (bw_call K.out _).mono ?_)); rintro e w' ⟨rfl, q, rfl⟩))
  have kr := bkp3 (k_r.below q.h) (.int .i64 r1) (.int .i64 r2) (.int .i64 r3)
  obtain ⟨rc0, rc1, rc2⟩ := rwc3 kr
  exact bodyPost_ret (v := .agg #[.int .i64 r1, .int .i64 r2, .int .i64 r3]) (by simp [results, Tryz.results27, go_sem, rc0, rc1, rc2]) rfl ⟨rfl, blp3 (bw_below B1 q) (by omega)⟩

set_option maxRecDepth 100000 in
set_option maxHeartbeats 4000000 in
theorem vec_Sub (x y z a b c : Int) (w : World) (hx : I64 x) (hy : I64 y) (hz : I64 z) (ha : I64 a) (hb : I64 b) (hc : I64 c) :
    Calls Tryz.prog 26 #[.agg #[.int .i64 x, .int .i64 y, .int .i64 z], .agg #[.int .i64 a, .int .i64 b, .int .i64 c]] w fun r w' => r = .returned (.agg #[.int .i64 (vsub x a), .int .i64 (vsub y b), .int .i64 (vsub z c)]) ∧ Below w.heap.size w w' := by
  have K := Lib.hid (fun w => vec_each 51 #[] a b c (sat (a * -1)) (sat (b * -1)) (sat (c * -1)) w (enters_of Tryz.func51 (by kernel_rfl) rfl)
    (fun w' _ => by simpa using vec_turned a w' ha)
    (fun w' _ => by simpa using vec_turned b w' hb)
    (fun w' _ => by simpa using vec_turned c w' hc))
  have A := Lib.hid (fun w => vec_Add x y z (sat (a * -1)) (sat (b * -1)) (sat (c * -1)) w hx hy hz (sat_I64 _) (sat_I64 _) (sat_I64 _))
  unfold vsub
  clear hx hy hz ha hb hc
  generalize sat (a * -1) = a' at *
  generalize sat (b * -1) = b' at *
  generalize sat (c * -1) = c' at *
  generalize sat (x + a') = r1 at *
  generalize sat (y + b') = r2 at *
  generalize sat (z + c') = r3 at *
  go_enter Tryz.func26, Tryz.ntmps26
  go_upto_region 1 with (fail)
  obtain ⟨W1, hW1⟩ : ∃ W, W = ((w.alloc (.cells #[.int .i64 x, .int .i64 y, .int .i64 z] 23)).alloc (.cells #[.int .i64 a, .int .i64 b, .int .i64 c] 23)).alloc (.cells #[.int .i64 0, .int .i64 0, .int .i64 0] 23) := ⟨_, rfl⟩
  obtain ⟨k_v, k_u, k_r, B1⟩ := st3 hW1
  rw [← hW1]
  clear hW1
  have l_u : w.heap.size < w.heap.size + 1 := by omega
  have l_r : w.heap.size + 1 < w.heap.size + 1 + 1 := by omega
  generalize w.heap.size + 1 + 1 = g_r at *
  generalize w.heap.size + 1 = g_u at *
  obtain ⟨c_v_0, c_v_1, c_v_2⟩ := bwc3 (k_v)
  obtain ⟨c_u_0, c_u_1, c_u_2⟩ := bwc3 (k_u)
  obtain ⟨c_r_0, c_r_1, c_r_2⟩ := bwc3 (k_r)
  obtain ⟨f_r_0, f_r_1, f_r_2⟩ := bwf3 (k_r)
  obtain ⟨p1, hp1⟩ : ∃ p : BW W1, p.w = W1 := ⟨BW.start W1, rfl⟩
  rw [← hp1]
  clear hp1
  refine wp_region_bw_tail 4 (by kernel_rfl) (by kernel_rfl) (by kernel_rfl) ?_
  simp only [List.take_succ_cons, List.take_zero, List.drop_succ_cons, List.drop_zero]
  repeat (go_big_quiet_step (first
    | (go_at_call 50; (first | (with_reducible exact bw_call K.out _)))
    | (go_at_call 27; (first | (with_reducible exact bw_call A.out _)))))
  refine wpQuiet_nil ?_
  intro _ hw'
  obtain ⟨q, rfl⟩ := hw'
  go_wp2
  have kr := bkp3 (k_r.below q.h) (.int .i64 r1) (.int .i64 r2) (.int .i64 r3)
  obtain ⟨rc0, rc1, rc2⟩ := rwc3 kr
  exact bodyPost_ret (v := .agg #[.int .i64 r1, .int .i64 r2, .int .i64 r3]) (by simp [results, Tryz.results26, go_sem, rc0, rc1, rc2]) rfl ⟨rfl, blp3 (bw_below B1 q) (by omega)⟩

set_option maxRecDepth 100000 in
set_option maxHeartbeats 4000000 in
theorem vec_Dot_no (x y z a b c : Int) (w : World) (h : ¬ (vnear x y z = true ∧ vnear a b c = true)) :
    Calls Tryz.prog 69 #[.agg #[.int .i64 x, .int .i64 y, .int .i64 z], .agg #[.int .i64 a, .int .i64 b, .int .i64 c]] w fun r w' => r = .returned (.int .i64 0) ∧ Below w.heap.size w w' := by
  have K1 := Lib.hid (fun w => vec_Near x y z w)
  have K2 := Lib.hid (fun w => vec_Near a b c w)
  generalize vnear x y z = n1 at *
  generalize vnear a b c = n2 at *
  cases n1 <;> cases n2
  case true.true => exact absurd ⟨rfl, rfl⟩ h
  all_goals
    clear h
    go_enter Tryz.func69, Tryz.ntmps69
    go_upto_region 1 with (fail)
    obtain ⟨W1, hW1⟩ : ∃ W, W = (w.alloc (.cells #[.int .i64 x, .int .i64 y, .int .i64 z] 23)).alloc (.cells #[.int .i64 a, .int .i64 b, .int .i64 c] 23) := ⟨_, rfl⟩
    obtain ⟨k_v, k_u, B1⟩ := st2 hW1
    rw [← hW1]
    clear hW1
    have l_u : w.heap.size < w.heap.size + 1 := by omega
    generalize w.heap.size + 1 = g_u at *
    obtain ⟨c_v_0, c_v_1, c_v_2⟩ := bwc3 (k_v)
    obtain ⟨c_u_0, c_u_1, c_u_2⟩ := bwc3 (k_u)
    obtain ⟨p1, hp1⟩ : ∃ p : BW W1, p.w = W1 := ⟨BW.start W1, rfl⟩
    rw [← hp1]
    clear hp1
    go_wp2_with (first
      | (go_at_call 28; (first | (with_reducible refine (bw_call K1.out _).mono ?_) | (with_reducible refine (bw_call K2.out _).mono ?_)); rintro e w' ⟨rfl, q, rfl⟩))
    go_ret
    exact ⟨rfl, bw_below B1 q⟩

set_option maxRecDepth 100000 in
set_option maxHeartbeats 4000000 in
theorem vec_Dot (x y z a b c : Int) (w : World) :
    Calls Tryz.prog 69 #[.agg #[.int .i64 x, .int .i64 y, .int .i64 z], .agg #[.int .i64 a, .int .i64 b, .int .i64 c]] w fun r w' => r = .returned (.int .i64 (vdot x y z a b c)) ∧ Below w.heap.size w w' := by
  by_cases h : vnear x y z = true ∧ vnear a b c = true
  · have K1 := Lib.hid (fun w => vec_Near x y z w)
    have K2 := Lib.hid (fun w => vec_Near a b c w)
    unfold vdot
    rw [if_pos h]
    rw [h.1] at K1
    rw [h.2] at K2
    obtain ⟨h1, h2⟩ := h
    rw [vnear_iff] at h1 h2
    have p1 := near_mul (x := x) (a := a) (by omega) (by omega)
    have p2 := near_mul (x := y) (a := b) (by omega) (by omega)
    have p3 := near_mul (x := z) (a := c) (by omega) (by omega)
    have K := Lib.hid (fun w => vec_product x y z a b c _ _ _ w rfl rfl rfl (by omega) (by omega) (by omega))
    generalize x * a + y * b + z * c = r at *
    clear h1 h2 p1 p2 p3
    go_enter Tryz.func69, Tryz.ntmps69
    go_upto_region 1 with (fail)
    obtain ⟨W1, hW1⟩ : ∃ W, W = (w.alloc (.cells #[.int .i64 x, .int .i64 y, .int .i64 z] 23)).alloc (.cells #[.int .i64 a, .int .i64 b, .int .i64 c] 23) := ⟨_, rfl⟩
    obtain ⟨k_v, k_u, B1⟩ := st2 hW1
    rw [← hW1]
    clear hW1
    have l_u : w.heap.size < w.heap.size + 1 := by omega
    generalize w.heap.size + 1 = g_u at *
    obtain ⟨c_v_0, c_v_1, c_v_2⟩ := bwc3 (k_v)
    obtain ⟨c_u_0, c_u_1, c_u_2⟩ := bwc3 (k_u)
    obtain ⟨p1, hp1⟩ : ∃ p : BW W1, p.w = W1 := ⟨BW.start W1, rfl⟩
    rw [← hp1]
    clear hp1
    go_wp2_with (first
      | (go_at_call 28; (first | (with_reducible refine (bw_call K1.out _).mono ?_) | (with_reducible refine (bw_call K2.out _).mono ?_)); rintro e w' ⟨rfl, q, rfl⟩)
      | (go_at_call 67; (first | (with_reducible refine (bw_call K.out _).mono ?_)); rintro e w' ⟨rfl, q, rfl⟩))
    go_ret
    exact ⟨rfl, bw_below B1 q⟩
  · have e : vdot x y z a b c = 0 := by unfold vdot; rw [if_neg h]
    rw [e]
    exact vec_Dot_no x y z a b c w h

set_option maxRecDepth 100000 in
set_option maxHeartbeats 4000000 in
theorem vec_Cross_no (x y z a b c : Int) (w : World) (h : ¬ (vnear x y z = true ∧ vnear a b c = true)) :
    Calls Tryz.prog 68 #[.agg #[.int .i64 x, .int .i64 y, .int .i64 z], .agg #[.int .i64 a, .int .i64 b, .int .i64 c]] w fun r w' => r = .returned (.agg #[.int .i64 0, .int .i64 0, .int .i64 0]) ∧ Below w.heap.size w w' := by
  have K1 := Lib.hid (fun w => vec_Near x y z w)
  have K2 := Lib.hid (fun w => vec_Near a b c w)
  generalize vnear x y z = n1 at *
  generalize vnear a b c = n2 at *
  cases n1 <;> cases n2
  case true.true => exact absurd ⟨rfl, rfl⟩ h
  all_goals
    clear h
    go_enter Tryz.func68, Tryz.ntmps68
    go_upto_region 1 with (fail)
    obtain ⟨W1, hW1⟩ : ∃ W, W = ((w.alloc (.cells #[.int .i64 x, .int .i64 y, .int .i64 z] 23)).alloc (.cells #[.int .i64 a, .int .i64 b, .int .i64 c] 23)).alloc (.cells #[.int .i64 0, .int .i64 0, .int .i64 0] 23) := ⟨_, rfl⟩
    obtain ⟨k_v, k_u, k_r, B1⟩ := st3 hW1
    rw [← hW1]
    clear hW1
    have l_u : w.heap.size < w.heap.size + 1 := by omega
    have l_r : w.heap.size + 1 < w.heap.size + 1 + 1 := by omega
    generalize w.heap.size + 1 + 1 = g_r at *
    generalize w.heap.size + 1 = g_u at *
    obtain ⟨c_v_0, c_v_1, c_v_2⟩ := bwc3 (k_v)
    obtain ⟨c_u_0, c_u_1, c_u_2⟩ := bwc3 (k_u)
    obtain ⟨c_r_0, c_r_1, c_r_2⟩ := bwc3 (k_r)
    obtain ⟨f_r_0, f_r_1, f_r_2⟩ := bwf3 (k_r)
    obtain ⟨p1, hp1⟩ : ∃ p : BW W1, p.w = W1 := ⟨BW.start W1, rfl⟩
    rw [← hp1]
    clear hp1
    go_wp2_with (first
      | (go_at_call 28; (first | (with_reducible refine (bw_call K1.out _).mono ?_) | (with_reducible refine (bw_call K2.out _).mono ?_)); rintro e w' ⟨rfl, q, rfl⟩))
    have kr := bkp3 (k_r.below q.h) (.int .i64 0) (.int .i64 0) (.int .i64 0)
    obtain ⟨rc0, rc1, rc2⟩ := rwc3 kr
    exact bodyPost_ret (v := .agg #[.int .i64 0, .int .i64 0, .int .i64 0]) (by simp [results, Tryz.results68, go_sem, rc0, rc1, rc2]) rfl ⟨rfl, blp3 (bw_below B1 q) (by omega)⟩

set_option maxRecDepth 100000 in
set_option maxHeartbeats 4000000 in
theorem vec_Cross (x y z a b c : Int) (w : World) :
    Calls Tryz.prog 68 #[.agg #[.int .i64 x, .int .i64 y, .int .i64 z], .agg #[.int .i64 a, .int .i64 b, .int .i64 c]] w fun r w' => r = .returned (.agg #[.int .i64 (vcr x y z a b c).1, .int .i64 (vcr x y z a b c).2.1, .int .i64 (vcr x y z a b c).2.2]) ∧ Below w.heap.size w w' := by
  by_cases h : vnear x y z = true ∧ vnear a b c = true
  · have K1 := Lib.hid (fun w => vec_Near x y z w)
    have K2 := Lib.hid (fun w => vec_Near a b c w)
    unfold vcr
    rw [if_pos h]
    dsimp only
    rw [h.1] at K1
    rw [h.2] at K2
    obtain ⟨h1, h2⟩ := h
    rw [vnear_iff] at h1 h2
    obtain ⟨p1, q1, r1, hr1, _, _, ⟨e11, e12, e13, w11, w12, w13, v11, v12, v13⟩⟩ := DifIn.make (x := y) (a := c) (y := z) (b := b) (by omega) (by omega) (by omega) (by omega)
    obtain ⟨p2, q2, r2, hr2, _, _, ⟨e21, e22, e23, w21, w22, w23, v21, v22, v23⟩⟩ := DifIn.make (x := z) (a := a) (y := x) (b := c) (by omega) (by omega) (by omega) (by omega)
    obtain ⟨p3, q3, r3, hr3, _, _, ⟨e31, e32, e33, w31, w32, w33, v31, v32, v33⟩⟩ := DifIn.make (x := x) (a := b) (y := y) (b := a) (by omega) (by omega) (by omega) (by omega)
    rw [← hr1, ← hr2, ← hr3]
    clear hr1 hr2 hr3 h1 h2
    go_enter Tryz.func68, Tryz.ntmps68
    go_upto_region 1 with (fail)
    obtain ⟨W1, hW1⟩ : ∃ W, W = ((w.alloc (.cells #[.int .i64 x, .int .i64 y, .int .i64 z] 23)).alloc (.cells #[.int .i64 a, .int .i64 b, .int .i64 c] 23)).alloc (.cells #[.int .i64 0, .int .i64 0, .int .i64 0] 23) := ⟨_, rfl⟩
    obtain ⟨k_v, k_u, k_r, B1⟩ := st3 hW1
    rw [← hW1]
    clear hW1
    have l_u : w.heap.size < w.heap.size + 1 := by omega
    have l_r : w.heap.size + 1 < w.heap.size + 1 + 1 := by omega
    generalize w.heap.size + 1 + 1 = g_r at *
    generalize w.heap.size + 1 = g_u at *
    obtain ⟨c_v_0, c_v_1, c_v_2⟩ := bwc3 (k_v)
    obtain ⟨c_u_0, c_u_1, c_u_2⟩ := bwc3 (k_u)
    obtain ⟨c_r_0, c_r_1, c_r_2⟩ := bwc3 (k_r)
    obtain ⟨f_r_0, f_r_1, f_r_2⟩ := bwf3 (k_r)
    obtain ⟨p1, hp1⟩ : ∃ p : BW W1, p.w = W1 := ⟨BW.start W1, rfl⟩
    rw [← hp1]
    clear hp1
    go_wp2_with (first
      | (go_at_call 28; (first | (with_reducible refine (bw_call K1.out _).mono ?_) | (with_reducible refine (bw_call K2.out _).mono ?_)); rintro e w' ⟨rfl, q, rfl⟩))
    have kr := bkp3 (k_r.below q.h) (.int .i64 r1) (.int .i64 r2) (.int .i64 r3)
    obtain ⟨rc0, rc1, rc2⟩ := rwc3 kr
    exact bodyPost_ret (v := .agg #[.int .i64 r1, .int .i64 r2, .int .i64 r3]) (by simp [results, Tryz.results68, go_sem, rc0, rc1, rc2]) rfl ⟨rfl, blp3 (bw_below B1 q) (by omega)⟩
  · have e : vcr x y z a b c = (0, 0, 0) := by unfold vcr; rw [if_neg h]
    rw [e]
    exact vec_Cross_no x y z a b c w h

set_option maxRecDepth 100000 in
set_option maxHeartbeats 4000000 in
theorem vec_Volume (x y z a b c d e f : Int) (w : World) :
    Calls Tryz.prog 44 #[.agg #[.int .i64 x, .int .i64 y, .int .i64 z], .agg #[.int .i64 a, .int .i64 b, .int .i64 c], .agg #[.int .i64 d, .int .i64 e, .int .i64 f]] w fun r w' => r = .returned (.int .i64 (vvol x y z a b c d e f)) ∧ Below w.heap.size w w' := by
  by_cases h : vnear x y z = true
  · have K1 := Lib.hid (fun w => vec_Near x y z w)
    rw [h] at K1
    rw [vvol_of, if_pos h]
    have C := Lib.hid (fun w => vec_Cross a b c d e f w)
    have s := vcr_small a b c d e f
    generalize vcr a b c d e f = u at *
    obtain ⟨u1, u2, u3⟩ := u
    dsimp only at *
    rw [vnear_iff] at h
    have p1 := near_mul3 (x := x) (a := u1) (by omega) (by omega)
    have p2 := near_mul3 (x := y) (a := u2) (by omega) (by omega)
    have p3 := near_mul3 (x := z) (a := u3) (by omega) (by omega)
    have K := Lib.hid (fun w => vec_product x y z u1 u2 u3 _ _ _ w rfl rfl rfl (by omega) (by omega) (by omega))
    generalize x * u1 + y * u2 + z * u3 = r at *
    clear h s p1 p2 p3
    go_enter Tryz.func44, Tryz.ntmps44
    go_upto_region 1 with (fail)
    obtain ⟨W1, hW1⟩ : ∃ W, W = ((w.alloc (.cells #[.int .i64 x, .int .i64 y, .int .i64 z] 23)).alloc (.cells #[.int .i64 a, .int .i64 b, .int .i64 c] 23)).alloc (.cells #[.int .i64 d, .int .i64 e, .int .i64 f] 23) := ⟨_, rfl⟩
    obtain ⟨k_v, k_u, k_t, B1⟩ := st3 hW1
    rw [← hW1]
    clear hW1
    have l_u : w.heap.size < w.heap.size + 1 := by omega
    have l_t : w.heap.size + 1 < w.heap.size + 1 + 1 := by omega
    generalize w.heap.size + 1 + 1 = g_t at *
    generalize w.heap.size + 1 = g_u at *
    obtain ⟨c_v_0, c_v_1, c_v_2⟩ := bwc3 (k_v)
    obtain ⟨c_u_0, c_u_1, c_u_2⟩ := bwc3 (k_u)
    obtain ⟨c_t_0, c_t_1, c_t_2⟩ := bwc3 (k_t)
    obtain ⟨p1, hp1⟩ : ∃ p : BW W1, p.w = W1 := ⟨BW.start W1, rfl⟩
    rw [← hp1]
    clear hp1
    go_upto_region 3 with (first
      | (go_at_call 28; (first | (with_reducible refine (bw_call K1.out _).mono ?_)); rintro e w' ⟨rfl, q, rfl⟩))
    refine wp_region_bw (by kernel_rfl) (by kernel_rfl) ?_
    repeat (go_big_quiet_step (first
      | (go_at_call 68; (first | (with_reducible exact bw_call C.out _)))
      | (go_at_call 67; (first | (with_reducible exact bw_call K.out _)))))
    refine wpQuiet_nil ?_
    intro _ hw'
    obtain ⟨q, rfl⟩ := hw'
    go_wp2
    go_ret
    exact ⟨rfl, bw_below B1 q⟩
  · have K1 := Lib.hid (fun w => vec_Near x y z w)
    rw [vvol_of, if_neg h]
    rw [Bool.not_eq_true] at h
    rw [h] at K1
    clear h
    go_enter Tryz.func44, Tryz.ntmps44
    go_upto_region 1 with (fail)
    obtain ⟨W1, hW1⟩ : ∃ W, W = ((w.alloc (.cells #[.int .i64 x, .int .i64 y, .int .i64 z] 23)).alloc (.cells #[.int .i64 a, .int .i64 b, .int .i64 c] 23)).alloc (.cells #[.int .i64 d, .int .i64 e, .int .i64 f] 23) := ⟨_, rfl⟩
    obtain ⟨k_v, k_u, k_t, B1⟩ := st3 hW1
    rw [← hW1]
    clear hW1
    have l_u : w.heap.size < w.heap.size + 1 := by omega
    have l_t : w.heap.size + 1 < w.heap.size + 1 + 1 := by omega
    generalize w.heap.size + 1 + 1 = g_t at *
    generalize w.heap.size + 1 = g_u at *
    obtain ⟨c_v_0, c_v_1, c_v_2⟩ := bwc3 (k_v)
    obtain ⟨c_u_0, c_u_1, c_u_2⟩ := bwc3 (k_u)
    obtain ⟨c_t_0, c_t_1, c_t_2⟩ := bwc3 (k_t)
    obtain ⟨p1, hp1⟩ : ∃ p : BW W1, p.w = W1 := ⟨BW.start W1, rfl⟩
    rw [← hp1]
    clear hp1
    go_wp2_with (first
      | (go_at_call 28; (first | (with_reducible refine (bw_call K1.out _).mono ?_)); rintro e w' ⟨rfl, q, rfl⟩))
    go_ret
    exact ⟨rfl, bw_below B1 q⟩

theorem vec_Len (x y z : Int) (w : World) :
    Calls Tryz.prog 81 #[.agg #[.int .i64 x, .int .i64 y, .int .i64 z]] w fun r w' => r = .returned (.int .i64 (vlen x y z)) ∧ Below w.heap.size w w' := by
  have D := Lib.hid (fun w => vec_Dot x y z x y z w)
  have hd := vdot_small x y z
  unfold vlen
  obtain ⟨n, hn⟩ := Int.eq_ofNat_of_zero_le hd.1
  rw [hn] at D hd ⊢
  have e1 : IntKind.u64.wrap (n : Int) = (n : Int) := by rw [u64w]; omega
  have R := Lib.hid (fun w => num_Root n w (by omega))
  rw [Int.toNat_natCast]
  generalize isq n = r at *
  clear hd hn
  go_enter Tryz.func81, Tryz.ntmps81
  go_upto_region 1 with (fail)
  obtain ⟨W1, hW1⟩ : ∃ W, W = w.alloc (.cells #[.int .i64 x, .int .i64 y, .int .i64 z] 23) := ⟨_, rfl⟩
  obtain ⟨k_v, B1⟩ := st1 hW1
  rw [← hW1]
  clear hW1
  obtain ⟨c_v_0, c_v_1, c_v_2⟩ := bwc3 (k_v)
  obtain ⟨p1, hp1⟩ : ∃ p : BW W1, p.w = W1 := ⟨BW.start W1, rfl⟩
  rw [← hp1]
  clear hp1
  go_wp2_with (first
    | (go_at_call 69; (with_reducible refine (bw_call D.out _).mono ?_); rintro e w' ⟨rfl, q, rfl⟩)
    | (go_at_call 90; (with_reducible refine (R.out _).mono ?_); rintro e w2 ⟨rfl, rfl⟩))
  go_ret
  exact ⟨rfl, bw_below B1 q⟩

set_option maxRecDepth 100000 in
set_option maxHeartbeats 4000000 in
theorem vec_Scale (x y z n d : Int) (w : World) (hx : I64 x) (hy : I64 y) (hz : I64 z) (hn : I64 n) (hd : I64 d) :
    Calls Tryz.prog 64 #[.agg #[.int .i64 x, .int .i64 y, .int .i64 z], .agg #[.int .i64 n, .int .i64 d]] w fun r w' => r = .returned (.agg #[.int .i64 (fat x n d), .int .i64 (fat y n d), .int .i64 (fat z n d)]) ∧ Below w.heap.size w w' := by
  obtain ⟨r1, hr1⟩ : ∃ t, t = fat x n d := ⟨_, rfl⟩
  obtain ⟨r2, hr2⟩ : ∃ t, t = fat y n d := ⟨_, rfl⟩
  obtain ⟨r3, hr3⟩ : ∃ t, t = fat z n d := ⟨_, rfl⟩
  rw [← hr1, ← hr2, ← hr3]
  go_enter Tryz.func64, Tryz.ntmps64
  go_upto_region 1 with (fail)
  obtain ⟨W1, hW1⟩ : ∃ W, W = ((w.alloc (.cells #[.int .i64 x, .int .i64 y, .int .i64 z] 23)).alloc (.cells #[.int .i64 n, .int .i64 d] 32)).alloc (.cells #[.int .i64 0, .int .i64 0, .int .i64 0] 23) := ⟨_, rfl⟩
  obtain ⟨k_v, k_f, k_r, B1⟩ := st3 hW1
  rw [← hW1]
  clear hW1
  have l_f : w.heap.size < w.heap.size + 1 := by omega
  have l_r : w.heap.size + 1 < w.heap.size + 1 + 1 := by omega
  generalize w.heap.size + 1 + 1 = g_r at *
  generalize w.heap.size + 1 = g_f at *
  obtain ⟨c_v_0, c_v_1, c_v_2⟩ := bwc3 (k_v)
  obtain ⟨c_f_0, c_f_1⟩ := bwc2 (k_f)
  obtain ⟨c_r_0, c_r_1, c_r_2⟩ := bwc3 (k_r)
  obtain ⟨f_r_0, f_r_1, f_r_2⟩ := bwf3 (k_r)
  obtain ⟨p1, hp1⟩ : ∃ p : BW W1, p.w = W1 := ⟨BW.start W1, rfl⟩
  rw [← hp1]
  clear hp1
  have hmf : ∀ (fn : Fn) (first cap : Array Value) (w : World), (Instr.makeFunc fn first cap).run Tryz.prog w = .ok (.func fn first cap) w := fun _ _ _ _ => rfl
  have KX : ∀ p : BW W1, Calls Tryz.prog 50 #[.agg #[.int .i64 x, .int .i64 y, .int .i64 z], .func (.func 83) #[] #[.pointer (some ⟨g_f, 0, none⟩)]] p.w fun e w' => e = .returned (.agg #[.int .i64 r1, .int .i64 r2, .int .i64 r3]) ∧ ∃ q : BW W1, w' = q.w :=
    fun p => (vec_each 83 #[.pointer (some ⟨g_f, 0, none⟩)] x y z r1 r2 r3 p.w (enters_of Tryz.func83 (by kernel_rfl) rfl)
      (fun w' hb => by rw [hr1]; simpa using vec_taken x n d g_f w' (c_f_0 (p.next w' hb)) (c_f_1 (p.next w' hb)) hx hn hd)
      (fun w' hb => by rw [hr2]; simpa using vec_taken y n d g_f w' (c_f_0 (p.next w' hb)) (c_f_1 (p.next w' hb)) hy hn hd)
      (fun w' hb => by rw [hr3]; simpa using vec_taken z n d g_f w' (c_f_0 (p.next w' hb)) (c_f_1 (p.next w' hb)) hz hn hd)).mono fun e w' ⟨he, hb⟩ => ⟨he, p.next w' hb, rfl⟩
  clear hx hy hz hn hd hr1 hr2 hr3
  go_wp2_with (go_at_call 50; (with_reducible refine (KX _).mono ?_); rintro e w' ⟨rfl, q, rfl⟩)
  have kr := bkp3 (k_r.below q.h) (.int .i64 r1) (.int .i64 r2) (.int .i64 r3)
  obtain ⟨rc0, rc1, rc2⟩ := rwc3 kr
  exact bodyPost_ret (v := .agg #[.int .i64 r1, .int .i64 r2, .int .i64 r3]) (by simp [results, Tryz.results64, go_sem, rc0, rc1, rc2]) rfl ⟨rfl, blp3 (bw_below B1 q) (by omega)⟩

set_option maxRecDepth 100000 in
set_option maxHeartbeats 4000000 in
theorem vec_Unit_yes_x (x y z : Int) (w : World) (h : vuOk x y z = true) (hd : ¬ x = 0) :
    Calls Tryz.prog 61 #[.agg #[.int .i64 x, .int .i64 y, .int .i64 z]] w fun r w' => r = .returned (.tuple #[.agg #[.int .i64 (vun (evn x y z)).1, .int .i64 (vun (evn x y z)).2.1, .int .i64 (vun (evn x y z)).2.2], .bool true]) ∧ Below w.heap.size w w' := by
  have h' := vuOk_iff.1 h
  have K1 := Lib.hid (fun w => vec_within 4611686018427387904 x y z w (by omega))
  rw [h'.1] at K1
  have E := Lib.hid (fun w => vec_normalize x y z w h')
  obtain ⟨s1, s2⟩ := evn_spec h'
  obtain ⟨L, hL, l1, l2, _, _⟩ := even_len s1 s2
  have N := Lib.hid (fun w => vec_Len (evn x y z).1 (evn x y z).2.1 (evn x y z).2.2 w)
  rw [hL] at N
  unfold vun
  rw [hL]
  rw [wi_iff] at s2
  generalize evn x y z = e at *
  obtain ⟨a, b, c⟩ := e
  dsimp only at *
  obtain ⟨r1, hr1⟩ : ∃ t, t = (a * 16384).tdiv (L : Int) := ⟨_, rfl⟩
  obtain ⟨r2, hr2⟩ : ∃ t, t = (b * 16384).tdiv (L : Int) := ⟨_, rfl⟩
  obtain ⟨r3, hr3⟩ : ∃ t, t = (c * 16384).tdiv (L : Int) := ⟨_, rfl⟩
  rw [← hr1, ← hr2, ← hr3]
  have hl : 1 ≤ (L : Int) ∧ (L : Int) ≤ 9223372036854775807 := by omega
  have q1 : -1048576 ≤ a ∧ a ≤ 1048576 := by omega
  have q2 : -1048576 ≤ b ∧ b ≤ 1048576 := by omega
  have q3 : -1048576 ≤ c ∧ c ≤ 1048576 := by omega
  generalize (L : Int) = l at *
  have HR := Lib.hid (And.intro hr1 (And.intro hr2 hr3))
  have HQ := Lib.hid (And.intro q1 (And.intro q2 (And.intro q3 hl)))
  clear h h' s1 s2 hL l1 l2 hr1 hr2 hr3 q1 q2 q3 hl
  go_enter Tryz.func61, Tryz.ntmps61
  go_upto_region 1 with (fail)
  obtain ⟨W1, hW1⟩ : ∃ W, W = (w.alloc (.cells #[.int .i64 x, .int .i64 y, .int .i64 z] 23)).alloc (.cells #[.int .i64 0, .int .i64 0, .int .i64 0] 23) := ⟨_, rfl⟩
  obtain ⟨k_v, k_r, B1⟩ := st2 hW1
  rw [← hW1]
  clear hW1
  have l_r : w.heap.size < w.heap.size + 1 := by omega
  generalize w.heap.size + 1 = g_r at *
  obtain ⟨c_v_0, c_v_1, c_v_2⟩ := bwc3 (k_v)
  obtain ⟨f_v_0, f_v_1, f_v_2⟩ := bwf3 (k_v)
  obtain ⟨c_r_0, c_r_1, c_r_2⟩ := bwc3 (k_r)
  obtain ⟨f_r_0, f_r_1, f_r_2⟩ := bwf3 (k_r)
  obtain ⟨p1, hp1⟩ : ∃ p : BW W1, p.w = W1 := ⟨BW.start W1, rfl⟩
  rw [← hp1]
  clear hp1
  go_upto_region 3 with (first
    | (go_at_call 55; (first | (with_reducible refine (bw_call K1.out _).mono ?_)); rintro e w' ⟨rfl, q, rfl⟩))
  go_upto_region 4 with (first
    | (go_at_call 80; (first | (with_reducible refine (bw_call E.out _).mono ?_)); rintro e w' ⟨rfl, q, rfl⟩))
  obtain ⟨W2, hW2⟩ : ∃ W, W = ((q.w.setCell ⟨w.heap.size, 0, none⟩ (.int .i64 a)).setCell ⟨w.heap.size, 1, none⟩ (.int .i64 b)).setCell ⟨w.heap.size, 2, none⟩ (.int .i64 c) := ⟨_, rfl⟩
  have B2 : Below w.heap.size w W2 := by rw [hW2]; exact blp3 (bw_below B1 q) (by omega)
  have k_v := bkpe3 hW2 (k_v.below q.h)
  have k_r := bkoe3 hW2 (k_r.below q.h) (by omega)
  rw [← hW2]
  clear hW2
  clear B1
  clear c_v_0 c_v_1 c_v_2 f_v_0 f_v_1 f_v_2 c_r_0 c_r_1 c_r_2 f_r_0 f_r_1 f_r_2
  obtain ⟨c_v_0, c_v_1, c_v_2⟩ := bwc3 (k_v)
  obtain ⟨c_r_0, c_r_1, c_r_2⟩ := bwc3 (k_r)
  obtain ⟨f_r_0, f_r_1, f_r_2⟩ := bwf3 (k_r)
  obtain ⟨p2, hp2⟩ : ∃ p : BW W2, p.w = W2 := ⟨BW.start W2, rfl⟩
  rw [← hp2]
  clear hp2
  go_upto_region 5 with (first
    | (go_at_call 81; (first | (with_reducible refine (bw_call N.out _).mono ?_)); rintro e w' ⟨rfl, q, rfl⟩))
  obtain ⟨W3, hW3⟩ : ∃ W, W = q.w.alloc (.cells #[.int .i64 l] 3) := ⟨_, rfl⟩
  have B3 : Below w.heap.size w W3 := by rw [hW3]; exact (bw_below B2 q).alloc (bw_below B2 q).size _
  have l_n : g_r < q.w.heap.size := (k_r.below q.h).lt
  have o_n : w.heap.size ≤ q.w.heap.size := (bw_below B2 q).size
  have k_v := bka hW3 (k_v.below q.h)
  have k_r := bka hW3 (k_r.below q.h)
  have k_n := bkn hW3
  rw [← hW3]
  clear hW3
  clear B2
  clear c_v_0 c_v_1 c_v_2 c_r_0 c_r_1 c_r_2 f_r_0 f_r_1 f_r_2
  generalize q.w.heap.size = g_n at *
  obtain ⟨c_v_0, c_v_1, c_v_2⟩ := bwc3 (k_v)
  obtain ⟨c_r_0, c_r_1, c_r_2⟩ := bwc3 (k_r)
  obtain ⟨f_r_0, f_r_1, f_r_2⟩ := bwf3 (k_r)
  have c_n_0 := bwc1 (k_n)
  obtain ⟨p3, hp3⟩ : ∃ p : BW W3, p.w = W3 := ⟨BW.start W3, rfl⟩
  rw [← hp3]
  clear hp3
  have hmf : ∀ (fn : Fn) (first cap : Array Value) (w : World), (Instr.makeFunc fn first cap).run Tryz.prog w = .ok (.func fn first cap) w := fun _ _ _ _ => rfl
  have KX : ∀ p : BW W3, Calls Tryz.prog 50 #[.agg #[.int .i64 a, .int .i64 b, .int .i64 c], .func (.func 82) #[] #[.pointer (some ⟨g_n, 0, none⟩)]] p.w fun e w' => e = .returned (.agg #[.int .i64 r1, .int .i64 r2, .int .i64 r3]) ∧ ∃ q : BW W3, w' = q.w :=
    fun p => (vec_each 82 #[.pointer (some ⟨g_n, 0, none⟩)] a b c r1 r2 r3 p.w (enters_of Tryz.func82 (by kernel_rfl) rfl)
      (fun w' hb => by simpa using vec_parted a l r1 g_n w' (c_n_0 (p.next w' hb)) HQ.out.1 HQ.out.2.2.2 HR.out.1.symm)
      (fun w' hb => by simpa using vec_parted b l r2 g_n w' (c_n_0 (p.next w' hb)) HQ.out.2.1 HQ.out.2.2.2 HR.out.2.1.symm)
      (fun w' hb => by simpa using vec_parted c l r3 g_n w' (c_n_0 (p.next w' hb)) HQ.out.2.2.1 HQ.out.2.2.2 HR.out.2.2.symm)).mono fun e w' ⟨he, hb⟩ => ⟨he, p.next w' hb, rfl⟩
  go_wp2_with (go_at_call 50; (with_reducible refine (KX _).mono ?_); rintro e w' ⟨rfl, q, rfl⟩)
  have kr := bkp3 (k_r.below q.h) (.int .i64 r1) (.int .i64 r2) (.int .i64 r3)
  obtain ⟨rc0, rc1, rc2⟩ := rwc3 kr
  exact bodyPost_ret (v := .tuple #[.agg #[.int .i64 r1, .int .i64 r2, .int .i64 r3], .bool true]) (by simp [results, Tryz.results61, go_sem, rc0, rc1, rc2]) rfl ⟨rfl, blp3 (bw_below B3 q) (by omega)⟩

set_option maxRecDepth 100000 in
set_option maxHeartbeats 4000000 in
theorem vec_Unit_yes_y (y z : Int) (w : World) (h : vuOk 0 y z = true) (hd : ¬ y = 0) :
    Calls Tryz.prog 61 #[.agg #[.int .i64 0, .int .i64 y, .int .i64 z]] w fun r w' => r = .returned (.tuple #[.agg #[.int .i64 (vun (evn 0 y z)).1, .int .i64 (vun (evn 0 y z)).2.1, .int .i64 (vun (evn 0 y z)).2.2], .bool true]) ∧ Below w.heap.size w w' := by
  have h' := vuOk_iff.1 h
  have K1 := Lib.hid (fun w => vec_within 4611686018427387904 0 y z w (by omega))
  rw [h'.1] at K1
  have E := Lib.hid (fun w => vec_normalize 0 y z w h')
  obtain ⟨s1, s2⟩ := evn_spec h'
  obtain ⟨L, hL, l1, l2, _, _⟩ := even_len s1 s2
  have N := Lib.hid (fun w => vec_Len (evn 0 y z).1 (evn 0 y z).2.1 (evn 0 y z).2.2 w)
  rw [hL] at N
  unfold vun
  rw [hL]
  rw [wi_iff] at s2
  generalize evn 0 y z = e at *
  obtain ⟨a, b, c⟩ := e
  dsimp only at *
  obtain ⟨r1, hr1⟩ : ∃ t, t = (a * 16384).tdiv (L : Int) := ⟨_, rfl⟩
  obtain ⟨r2, hr2⟩ : ∃ t, t = (b * 16384).tdiv (L : Int) := ⟨_, rfl⟩
  obtain ⟨r3, hr3⟩ : ∃ t, t = (c * 16384).tdiv (L : Int) := ⟨_, rfl⟩
  rw [← hr1, ← hr2, ← hr3]
  have hl : 1 ≤ (L : Int) ∧ (L : Int) ≤ 9223372036854775807 := by omega
  have q1 : -1048576 ≤ a ∧ a ≤ 1048576 := by omega
  have q2 : -1048576 ≤ b ∧ b ≤ 1048576 := by omega
  have q3 : -1048576 ≤ c ∧ c ≤ 1048576 := by omega
  generalize (L : Int) = l at *
  have HR := Lib.hid (And.intro hr1 (And.intro hr2 hr3))
  have HQ := Lib.hid (And.intro q1 (And.intro q2 (And.intro q3 hl)))
  clear h h' s1 s2 hL l1 l2 hr1 hr2 hr3 q1 q2 q3 hl
  go_enter Tryz.func61, Tryz.ntmps61
  go_upto_region 1 with (fail)
  obtain ⟨W1, hW1⟩ : ∃ W, W = (w.alloc (.cells #[.int .i64 0, .int .i64 y, .int .i64 z] 23)).alloc (.cells #[.int .i64 0, .int .i64 0, .int .i64 0] 23) := ⟨_, rfl⟩
  obtain ⟨k_v, k_r, B1⟩ := st2 hW1
  rw [← hW1]
  clear hW1
  have l_r : w.heap.size < w.heap.size + 1 := by omega
  generalize w.heap.size + 1 = g_r at *
  obtain ⟨c_v_0, c_v_1, c_v_2⟩ := bwc3 (k_v)
  obtain ⟨f_v_0, f_v_1, f_v_2⟩ := bwf3 (k_v)
  obtain ⟨c_r_0, c_r_1, c_r_2⟩ := bwc3 (k_r)
  obtain ⟨f_r_0, f_r_1, f_r_2⟩ := bwf3 (k_r)
  obtain ⟨p1, hp1⟩ : ∃ p : BW W1, p.w = W1 := ⟨BW.start W1, rfl⟩
  rw [← hp1]
  clear hp1
  go_upto_region 3 with (first
    | (go_at_call 55; (first | (with_reducible refine (bw_call K1.out _).mono ?_)); rintro e w' ⟨rfl, q, rfl⟩))
  go_upto_region 4 with (first
    | (go_at_call 80; (first | (with_reducible refine (bw_call E.out _).mono ?_)); rintro e w' ⟨rfl, q, rfl⟩))
  obtain ⟨W2, hW2⟩ : ∃ W, W = ((q.w.setCell ⟨w.heap.size, 0, none⟩ (.int .i64 a)).setCell ⟨w.heap.size, 1, none⟩ (.int .i64 b)).setCell ⟨w.heap.size, 2, none⟩ (.int .i64 c) := ⟨_, rfl⟩
  have B2 : Below w.heap.size w W2 := by rw [hW2]; exact blp3 (bw_below B1 q) (by omega)
  have k_v := bkpe3 hW2 (k_v.below q.h)
  have k_r := bkoe3 hW2 (k_r.below q.h) (by omega)
  rw [← hW2]
  clear hW2
  clear B1
  clear c_v_0 c_v_1 c_v_2 f_v_0 f_v_1 f_v_2 c_r_0 c_r_1 c_r_2 f_r_0 f_r_1 f_r_2
  obtain ⟨c_v_0, c_v_1, c_v_2⟩ := bwc3 (k_v)
  obtain ⟨c_r_0, c_r_1, c_r_2⟩ := bwc3 (k_r)
  obtain ⟨f_r_0, f_r_1, f_r_2⟩ := bwf3 (k_r)
  obtain ⟨p2, hp2⟩ : ∃ p : BW W2, p.w = W2 := ⟨BW.start W2, rfl⟩
  rw [← hp2]
  clear hp2
  go_upto_region 5 with (first
    | (go_at_call 81; (first | (with_reducible refine (bw_call N.out _).mono ?_)); rintro e w' ⟨rfl, q, rfl⟩))
  obtain ⟨W3, hW3⟩ : ∃ W, W = q.w.alloc (.cells #[.int .i64 l] 3) := ⟨_, rfl⟩
  have B3 : Below w.heap.size w W3 := by rw [hW3]; exact (bw_below B2 q).alloc (bw_below B2 q).size _
  have l_n : g_r < q.w.heap.size := (k_r.below q.h).lt
  have o_n : w.heap.size ≤ q.w.heap.size := (bw_below B2 q).size
  have k_v := bka hW3 (k_v.below q.h)
  have k_r := bka hW3 (k_r.below q.h)
  have k_n := bkn hW3
  rw [← hW3]
  clear hW3
  clear B2
  clear c_v_0 c_v_1 c_v_2 c_r_0 c_r_1 c_r_2 f_r_0 f_r_1 f_r_2
  generalize q.w.heap.size = g_n at *
  obtain ⟨c_v_0, c_v_1, c_v_2⟩ := bwc3 (k_v)
  obtain ⟨c_r_0, c_r_1, c_r_2⟩ := bwc3 (k_r)
  obtain ⟨f_r_0, f_r_1, f_r_2⟩ := bwf3 (k_r)
  have c_n_0 := bwc1 (k_n)
  obtain ⟨p3, hp3⟩ : ∃ p : BW W3, p.w = W3 := ⟨BW.start W3, rfl⟩
  rw [← hp3]
  clear hp3
  have hmf : ∀ (fn : Fn) (first cap : Array Value) (w : World), (Instr.makeFunc fn first cap).run Tryz.prog w = .ok (.func fn first cap) w := fun _ _ _ _ => rfl
  have KX : ∀ p : BW W3, Calls Tryz.prog 50 #[.agg #[.int .i64 a, .int .i64 b, .int .i64 c], .func (.func 82) #[] #[.pointer (some ⟨g_n, 0, none⟩)]] p.w fun e w' => e = .returned (.agg #[.int .i64 r1, .int .i64 r2, .int .i64 r3]) ∧ ∃ q : BW W3, w' = q.w :=
    fun p => (vec_each 82 #[.pointer (some ⟨g_n, 0, none⟩)] a b c r1 r2 r3 p.w (enters_of Tryz.func82 (by kernel_rfl) rfl)
      (fun w' hb => by simpa using vec_parted a l r1 g_n w' (c_n_0 (p.next w' hb)) HQ.out.1 HQ.out.2.2.2 HR.out.1.symm)
      (fun w' hb => by simpa using vec_parted b l r2 g_n w' (c_n_0 (p.next w' hb)) HQ.out.2.1 HQ.out.2.2.2 HR.out.2.1.symm)
      (fun w' hb => by simpa using vec_parted c l r3 g_n w' (c_n_0 (p.next w' hb)) HQ.out.2.2.1 HQ.out.2.2.2 HR.out.2.2.symm)).mono fun e w' ⟨he, hb⟩ => ⟨he, p.next w' hb, rfl⟩
  go_wp2_with (go_at_call 50; (with_reducible refine (KX _).mono ?_); rintro e w' ⟨rfl, q, rfl⟩)
  have kr := bkp3 (k_r.below q.h) (.int .i64 r1) (.int .i64 r2) (.int .i64 r3)
  obtain ⟨rc0, rc1, rc2⟩ := rwc3 kr
  exact bodyPost_ret (v := .tuple #[.agg #[.int .i64 r1, .int .i64 r2, .int .i64 r3], .bool true]) (by simp [results, Tryz.results61, go_sem, rc0, rc1, rc2]) rfl ⟨rfl, blp3 (bw_below B3 q) (by omega)⟩

set_option maxRecDepth 100000 in
set_option maxHeartbeats 4000000 in
theorem vec_Unit_yes_z (z : Int) (w : World) (h : vuOk 0 0 z = true) (hd : ¬ z = 0) :
    Calls Tryz.prog 61 #[.agg #[.int .i64 0, .int .i64 0, .int .i64 z]] w fun r w' => r = .returned (.tuple #[.agg #[.int .i64 (vun (evn 0 0 z)).1, .int .i64 (vun (evn 0 0 z)).2.1, .int .i64 (vun (evn 0 0 z)).2.2], .bool true]) ∧ Below w.heap.size w w' := by
  have h' := vuOk_iff.1 h
  have K1 := Lib.hid (fun w => vec_within 4611686018427387904 0 0 z w (by omega))
  rw [h'.1] at K1
  have E := Lib.hid (fun w => vec_normalize 0 0 z w h')
  obtain ⟨s1, s2⟩ := evn_spec h'
  obtain ⟨L, hL, l1, l2, _, _⟩ := even_len s1 s2
  have N := Lib.hid (fun w => vec_Len (evn 0 0 z).1 (evn 0 0 z).2.1 (evn 0 0 z).2.2 w)
  rw [hL] at N
  unfold vun
  rw [hL]
  rw [wi_iff] at s2
  generalize evn 0 0 z = e at *
  obtain ⟨a, b, c⟩ := e
  dsimp only at *
  obtain ⟨r1, hr1⟩ : ∃ t, t = (a * 16384).tdiv (L : Int) := ⟨_, rfl⟩
  obtain ⟨r2, hr2⟩ : ∃ t, t = (b * 16384).tdiv (L : Int) := ⟨_, rfl⟩
  obtain ⟨r3, hr3⟩ : ∃ t, t = (c * 16384).tdiv (L : Int) := ⟨_, rfl⟩
  rw [← hr1, ← hr2, ← hr3]
  have hl : 1 ≤ (L : Int) ∧ (L : Int) ≤ 9223372036854775807 := by omega
  have q1 : -1048576 ≤ a ∧ a ≤ 1048576 := by omega
  have q2 : -1048576 ≤ b ∧ b ≤ 1048576 := by omega
  have q3 : -1048576 ≤ c ∧ c ≤ 1048576 := by omega
  generalize (L : Int) = l at *
  have HR := Lib.hid (And.intro hr1 (And.intro hr2 hr3))
  have HQ := Lib.hid (And.intro q1 (And.intro q2 (And.intro q3 hl)))
  clear h h' s1 s2 hL l1 l2 hr1 hr2 hr3 q1 q2 q3 hl
  go_enter Tryz.func61, Tryz.ntmps61
  go_upto_region 1 with (fail)
  obtain ⟨W1, hW1⟩ : ∃ W, W = (w.alloc (.cells #[.int .i64 0, .int .i64 0, .int .i64 z] 23)).alloc (.cells #[.int .i64 0, .int .i64 0, .int .i64 0] 23) := ⟨_, rfl⟩
  obtain ⟨k_v, k_r, B1⟩ := st2 hW1
  rw [← hW1]
  clear hW1
  have l_r : w.heap.size < w.heap.size + 1 := by omega
  generalize w.heap.size + 1 = g_r at *
  obtain ⟨c_v_0, c_v_1, c_v_2⟩ := bwc3 (k_v)
  obtain ⟨f_v_0, f_v_1, f_v_2⟩ := bwf3 (k_v)
  obtain ⟨c_r_0, c_r_1, c_r_2⟩ := bwc3 (k_r)
  obtain ⟨f_r_0, f_r_1, f_r_2⟩ := bwf3 (k_r)
  obtain ⟨p1, hp1⟩ : ∃ p : BW W1, p.w = W1 := ⟨BW.start W1, rfl⟩
  rw [← hp1]
  clear hp1
  go_upto_region 3 with (first
    | (go_at_call 55; (first | (with_reducible refine (bw_call K1.out _).mono ?_)); rintro e w' ⟨rfl, q, rfl⟩))
  go_upto_region 4 with (first
    | (go_at_call 80; (first | (with_reducible refine (bw_call E.out _).mono ?_)); rintro e w' ⟨rfl, q, rfl⟩))
  obtain ⟨W2, hW2⟩ : ∃ W, W = ((q.w.setCell ⟨w.heap.size, 0, none⟩ (.int .i64 a)).setCell ⟨w.heap.size, 1, none⟩ (.int .i64 b)).setCell ⟨w.heap.size, 2, none⟩ (.int .i64 c) := ⟨_, rfl⟩
  have B2 : Below w.heap.size w W2 := by rw [hW2]; exact blp3 (bw_below B1 q) (by omega)
  have k_v := bkpe3 hW2 (k_v.below q.h)
  have k_r := bkoe3 hW2 (k_r.below q.h) (by omega)
  rw [← hW2]
  clear hW2
  clear B1
  clear c_v_0 c_v_1 c_v_2 f_v_0 f_v_1 f_v_2 c_r_0 c_r_1 c_r_2 f_r_0 f_r_1 f_r_2
  obtain ⟨c_v_0, c_v_1, c_v_2⟩ := bwc3 (k_v)
  obtain ⟨c_r_0, c_r_1, c_r_2⟩ := bwc3 (k_r)
  obtain ⟨f_r_0, f_r_1, f_r_2⟩ := bwf3 (k_r)
  obtain ⟨p2, hp2⟩ : ∃ p : BW W2, p.w = W2 := ⟨BW.start W2, rfl⟩
  rw [← hp2]
  clear hp2
  go_upto_region 5 with (first
    | (go_at_call 81; (first | (with_reducible refine (bw_call N.out _).mono ?_)); rintro e w' ⟨rfl, q, rfl⟩))
  obtain ⟨W3, hW3⟩ : ∃ W, W = q.w.alloc (.cells #[.int .i64 l] 3) := ⟨_, rfl⟩
  have B3 : Below w.heap.size w W3 := by rw [hW3]; exact (bw_below B2 q).alloc (bw_below B2 q).size _
  have l_n : g_r < q.w.heap.size := (k_r.below q.h).lt
  have o_n : w.heap.size ≤ q.w.heap.size := (bw_below B2 q).size
  have k_v := bka hW3 (k_v.below q.h)
  have k_r := bka hW3 (k_r.below q.h)
  have k_n := bkn hW3
  rw [← hW3]
  clear hW3
  clear B2
  clear c_v_0 c_v_1 c_v_2 c_r_0 c_r_1 c_r_2 f_r_0 f_r_1 f_r_2
  generalize q.w.heap.size = g_n at *
  obtain ⟨c_v_0, c_v_1, c_v_2⟩ := bwc3 (k_v)
  obtain ⟨c_r_0, c_r_1, c_r_2⟩ := bwc3 (k_r)
  obtain ⟨f_r_0, f_r_1, f_r_2⟩ := bwf3 (k_r)
  have c_n_0 := bwc1 (k_n)
  obtain ⟨p3, hp3⟩ : ∃ p : BW W3, p.w = W3 := ⟨BW.start W3, rfl⟩
  rw [← hp3]
  clear hp3
  have hmf : ∀ (fn : Fn) (first cap : Array Value) (w : World), (Instr.makeFunc fn first cap).run Tryz.prog w = .ok (.func fn first cap) w := fun _ _ _ _ => rfl
  have KX : ∀ p : BW W3, Calls Tryz.prog 50 #[.agg #[.int .i64 a, .int .i64 b, .int .i64 c], .func (.func 82) #[] #[.pointer (some ⟨g_n, 0, none⟩)]] p.w fun e w' => e = .returned (.agg #[.int .i64 r1, .int .i64 r2, .int .i64 r3]) ∧ ∃ q : BW W3, w' = q.w :=
    fun p => (vec_each 82 #[.pointer (some ⟨g_n, 0, none⟩)] a b c r1 r2 r3 p.w (enters_of Tryz.func82 (by kernel_rfl) rfl)
      (fun w' hb => by simpa using vec_parted a l r1 g_n w' (c_n_0 (p.next w' hb)) HQ.out.1 HQ.out.2.2.2 HR.out.1.symm)
      (fun w' hb => by simpa using vec_parted b l r2 g_n w' (c_n_0 (p.next w' hb)) HQ.out.2.1 HQ.out.2.2.2 HR.out.2.1.symm)
      (fun w' hb => by simpa using vec_parted c l r3 g_n w' (c_n_0 (p.next w' hb)) HQ.out.2.2.1 HQ.out.2.2.2 HR.out.2.2.symm)).mono fun e w' ⟨he, hb⟩ => ⟨he, p.next w' hb, rfl⟩
  go_wp2_with (go_at_call 50; (with_reducible refine (KX _).mono ?_); rintro e w' ⟨rfl, q, rfl⟩)
  have kr := bkp3 (k_r.below q.h) (.int .i64 r1) (.int .i64 r2) (.int .i64 r3)
  obtain ⟨rc0, rc1, rc2⟩ := rwc3 kr
  exact bodyPost_ret (v := .tuple #[.agg #[.int .i64 r1, .int .i64 r2, .int .i64 r3], .bool true]) (by simp [results, Tryz.results61, go_sem, rc0, rc1, rc2]) rfl ⟨rfl, blp3 (bw_below B3 q) (by omega)⟩

set_option maxRecDepth 100000 in
set_option maxHeartbeats 4000000 in
theorem vec_Unit_no_x (x y z : Int) (w : World) (h : vuOk x y z = false) (hd : ¬ x = 0) :
    Calls Tryz.prog 61 #[.agg #[.int .i64 x, .int .i64 y, .int .i64 z]] w fun r w' => r = .returned (.tuple #[.agg #[.int .i64 0, .int .i64 0, .int .i64 0], .bool false]) ∧ Below w.heap.size w w' := by
  have hw : wi 4611686018427387904 x y z = false := by
    have h0 : wi 0 x y z = false := by rw [wi_no]; omega
    unfold vuOk at h
    rw [h0] at h
    simpa using h
  have K1 := Lib.hid (fun w => vec_within 4611686018427387904 x y z w (by omega))
  rw [hw] at K1
  clear h hw
  go_enter Tryz.func61, Tryz.ntmps61
  go_upto_region 1 with (fail)
  obtain ⟨W1, hW1⟩ : ∃ W, W = (w.alloc (.cells #[.int .i64 x, .int .i64 y, .int .i64 z] 23)).alloc (.cells #[.int .i64 0, .int .i64 0, .int .i64 0] 23) := ⟨_, rfl⟩
  obtain ⟨k_v, k_r, B1⟩ := st2 hW1
  rw [← hW1]
  clear hW1
  have l_r : w.heap.size < w.heap.size + 1 := by omega
  generalize w.heap.size + 1 = g_r at *
  obtain ⟨c_v_0, c_v_1, c_v_2⟩ := bwc3 (k_v)
  obtain ⟨c_r_0, c_r_1, c_r_2⟩ := bwc3 (k_r)
  obtain ⟨f_r_0, f_r_1, f_r_2⟩ := bwf3 (k_r)
  obtain ⟨p1, hp1⟩ : ∃ p : BW W1, p.w = W1 := ⟨BW.start W1, rfl⟩
  rw [← hp1]
  clear hp1
  go_wp2_with (first
    | (go_at_call 55; (first | (with_reducible refine (bw_call K1.out _).mono ?_)); rintro e w' ⟨rfl, q, rfl⟩))
  have kr := bkp3 (k_r.below q.h) (.int .i64 0) (.int .i64 0) (.int .i64 0)
  obtain ⟨rc0, rc1, rc2⟩ := rwc3 kr
  exact bodyPost_ret (v := .tuple #[.agg #[.int .i64 0, .int .i64 0, .int .i64 0], .bool false]) (by simp [results, Tryz.results61, go_sem, rc0, rc1, rc2]) rfl ⟨rfl, blp3 (bw_below B1 q) (by omega)⟩

set_option maxRecDepth 100000 in
set_option maxHeartbeats 4000000 in
theorem vec_Unit_no_y (y z : Int) (w : World) (h : vuOk 0 y z = false) (hd : ¬ y = 0) :
    Calls Tryz.prog 61 #[.agg #[.int .i64 0, .int .i64 y, .int .i64 z]] w fun r w' => r = .returned (.tuple #[.agg #[.int .i64 0, .int .i64 0, .int .i64 0], .bool false]) ∧ Below w.heap.size w w' := by
  have hw : wi 4611686018427387904 0 y z = false := by
    have h0 : wi 0 0 y z = false := by rw [wi_no]; omega
    unfold vuOk at h
    rw [h0] at h
    simpa using h
  have K1 := Lib.hid (fun w => vec_within 4611686018427387904 0 y z w (by omega))
  rw [hw] at K1
  clear h hw
  go_enter Tryz.func61, Tryz.ntmps61
  go_upto_region 1 with (fail)
  obtain ⟨W1, hW1⟩ : ∃ W, W = (w.alloc (.cells #[.int .i64 0, .int .i64 y, .int .i64 z] 23)).alloc (.cells #[.int .i64 0, .int .i64 0, .int .i64 0] 23) := ⟨_, rfl⟩
  obtain ⟨k_v, k_r, B1⟩ := st2 hW1
  rw [← hW1]
  clear hW1
  have l_r : w.heap.size < w.heap.size + 1 := by omega
  generalize w.heap.size + 1 = g_r at *
  obtain ⟨c_v_0, c_v_1, c_v_2⟩ := bwc3 (k_v)
  obtain ⟨c_r_0, c_r_1, c_r_2⟩ := bwc3 (k_r)
  obtain ⟨f_r_0, f_r_1, f_r_2⟩ := bwf3 (k_r)
  obtain ⟨p1, hp1⟩ : ∃ p : BW W1, p.w = W1 := ⟨BW.start W1, rfl⟩
  rw [← hp1]
  clear hp1
  go_wp2_with (first
    | (go_at_call 55; (first | (with_reducible refine (bw_call K1.out _).mono ?_)); rintro e w' ⟨rfl, q, rfl⟩))
  have kr := bkp3 (k_r.below q.h) (.int .i64 0) (.int .i64 0) (.int .i64 0)
  obtain ⟨rc0, rc1, rc2⟩ := rwc3 kr
  exact bodyPost_ret (v := .tuple #[.agg #[.int .i64 0, .int .i64 0, .int .i64 0], .bool false]) (by simp [results, Tryz.results61, go_sem, rc0, rc1, rc2]) rfl ⟨rfl, blp3 (bw_below B1 q) (by omega)⟩

set_option maxRecDepth 100000 in
set_option maxHeartbeats 4000000 in
theorem vec_Unit_no_z (z : Int) (w : World) (h : vuOk 0 0 z = false) (hd : ¬ z = 0) :
    Calls Tryz.prog 61 #[.agg #[.int .i64 0, .int .i64 0, .int .i64 z]] w fun r w' => r = .returned (.tuple #[.agg #[.int .i64 0, .int .i64 0, .int .i64 0], .bool false]) ∧ Below w.heap.size w w' := by
  have hw : wi 4611686018427387904 0 0 z = false := by
    have h0 : wi 0 0 0 z = false := by rw [wi_no]; omega
    unfold vuOk at h
    rw [h0] at h
    simpa using h
  have K1 := Lib.hid (fun w => vec_within 4611686018427387904 0 0 z w (by omega))
  rw [hw] at K1
  clear h hw
  go_enter Tryz.func61, Tryz.ntmps61
  go_upto_region 1 with (fail)
  obtain ⟨W1, hW1⟩ : ∃ W, W = (w.alloc (.cells #[.int .i64 0, .int .i64 0, .int .i64 z] 23)).alloc (.cells #[.int .i64 0, .int .i64 0, .int .i64 0] 23) := ⟨_, rfl⟩
  obtain ⟨k_v, k_r, B1⟩ := st2 hW1
  rw [← hW1]
  clear hW1
  have l_r : w.heap.size < w.heap.size + 1 := by omega
  generalize w.heap.size + 1 = g_r at *
  obtain ⟨c_v_0, c_v_1, c_v_2⟩ := bwc3 (k_v)
  obtain ⟨c_r_0, c_r_1, c_r_2⟩ := bwc3 (k_r)
  obtain ⟨f_r_0, f_r_1, f_r_2⟩ := bwf3 (k_r)
  obtain ⟨p1, hp1⟩ : ∃ p : BW W1, p.w = W1 := ⟨BW.start W1, rfl⟩
  rw [← hp1]
  clear hp1
  go_wp2_with (first
    | (go_at_call 55; (first | (with_reducible refine (bw_call K1.out _).mono ?_)); rintro e w' ⟨rfl, q, rfl⟩))
  have kr := bkp3 (k_r.below q.h) (.int .i64 0) (.int .i64 0) (.int .i64 0)
  obtain ⟨rc0, rc1, rc2⟩ := rwc3 kr
  exact bodyPost_ret (v := .tuple #[.agg #[.int .i64 0, .int .i64 0, .int .i64 0], .bool false]) (by simp [results, Tryz.results61, go_sem, rc0, rc1, rc2]) rfl ⟨rfl, blp3 (bw_below B1 q) (by omega)⟩

set_option maxRecDepth 100000 in
set_option maxHeartbeats 4000000 in
theorem vec_Unit_no_0 (w : World) (h : vuOk 0 0 0 = false) :
    Calls Tryz.prog 61 #[.agg #[.int .i64 0, .int .i64 0, .int .i64 0]] w fun r w' => r = .returned (.tuple #[.agg #[.int .i64 0, .int .i64 0, .int .i64 0], .bool false]) ∧ Below w.heap.size w w' := by
  clear h
  go_enter Tryz.func61, Tryz.ntmps61
  go_upto_region 1 with (fail)
  obtain ⟨W1, hW1⟩ : ∃ W, W = (w.alloc (.cells #[.int .i64 0, .int .i64 0, .int .i64 0] 23)).alloc (.cells #[.int .i64 0, .int .i64 0, .int .i64 0] 23) := ⟨_, rfl⟩
  obtain ⟨k_v, k_r, B1⟩ := st2 hW1
  rw [← hW1]
  clear hW1
  have l_r : w.heap.size < w.heap.size + 1 := by omega
  generalize w.heap.size + 1 = g_r at *
  obtain ⟨c_v_0, c_v_1, c_v_2⟩ := bwc3 (k_v)
  obtain ⟨c_r_0, c_r_1, c_r_2⟩ := bwc3 (k_r)
  obtain ⟨f_r_0, f_r_1, f_r_2⟩ := bwf3 (k_r)
  obtain ⟨p1, hp1⟩ : ∃ p : BW W1, p.w = W1 := ⟨BW.start W1, rfl⟩
  rw [← hp1]
  clear hp1
  go_wp2
  have kr := bkp3 (k_r.below p1.h) (.int .i64 0) (.int .i64 0) (.int .i64 0)
  obtain ⟨rc0, rc1, rc2⟩ := rwc3 kr
  exact bodyPost_ret (v := .tuple #[.agg #[.int .i64 0, .int .i64 0, .int .i64 0], .bool false]) (by simp [results, Tryz.results61, go_sem, rc0, rc1, rc2]) rfl ⟨rfl, blp3 (bw_below B1 p1) (by omega)⟩

theorem vec_Unit (x y z : Int) (w : World) (_ : I64 x) (_ : I64 y) (_ : I64 z) :
    Calls Tryz.prog 61 #[.agg #[.int .i64 x, .int .i64 y, .int .i64 z]] w fun r w' => r = .returned (.tuple #[.agg #[.int .i64 (vunit x y z).1, .int .i64 (vunit x y z).2.1, .int .i64 (vunit x y z).2.2], .bool (vuOk x y z)]) ∧ Below w.heap.size w w' := by
  unfold vunit
  by_cases h : vuOk x y z = true
  · rw [if_pos h, h]
    by_cases hx : x = 0
    · subst hx
      by_cases hy : y = 0
      · subst hy
        refine vec_Unit_yes_z z w h ?_
        rintro rfl
        revert h
        decide
      · exact vec_Unit_yes_y y z w h hy
    · exact vec_Unit_yes_x x y z w h hx
  · rw [if_neg h]
    rw [Bool.not_eq_true] at h
    rw [h]
    by_cases hx : x = 0
    · subst hx
      by_cases hy : y = 0
      · subst hy
        by_cases hz : z = 0
        · subst hz; exact vec_Unit_no_0 w h
        · exact vec_Unit_no_z z w h hz
      · exact vec_Unit_no_y y z w h hy
    · exact vec_Unit_no_x x y z w h hx

end
end Go.Proofs.YtdmfmdekcojjbaaGreat
