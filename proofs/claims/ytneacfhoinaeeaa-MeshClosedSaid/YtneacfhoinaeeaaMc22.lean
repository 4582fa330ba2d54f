/- Contracts of package vec, below: coordinates, within, each, pair, the closures. Contracts of package vec: the closures, product, Near, normalize. Contracts of package vec (landed at 7315bb3e32). -/
import Derived.Test.YtneacfhoinaeeaaMc19
import Derived.Test.YtneacfhoinaeeaaMc6
import Derived.Test.YtneacfhoinaeeaaMc12
import Derived.Test.YtneacfhoinaeeaaMc1
import Derived.Test.YtneacfhoinaeeaaMc8
import Derived.Deep.DeepCutAuto
import Derived.Deep.RegionHeld3
import Derived.LoopN
import Derived.Shelf.Abstract
import Derived.Test.YtneacfhoinaeeaaMc21


namespace Go.Proofs.Ytneacfhoinaeeaa
section

section

open Go.RowKit Go.Shelf Go.Proofs.Sky

set_option linter.unusedVariables false

/-- A contract that holds in every later world, as one of the class. -/
theorem bw_callB {P : Program} {f : FuncId} {args : Array Value} {v : Value} {w wb : World} (h : ∀ w', Below w.heap.size w w' → Calls P f args w' fun e w'' => e = .returned v ∧ Below w'.heap.size w' w'') (hB : Below w.heap.size w wb) :
    ∀ p : BW wb, Calls P f args p.w fun e w' => e = .returned v ∧ ∃ q : BW wb, w' = q.w :=
  fun p => (h p.w (bw_below hB p)).mono fun e w' ⟨he, hb⟩ => ⟨he, p.next w' hb, rfl⟩

theorem vec_coordinates (x y z : Int) (w : World) :
    Calls Try.prog 75 #[.agg #[.int .i64 x, .int .i64 y, .int .i64 z]] w fun e w' => e = .returned (.agg #[.int .i64 x, .int .i64 y, .int .i64 z]) ∧ Below w.heap.size w w' := by
  go_enter Try.func75, Try.ntmps75
  go_wp2
  go_returns
  exact ⟨rfl, by go_grown⟩

set_option maxRecDepth 100000 in
set_option maxHeartbeats 4000000 in
theorem vec_within (n x y z : Int) (w : World) (hn : 0 ≤ n ∧ n ≤ 4611686018427387904) :
    Calls Try.prog 63 #[.agg #[.int .i64 x, .int .i64 y, .int .i64 z], .int .i64 n] w fun e w' => e = .returned (.bool (wi n x y z)) ∧ Below w.heap.size w w' := by
  have K := Lib.hid (fun w => vec_coordinates x y z w)
  have hb0 : Below w.heap.size w (w.alloc (.cells #[.int .i64 x, .int .i64 y, .int .i64 z] 23)) := by go_grown
  have i0 : ∀ w, (Instr.index 74 (.agg #[.int .i64 x, .int .i64 y, .int .i64 z]) (.int .i64 0)).run Try.prog w = .ok (.int .i64 x) w := fun _ => by kernel_rfl
  have i1 : ∀ w, (Instr.index 74 (.agg #[.int .i64 x, .int .i64 y, .int .i64 z]) (.int .i64 1)).run Try.prog w = .ok (.int .i64 y) w := fun _ => by kernel_rfl
  have i2 : ∀ w, (Instr.index 74 (.agg #[.int .i64 x, .int .i64 y, .int .i64 z]) (.int .i64 2)).run Try.prog w = .ok (.int .i64 z) w := fun _ => by kernel_rfl
  have e1 : IntKind.i64.wrap (-n) = -n := by rw [i64w]; omega
  have e3 : wrap64 (-n) = -n := by unfold wrap64; omega
  obtain ⟨m, hm⟩ : ∃ m, m = -n := ⟨_, rfl⟩
  have e2 : wi n x y z = decide (m ≤ x ∧ x ≤ n ∧ m ≤ y ∧ y ≤ n ∧ m ≤ z ∧ z ≤ n) := by unfold wi; rw [hm]
  rw [e2]
  rw [← hm] at e1 e3
  have e4 : -n = m := hm.symm
  clear e2 hn
  by_cases h0 : x < m
  · have t : decide (m ≤ x ∧ x ≤ n ∧ m ≤ y ∧ y ≤ n ∧ m ≤ z ∧ z ≤ n) = false := decide_eq_false (by omega)
    rw [t]
    have t0 : decide (x < m) = true := decide_eq_true h0
    clear t hm h0
    go_enter Try.func63, Try.ntmps63
    go_upto_region 2 with (go_at_call 75; (with_reducible refine (K.out _).mono ?_); rintro e w1 ⟨rfl, hb⟩)
    refine wp_loop_rounds 4 ?_
    rw [rounds_succ]
    go_wp2
    go_ret
    exact ⟨rfl, hb0.trans (hb.mono hb0.size)⟩
  by_cases h1 : n < x
  · have t : decide (m ≤ x ∧ x ≤ n ∧ m ≤ y ∧ y ≤ n ∧ m ≤ z ∧ z ≤ n) = false := decide_eq_false (by omega)
    rw [t]
    have t0 : decide (x < m) = false := decide_eq_false h0
    have t1 : decide (n < x) = true := decide_eq_true h1
    clear t hm h0 h1
    go_enter Try.func63, Try.ntmps63
    go_upto_region 2 with (go_at_call 75; (with_reducible refine (K.out _).mono ?_); rintro e w1 ⟨rfl, hb⟩)
    refine wp_loop_rounds 4 ?_
    rw [rounds_succ]
    go_wp2
    go_ret
    exact ⟨rfl, hb0.trans (hb.mono hb0.size)⟩
  by_cases h2 : y < m
  · have t : decide (m ≤ x ∧ x ≤ n ∧ m ≤ y ∧ y ≤ n ∧ m ≤ z ∧ z ≤ n) = false := decide_eq_false (by omega)
    rw [t]
    have t0 : decide (x < m) = false := decide_eq_false h0
    have t1 : decide (n < x) = false := decide_eq_false h1
    have t2 : decide (y < m) = true := decide_eq_true h2
    clear t hm h0 h1 h2
    go_enter Try.func63, Try.ntmps63
    go_upto_region 2 with (go_at_call 75; (with_reducible refine (K.out _).mono ?_); rintro e w1 ⟨rfl, hb⟩)
    refine wp_loop_rounds 4 ?_
    rw [rounds_succ]
    go_wp2
    rw [rounds_succ]
    go_wp2
    go_ret
    exact ⟨rfl, hb0.trans (hb.mono hb0.size)⟩
  by_cases h3 : n < y
  · have t : decide (m ≤ x ∧ x ≤ n ∧ m ≤ y ∧ y ≤ n ∧ m ≤ z ∧ z ≤ n) = false := decide_eq_false (by omega)
    rw [t]
    have t0 : decide (x < m) = false := decide_eq_false h0
    have t1 : decide (n < x) = false := decide_eq_false h1
    have t2 : decide (y < m) = false := decide_eq_false h2
    have t3 : decide (n < y) = true := decide_eq_true h3
    clear t hm h0 h1 h2 h3
    go_enter Try.func63, Try.ntmps63
    go_upto_region 2 with (go_at_call 75; (with_reducible refine (K.out _).mono ?_); rintro e w1 ⟨rfl, hb⟩)
    refine wp_loop_rounds 4 ?_
    rw [rounds_succ]
    go_wp2
    rw [rounds_succ]
    go_wp2
    go_ret
    exact ⟨rfl, hb0.trans (hb.mono hb0.size)⟩
  by_cases h4 : z < m
  · have t : decide (m ≤ x ∧ x ≤ n ∧ m ≤ y ∧ y ≤ n ∧ m ≤ z ∧ z ≤ n) = false := decide_eq_false (by omega)
    rw [t]
    have t0 : decide (x < m) = false := decide_eq_false h0
    have t1 : decide (n < x) = false := decide_eq_false h1
    have t2 : decide (y < m) = false := decide_eq_false h2
    have t3 : decide (n < y) = false := decide_eq_false h3
    have t4 : decide (z < m) = true := decide_eq_true h4
    clear t hm h0 h1 h2 h3 h4
    go_enter Try.func63, Try.ntmps63
    go_upto_region 2 with (go_at_call 75; (with_reducible refine (K.out _).mono ?_); rintro e w1 ⟨rfl, hb⟩)
    refine wp_loop_rounds 4 ?_
    rw [rounds_succ]
    go_wp2
    rw [rounds_succ]
    go_wp2
    rw [rounds_succ]
    go_wp2
    go_ret
    exact ⟨rfl, hb0.trans (hb.mono hb0.size)⟩
  by_cases h5 : n < z
  · have t : decide (m ≤ x ∧ x ≤ n ∧ m ≤ y ∧ y ≤ n ∧ m ≤ z ∧ z ≤ n) = false := decide_eq_false (by omega)
    rw [t]
    have t0 : decide (x < m) = false := decide_eq_false h0
    have t1 : decide (n < x) = false := decide_eq_false h1
    have t2 : decide (y < m) = false := decide_eq_false h2
    have t3 : decide (n < y) = false := decide_eq_false h3
    have t4 : decide (z < m) = false := decide_eq_false h4
    have t5 : decide (n < z) = true := decide_eq_true h5
    clear t hm h0 h1 h2 h3 h4 h5
    go_enter Try.func63, Try.ntmps63
    go_upto_region 2 with (go_at_call 75; (with_reducible refine (K.out _).mono ?_); rintro e w1 ⟨rfl, hb⟩)
    refine wp_loop_rounds 4 ?_
    rw [rounds_succ]
    go_wp2
    rw [rounds_succ]
    go_wp2
    rw [rounds_succ]
    go_wp2
    go_ret
    exact ⟨rfl, hb0.trans (hb.mono hb0.size)⟩
  have t : decide (m ≤ x ∧ x ≤ n ∧ m ≤ y ∧ y ≤ n ∧ m ≤ z ∧ z ≤ n) = true := decide_eq_true (by omega)
  rw [t]
  have t0 : decide (x < m) = false := decide_eq_false h0
  have t1 : decide (n < x) = false := decide_eq_false h1
  have t2 : decide (y < m) = false := decide_eq_false h2
  have t3 : decide (n < y) = false := decide_eq_false h3
  have t4 : decide (z < m) = false := decide_eq_false h4
  have t5 : decide (n < z) = false := decide_eq_false h5
  clear t hm h0 h1 h2 h3 h4 h5
  go_enter Try.func63, Try.ntmps63
  go_upto_region 2 with (go_at_call 75; (with_reducible refine (K.out _).mono ?_); rintro e w1 ⟨rfl, hb⟩)
  refine wp_loop_rounds 4 ?_
  rw [rounds_succ]
  go_wp2
  rw [rounds_succ]
  go_wp2
  rw [rounds_succ]
  go_wp2
  rw [rounds_succ]
  go_wp2
  go_ret
  exact ⟨rfl, hb0.trans (hb.mono hb0.size)⟩

set_option maxRecDepth 100000 in
set_option maxHeartbeats 4000000 in
theorem vec_each (g : FuncId) (bd : Array Value) (x y z a b c : Int) (w : World) (hg : Enters Try.prog g)
    (hx : ∀ w', Below w.heap.size w w' → Calls Try.prog g (#[.int .i64 x] ++ bd) w' fun e w'' => e = .returned (.int .i64 a) ∧ Below w'.heap.size w' w'')
    (hy : ∀ w', Below w.heap.size w w' → Calls Try.prog g (#[.int .i64 y] ++ bd) w' fun e w'' => e = .returned (.int .i64 b) ∧ Below w'.heap.size w' w'')
    (hz : ∀ w', Below w.heap.size w w' → Calls Try.prog g (#[.int .i64 z] ++ bd) w' fun e w'' => e = .returned (.int .i64 c) ∧ Below w'.heap.size w' w'') :
    Calls Try.prog 79 #[.agg #[.int .i64 x, .int .i64 y, .int .i64 z], .func (.func g) #[] bd] w fun e w' => e = .returned (.agg #[.int .i64 a, .int .i64 b, .int .i64 c]) ∧ Below w.heap.size w w' := by
  have K := Lib.hid (fun w => vec_coordinates x y z w)
  have eg : ∀ args w, (callFunc g args).run Try.prog w = .ok (.enter g args) w := hg
  go_enter Try.func79, Try.ntmps79
  go_upto_region 1 with (fail)
  obtain ⟨W1, hW1⟩ : ∃ W, W = (w.alloc (.cells #[.int .i64 x, .int .i64 y, .int .i64 z] 23)).alloc (.cells #[.int .i64 0, .int .i64 0, .int .i64 0] 23) := ⟨_, rfl⟩
  obtain ⟨k_v, k_r, B1⟩ := st2 hW1
  rw [← hW1]
  clear hW1
  have l_r : w.heap.size < w.heap.size + 1 := by omega
  generalize w.heap.size + 1 = g_r at *
  obtain ⟨c_v_0, c_v_1, c_v_2⟩ := bwc3 (k_v)
  obtain ⟨c_r_0, c_r_1, c_r_2⟩ := bwc3 (k_r)
  obtain ⟨p1, hp1⟩ : ∃ p : BW W1, p.w = W1 := ⟨BW.start W1, rfl⟩
  rw [← hp1]
  clear hp1
  go_upto_region 2 with (first
    | (go_at_call 75; (first | (with_reducible refine (bw_call K.out _).mono ?_)); rintro e w' ⟨rfl, q, rfl⟩))
  obtain ⟨W2, hW2⟩ : ∃ W, W = q.w.alloc (.cells #[.int .i64 x, .int .i64 y, .int .i64 z] 74) := ⟨_, rfl⟩
  have B2 : Below w.heap.size w W2 := by rw [hW2]; exact (bw_below B1 q).alloc (bw_below B1 q).size _
  have l_l : g_r < q.w.heap.size := (k_r.below q.h).lt
  have o_l : w.heap.size ≤ q.w.heap.size := (bw_below B1 q).size
  have k_v := bka hW2 (k_v.below q.h)
  have k_r := bka hW2 (k_r.below q.h)
  have k_l := bkn hW2
  rw [← hW2]
  clear hW2
  clear B1
  clear c_v_0 c_v_1 c_v_2 c_r_0 c_r_1 c_r_2
  generalize q.w.heap.size = g_l at *
  obtain ⟨c_v_0, c_v_1, c_v_2⟩ := bwc3 (k_v)
  obtain ⟨c_r_0, c_r_1, c_r_2⟩ := bwc3 (k_r)
  obtain ⟨c_l_0, c_l_1, c_l_2⟩ := bwc3 (k_l)
  obtain ⟨f_l_0, f_l_1, f_l_2⟩ := bwf3 (k_l)
  obtain ⟨p2, hp2⟩ : ∃ p : BW W2, p.w = W2 := ⟨BW.start W2, rfl⟩
  rw [← hp2]
  clear hp2
  have i0 : ∀ w, (Instr.index 74 (.agg #[.int .i64 x, .int .i64 y, .int .i64 z]) (.int .i64 0)).run Try.prog w = .ok (.int .i64 x) w := fun _ => by kernel_rfl
  have i1 : ∀ w, (Instr.index 74 (.agg #[.int .i64 x, .int .i64 y, .int .i64 z]) (.int .i64 1)).run Try.prog w = .ok (.int .i64 y) w := fun _ => by kernel_rfl
  have i2 : ∀ w, (Instr.index 74 (.agg #[.int .i64 x, .int .i64 y, .int .i64 z]) (.int .i64 2)).run Try.prog w = .ok (.int .i64 z) w := fun _ => by kernel_rfl
  go_wp2
  refine wp_loop_rounds 4 ?_
  have KX := bw_callB hx B2
  rw [rounds_succ]
  go_upto_region 6 with (with_reducible refine (KX _).mono ?_; rintro e w' ⟨rfl, q, rfl⟩)
  clear KX
  obtain ⟨W3, hW3⟩ : ∃ W, W = q.w.setCell ⟨g_l, 0, none⟩ (.int .i64 a) := ⟨_, rfl⟩
  have B3 : Below w.heap.size w W3 := by rw [hW3]; exact ((bw_below B2 q).setCell (p := ⟨g_l, 0, none⟩) (by show w.heap.size ≤ g_l; omega) _)
  have k_v : Bk W3 (w.heap.size) 23 #[.int .i64 x, .int .i64 y, .int .i64 z] := by rw [hW3]; exact ((k_v.below q.h).other (a := ⟨g_l, 0, none⟩) (by show ¬ w.heap.size = g_l; omega) (.int .i64 a))
  have k_r : Bk W3 (g_r) 23 #[.int .i64 0, .int .i64 0, .int .i64 0] := by rw [hW3]; exact ((k_r.below q.h).other (a := ⟨g_l, 0, none⟩) (by show ¬ g_r = g_l; omega) (.int .i64 a))
  have k_l : Bk W3 (g_l) 74 #[.int .i64 a, .int .i64 y, .int .i64 z] := by rw [hW3]; exact ((k_l.below q.h).set 0 (.int .i64 a)).cast (by simp)
  rw [← hW3]
  clear hW3
  clear B2
  clear c_v_0 c_v_1 c_v_2 c_r_0 c_r_1 c_r_2 c_l_0 c_l_1 c_l_2 f_l_0 f_l_1 f_l_2
  obtain ⟨c_v_0, c_v_1, c_v_2⟩ := bwc3 (k_v)
  obtain ⟨c_r_0, c_r_1, c_r_2⟩ := bwc3 (k_r)
  obtain ⟨c_l_0, c_l_1, c_l_2⟩ := bwc3 (k_l)
  obtain ⟨f_l_0, f_l_1, f_l_2⟩ := bwf3 (k_l)
  obtain ⟨p3, hp3⟩ : ∃ p : BW W3, p.w = W3 := ⟨BW.start W3, rfl⟩
  rw [← hp3]
  clear hp3
  go_wp2
  have KX := bw_callB hy B3
  rw [rounds_succ]
  go_upto_region 6 with (with_reducible refine (KX _).mono ?_; rintro e w' ⟨rfl, q, rfl⟩)
  clear KX
  obtain ⟨W4, hW4⟩ : ∃ W, W = q.w.setCell ⟨g_l, 1, none⟩ (.int .i64 b) := ⟨_, rfl⟩
  have B4 : Below w.heap.size w W4 := by rw [hW4]; exact ((bw_below B3 q).setCell (p := ⟨g_l, 1, none⟩) (by show w.heap.size ≤ g_l; omega) _)
  have k_v : Bk W4 (w.heap.size) 23 #[.int .i64 x, .int .i64 y, .int .i64 z] := by rw [hW4]; exact ((k_v.below q.h).other (a := ⟨g_l, 1, none⟩) (by show ¬ w.heap.size = g_l; omega) (.int .i64 b))
  have k_r : Bk W4 (g_r) 23 #[.int .i64 0, .int .i64 0, .int .i64 0] := by rw [hW4]; exact ((k_r.below q.h).other (a := ⟨g_l, 1, none⟩) (by show ¬ g_r = g_l; omega) (.int .i64 b))
  have k_l : Bk W4 (g_l) 74 #[.int .i64 a, .int .i64 b, .int .i64 z] := by rw [hW4]; exact ((k_l.below q.h).set 1 (.int .i64 b)).cast (by simp)
  rw [← hW4]
  clear hW4
  clear B3
  clear c_v_0 c_v_1 c_v_2 c_r_0 c_r_1 c_r_2 c_l_0 c_l_1 c_l_2 f_l_0 f_l_1 f_l_2
  obtain ⟨c_v_0, c_v_1, c_v_2⟩ := bwc3 (k_v)
  obtain ⟨c_r_0, c_r_1, c_r_2⟩ := bwc3 (k_r)
  obtain ⟨c_l_0, c_l_1, c_l_2⟩ := bwc3 (k_l)
  obtain ⟨f_l_0, f_l_1, f_l_2⟩ := bwf3 (k_l)
  obtain ⟨p4, hp4⟩ : ∃ p : BW W4, p.w = W4 := ⟨BW.start W4, rfl⟩
  rw [← hp4]
  clear hp4
  go_wp2
  have KX := bw_callB hz B4
  rw [rounds_succ]
  go_upto_region 6 with (with_reducible refine (KX _).mono ?_; rintro e w' ⟨rfl, q, rfl⟩)
  clear KX
  obtain ⟨W5, hW5⟩ : ∃ W, W = q.w.setCell ⟨g_l, 2, none⟩ (.int .i64 c) := ⟨_, rfl⟩
  have B5 : Below w.heap.size w W5 := by rw [hW5]; exact ((bw_below B4 q).setCell (p := ⟨g_l, 2, none⟩) (by show w.heap.size ≤ g_l; omega) _)
  have k_v : Bk W5 (w.heap.size) 23 #[.int .i64 x, .int .i64 y, .int .i64 z] := by rw [hW5]; exact ((k_v.below q.h).other (a := ⟨g_l, 2, none⟩) (by show ¬ w.heap.size = g_l; omega) (.int .i64 c))
  have k_r : Bk W5 (g_r) 23 #[.int .i64 0, .int .i64 0, .int .i64 0] := by rw [hW5]; exact ((k_r.below q.h).other (a := ⟨g_l, 2, none⟩) (by show ¬ g_r = g_l; omega) (.int .i64 c))
  have k_l : Bk W5 (g_l) 74 #[.int .i64 a, .int .i64 b, .int .i64 c] := by rw [hW5]; exact ((k_l.below q.h).set 2 (.int .i64 c)).cast (by simp)
  rw [← hW5]
  clear hW5
  clear B4
  clear c_v_0 c_v_1 c_v_2 c_r_0 c_r_1 c_r_2 c_l_0 c_l_1 c_l_2 f_l_0 f_l_1 f_l_2
  obtain ⟨c_v_0, c_v_1, c_v_2⟩ := bwc3 (k_v)
  obtain ⟨c_r_0, c_r_1, c_r_2⟩ := bwc3 (k_r)
  obtain ⟨f_r_0, f_r_1, f_r_2⟩ := bwf3 (k_r)
  obtain ⟨c_l_0, c_l_1, c_l_2⟩ := bwc3 (k_l)
  obtain ⟨p5, hp5⟩ : ∃ p : BW W5, p.w = W5 := ⟨BW.start W5, rfl⟩
  rw [← hp5]
  clear hp5
  go_wp2
  rw [rounds_succ]
  go_wp2
  have kr := bkp3 (k_r.below p5.h) (.int .i64 a) (.int .i64 b) (.int .i64 c)
  obtain ⟨rc0, rc1, rc2⟩ := rwc3 kr
  exact bodyPost_ret (v := .agg #[.int .i64 a, .int .i64 b, .int .i64 c]) (by simp [results, Try.results79, go_sem, rc0, rc1, rc2]) rfl ⟨rfl, blp3 (bw_below B5 p5) (by omega)⟩

set_option maxRecDepth 100000 in
set_option maxHeartbeats 4000000 in
theorem vec_pair (g : FuncId) (bd : Array Value) (x y z a b c r1 r2 r3 : Int) (w : World) (hg : Enters Try.prog g)
    (hx : ∀ w', Below w.heap.size w w' → Calls Try.prog g (#[.int .i64 x, .int .i64 a] ++ bd) w' fun e w'' => e = .returned (.int .i64 r1) ∧ Below w'.heap.size w' w'')
    (hy : ∀ w', Below w.heap.size w w' → Calls Try.prog g (#[.int .i64 y, .int .i64 b] ++ bd) w' fun e w'' => e = .returned (.int .i64 r2) ∧ Below w'.heap.size w' w'')
    (hz : ∀ w', Below w.heap.size w w' → Calls Try.prog g (#[.int .i64 z, .int .i64 c] ++ bd) w' fun e w'' => e = .returned (.int .i64 r3) ∧ Below w'.heap.size w' w'') :
    Calls Try.prog 76 #[.agg #[.int .i64 x, .int .i64 y, .int .i64 z], .agg #[.int .i64 a, .int .i64 b, .int .i64 c], .func (.func g) #[] bd] w fun e w' => e = .returned (.agg #[.int .i64 r1, .int .i64 r2, .int .i64 r3]) ∧ Below w.heap.size w w' := by
  have K1 := Lib.hid (fun w => vec_coordinates x y z w)
  have K2 := Lib.hid (fun w => vec_coordinates a b c w)
  have eg : ∀ args w, (callFunc g args).run Try.prog w = .ok (.enter g args) w := hg
  go_enter Try.func76, Try.ntmps76
  go_upto_region 1 with (fail)
  obtain ⟨W1, hW1⟩ : ∃ W, W = ((w.alloc (.cells #[.int .i64 x, .int .i64 y, .int .i64 z] 23)).alloc (.cells #[.int .i64 a, .int .i64 b, .int .i64 c] 23)).alloc (.cells #[.int .i64 0, .int .i64 0, .int .i64 0] 23) := ⟨_, rfl⟩
  obtain ⟨k_v, k_u, k_r, B1⟩ := st3 hW1
  rw [← hW1]
  clear hW1
  have l_u : w.heap.size < w.heap.size + 1 := by omega
  have l_r : w.heap.size + 1 < w.heap.size + 1 + 1 := by omega
  generalize w.heap.size + 1 + 1 = g_r at *
  generalize w.heap.size + 1 = g_u at *
  obtain ⟨c_v_0, c_v_1, c_v_2⟩ := bwc3 (k_v)
  obtain ⟨c_u_0, c_u_1, c_u_2⟩ := bwc3 (k_u)
  obtain ⟨c_r_0, c_r_1, c_r_2⟩ := bwc3 (k_r)
  obtain ⟨p1, hp1⟩ : ∃ p : BW W1, p.w = W1 := ⟨BW.start W1, rfl⟩
  rw [← hp1]
  clear hp1
  refine wp_region_float2 (t1 := 74) (z1 := #[.int .i64 0, .int .i64 0, .int .i64 0]) (t2 := 74) (z2 := #[.int .i64 0, .int .i64 0, .int .i64 0]) 6 4 5 7 8 36 (by kernel_rfl) (by kernel_rfl) (by kernel_rfl) (by kernel_rfl) (by kernel_rfl) (by decide) (by kernel_rfl) rfl rfl ?_ ?_ ?_
  · intro ev wx
    simp [execOp, go_sem]
  · intro ev wx
    simp [execOp, go_sem]
  apply Exists.intro
  refine ⟨?_, ?_⟩
  · intro wb' hwb'
    obtain ⟨d_v_0, d_v_1, d_v_2⟩ := bwc3 (k_v.below hwb')
    obtain ⟨d_u_0, d_u_1, d_u_2⟩ := bwc3 (k_u.below hwb')
    obtain ⟨d_r_0, d_r_1, d_r_2⟩ := bwc3 (k_r.below hwb')
    simp only [mask2, maskAt, List.take_succ_cons, List.take_zero]
    repeat (go_big_quiet_step (first
      | (go_at_call 75; (first | (with_reducible exact bw_call K1.out _) | (with_reducible exact bw_call K2.out _)))))
    refine wpQuiet_nil ?_
    exact rfl
  intro W2 g_l g_m hW hga hgb n_m k_l k_m
  have B2 : Below w.heap.size w W2 := B1.trans (hW.mono B1.size)
  have l_l : g_r < g_l := Nat.lt_of_lt_of_le k_r.lt hga
  have l_m : g_r < g_m := Nat.lt_of_lt_of_le k_r.lt hgb
  have k_v := k_v.below hW
  have k_u := k_u.below hW
  have k_r := k_r.below hW
  clear hW hga hgb B1
  clear c_v_0 c_v_1 c_v_2 c_u_0 c_u_1 c_u_2 c_r_0 c_r_1 c_r_2
  simp only [List.drop_succ_cons, List.drop_zero, Act.put, List.setIfInBounds_toArray, List.set_cons_zero, List.set_cons_succ]
  obtain ⟨c_v_0, c_v_1, c_v_2⟩ := bwc3 (k_v)
  obtain ⟨c_u_0, c_u_1, c_u_2⟩ := bwc3 (k_u)
  obtain ⟨c_r_0, c_r_1, c_r_2⟩ := bwc3 (k_r)
  obtain ⟨c_l_0, c_l_1, c_l_2⟩ := bwc3 (k_l)
  obtain ⟨f_l_0, f_l_1, f_l_2⟩ := bwf3 (k_l)
  obtain ⟨c_m_0, c_m_1, c_m_2⟩ := bwc3 (k_m)
  obtain ⟨f_m_0, f_m_1, f_m_2⟩ := bwf3 (k_m)
  obtain ⟨p2, hp2⟩ : ∃ p : BW W2, p.w = W2 := ⟨BW.start W2, rfl⟩
  rw [← hp2]
  clear hp2
  go_upto_region 2 with (fail)
  obtain ⟨W3, hW3⟩ : ∃ W, W = ((p2.w.setCell ⟨g_l, 0, none⟩ (.int .i64 x)).setCell ⟨g_l, 1, none⟩ (.int .i64 y)).setCell ⟨g_l, 2, none⟩ (.int .i64 z) := ⟨_, rfl⟩
  have B3 : Below w.heap.size w W3 := by rw [hW3]; exact blp3 (bw_below B2 p2) (by omega)
  have k_v := bkoe3 hW3 (k_v.below p2.h) (by omega)
  have k_u := bkoe3 hW3 (k_u.below p2.h) (by omega)
  have k_r := bkoe3 hW3 (k_r.below p2.h) (by omega)
  have k_l := bkpe3 hW3 (k_l.below p2.h)
  have k_m := bkoe3 hW3 (k_m.below p2.h) (by omega)
  rw [← hW3]
  clear hW3
  clear B2
  clear c_v_0 c_v_1 c_v_2 c_u_0 c_u_1 c_u_2 c_r_0 c_r_1 c_r_2 c_l_0 c_l_1 c_l_2 f_l_0 f_l_1 f_l_2 c_m_0 c_m_1 c_m_2 f_m_0 f_m_1 f_m_2
  obtain ⟨c_v_0, c_v_1, c_v_2⟩ := bwc3 (k_v)
  obtain ⟨c_u_0, c_u_1, c_u_2⟩ := bwc3 (k_u)
  obtain ⟨c_r_0, c_r_1, c_r_2⟩ := bwc3 (k_r)
  obtain ⟨c_l_0, c_l_1, c_l_2⟩ := bwc3 (k_l)
  obtain ⟨c_m_0, c_m_1, c_m_2⟩ := bwc3 (k_m)
  obtain ⟨f_m_0, f_m_1, f_m_2⟩ := bwf3 (k_m)
  obtain ⟨p3, hp3⟩ : ∃ p : BW W3, p.w = W3 := ⟨BW.start W3, rfl⟩
  rw [← hp3]
  clear hp3
  obtain ⟨W4, hW4⟩ : ∃ W, W = ((p3.w.setCell ⟨g_m, 0, none⟩ (.int .i64 a)).setCell ⟨g_m, 1, none⟩ (.int .i64 b)).setCell ⟨g_m, 2, none⟩ (.int .i64 c) := ⟨_, rfl⟩
  have B4 : Below w.heap.size w W4 := by rw [hW4]; exact blp3 (bw_below B3 p3) (by omega)
  have k_v := bkoe3 hW4 (k_v.below p3.h) (by omega)
  have k_u := bkoe3 hW4 (k_u.below p3.h) (by omega)
  have k_r := bkoe3 hW4 (k_r.below p3.h) (by omega)
  have k_l := bkoe3 hW4 (k_l.below p3.h) (by omega)
  have k_m := bkpe3 hW4 (k_m.below p3.h)
  rw [← hW4]
  clear hW4
  clear B3
  clear c_v_0 c_v_1 c_v_2 c_u_0 c_u_1 c_u_2 c_r_0 c_r_1 c_r_2 c_l_0 c_l_1 c_l_2 c_m_0 c_m_1 c_m_2 f_m_0 f_m_1 f_m_2
  obtain ⟨c_v_0, c_v_1, c_v_2⟩ := bwc3 (k_v)
  obtain ⟨c_u_0, c_u_1, c_u_2⟩ := bwc3 (k_u)
  obtain ⟨c_r_0, c_r_1, c_r_2⟩ := bwc3 (k_r)
  obtain ⟨c_l_0, c_l_1, c_l_2⟩ := bwc3 (k_l)
  obtain ⟨f_l_0, f_l_1, f_l_2⟩ := bwf3 (k_l)
  obtain ⟨c_m_0, c_m_1, c_m_2⟩ := bwc3 (k_m)
  obtain ⟨p4, hp4⟩ : ∃ p : BW W4, p.w = W4 := ⟨BW.start W4, rfl⟩
  rw [← hp4]
  clear hp4
  have i0 : ∀ w, (Instr.index 74 (.agg #[.int .i64 x, .int .i64 y, .int .i64 z]) (.int .i64 0)).run Try.prog w = .ok (.int .i64 x) w := fun _ => by kernel_rfl
  have i1 : ∀ w, (Instr.index 74 (.agg #[.int .i64 x, .int .i64 y, .int .i64 z]) (.int .i64 1)).run Try.prog w = .ok (.int .i64 y) w := fun _ => by kernel_rfl
  have i2 : ∀ w, (Instr.index 74 (.agg #[.int .i64 x, .int .i64 y, .int .i64 z]) (.int .i64 2)).run Try.prog w = .ok (.int .i64 z) w := fun _ => by kernel_rfl
  go_wp2
  refine wp_loop_rounds 4 ?_
  have KX := bw_callB hx B4
  rw [rounds_succ]
  go_upto_region 6 with (with_reducible refine (KX _).mono ?_; rintro e w' ⟨rfl, q, rfl⟩)
  clear KX
  obtain ⟨W5, hW5⟩ : ∃ W, W = q.w.setCell ⟨g_l, 0, none⟩ (.int .i64 r1) := ⟨_, rfl⟩
  have B5 : Below w.heap.size w W5 := by rw [hW5]; exact ((bw_below B4 q).setCell (p := ⟨g_l, 0, none⟩) (by show w.heap.size ≤ g_l; omega) _)
  have k_v : Bk W5 (w.heap.size) 23 #[.int .i64 x, .int .i64 y, .int .i64 z] := by rw [hW5]; exact ((k_v.below q.h).other (a := ⟨g_l, 0, none⟩) (by show ¬ w.heap.size = g_l; omega) (.int .i64 r1))
  have k_u : Bk W5 (g_u) 23 #[.int .i64 a, .int .i64 b, .int .i64 c] := by rw [hW5]; exact ((k_u.below q.h).other (a := ⟨g_l, 0, none⟩) (by show ¬ g_u = g_l; omega) (.int .i64 r1))
  have k_r : Bk W5 (g_r) 23 #[.int .i64 0, .int .i64 0, .int .i64 0] := by rw [hW5]; exact ((k_r.below q.h).other (a := ⟨g_l, 0, none⟩) (by show ¬ g_r = g_l; omega) (.int .i64 r1))
  have k_l : Bk W5 (g_l) 74 #[.int .i64 r1, .int .i64 y, .int .i64 z] := by rw [hW5]; exact ((k_l.below q.h).set 0 (.int .i64 r1)).cast (by simp)
  have k_m : Bk W5 (g_m) 74 #[.int .i64 a, .int .i64 b, .int .i64 c] := by rw [hW5]; exact ((k_m.below q.h).other (a := ⟨g_l, 0, none⟩) (by show ¬ g_m = g_l; omega) (.int .i64 r1))
  rw [← hW5]
  clear hW5
  clear B4
  clear c_v_0 c_v_1 c_v_2 c_u_0 c_u_1 c_u_2 c_r_0 c_r_1 c_r_2 c_l_0 c_l_1 c_l_2 f_l_0 f_l_1 f_l_2 c_m_0 c_m_1 c_m_2
  obtain ⟨c_v_0, c_v_1, c_v_2⟩ := bwc3 (k_v)
  obtain ⟨c_u_0, c_u_1, c_u_2⟩ := bwc3 (k_u)
  obtain ⟨c_r_0, c_r_1, c_r_2⟩ := bwc3 (k_r)
  obtain ⟨c_l_0, c_l_1, c_l_2⟩ := bwc3 (k_l)
  obtain ⟨f_l_0, f_l_1, f_l_2⟩ := bwf3 (k_l)
  obtain ⟨c_m_0, c_m_1, c_m_2⟩ := bwc3 (k_m)
  obtain ⟨p5, hp5⟩ : ∃ p : BW W5, p.w = W5 := ⟨BW.start W5, rfl⟩
  rw [← hp5]
  clear hp5
  go_wp2
  have KX := bw_callB hy B5
  rw [rounds_succ]
  go_upto_region 6 with (with_reducible refine (KX _).mono ?_; rintro e w' ⟨rfl, q, rfl⟩)
  clear KX
  obtain ⟨W6, hW6⟩ : ∃ W, W = q.w.setCell ⟨g_l, 1, none⟩ (.int .i64 r2) := ⟨_, rfl⟩
  have B6 : Below w.heap.size w W6 := by rw [hW6]; exact ((bw_below B5 q).setCell (p := ⟨g_l, 1, none⟩) (by show w.heap.size ≤ g_l; omega) _)
  have k_v : Bk W6 (w.heap.size) 23 #[.int .i64 x, .int .i64 y, .int .i64 z] := by rw [hW6]; exact ((k_v.below q.h).other (a := ⟨g_l, 1, none⟩) (by show ¬ w.heap.size = g_l; omega) (.int .i64 r2))
  have k_u : Bk W6 (g_u) 23 #[.int .i64 a, .int .i64 b, .int .i64 c] := by rw [hW6]; exact ((k_u.below q.h).other (a := ⟨g_l, 1, none⟩) (by show ¬ g_u = g_l; omega) (.int .i64 r2))
  have k_r : Bk W6 (g_r) 23 #[.int .i64 0, .int .i64 0, .int .i64 0] := by rw [hW6]; exact ((k_r.below q.h).other (a := ⟨g_l, 1, none⟩) (by show ¬ g_r = g_l; omega) (.int .i64 r2))
  have k_l : Bk W6 (g_l) 74 #[.int .i64 r1, .int .i64 r2, .int .i64 z] := by rw [hW6]; exact ((k_l.below q.h).set 1 (.int .i64 r2)).cast (by simp)
  have k_m : Bk W6 (g_m) 74 #[.int .i64 a, .int .i64 b, .int .i64 c] := by rw [hW6]; exact ((k_m.below q.h).other (a := ⟨g_l, 1, none⟩) (by show ¬ g_m = g_l; omega) (.int .i64 r2))
  rw [← hW6]
  clear hW6
  clear B5
  clear c_v_0 c_v_1 c_v_2 c_u_0 c_u_1 c_u_2 c_r_0 c_r_1 c_r_2 c_l_0 c_l_1 c_l_2 f_l_0 f_l_1 f_l_2 c_m_0 c_m_1 c_m_2
  obtain ⟨c_v_0, c_v_1, c_v_2⟩ := bwc3 (k_v)
  obtain ⟨c_u_0, c_u_1, c_u_2⟩ := bwc3 (k_u)
  obtain ⟨c_r_0, c_r_1, c_r_2⟩ := bwc3 (k_r)
  obtain ⟨c_l_0, c_l_1, c_l_2⟩ := bwc3 (k_l)
  obtain ⟨f_l_0, f_l_1, f_l_2⟩ := bwf3 (k_l)
  obtain ⟨c_m_0, c_m_1, c_m_2⟩ := bwc3 (k_m)
  obtain ⟨p6, hp6⟩ : ∃ p : BW W6, p.w = W6 := ⟨BW.start W6, rfl⟩
  rw [← hp6]
  clear hp6
  go_wp2
  have KX := bw_callB hz B6
  rw [rounds_succ]
  go_upto_region 6 with (with_reducible refine (KX _).mono ?_; rintro e w' ⟨rfl, q, rfl⟩)
  clear KX
  obtain ⟨W7, hW7⟩ : ∃ W, W = q.w.setCell ⟨g_l, 2, none⟩ (.int .i64 r3) := ⟨_, rfl⟩
  have B7 : Below w.heap.size w W7 := by rw [hW7]; exact ((bw_below B6 q).setCell (p := ⟨g_l, 2, none⟩) (by show w.heap.size ≤ g_l; omega) _)
  have k_v : Bk W7 (w.heap.size) 23 #[.int .i64 x, .int .i64 y, .int .i64 z] := by rw [hW7]; exact ((k_v.below q.h).other (a := ⟨g_l, 2, none⟩) (by show ¬ w.heap.size = g_l; omega) (.int .i64 r3))
  have k_u : Bk W7 (g_u) 23 #[.int .i64 a, .int .i64 b, .int .i64 c] := by rw [hW7]; exact ((k_u.below q.h).other (a := ⟨g_l, 2, none⟩) (by show ¬ g_u = g_l; omega) (.int .i64 r3))
  have k_r : Bk W7 (g_r) 23 #[.int .i64 0, .int .i64 0, .int .i64 0] := by rw [hW7]; exact ((k_r.below q.h).other (a := ⟨g_l, 2, none⟩) (by show ¬ g_r = g_l; omega) (.int .i64 r3))
  have k_l : Bk W7 (g_l) 74 #[.int .i64 r1, .int .i64 r2, .int .i64 r3] := by rw [hW7]; exact ((k_l.below q.h).set 2 (.int .i64 r3)).cast (by simp)
  have k_m : Bk W7 (g_m) 74 #[.int .i64 a, .int .i64 b, .int .i64 c] := by rw [hW7]; exact ((k_m.below q.h).other (a := ⟨g_l, 2, none⟩) (by show ¬ g_m = g_l; omega) (.int .i64 r3))
  rw [← hW7]
  clear hW7
  clear B6
  clear c_v_0 c_v_1 c_v_2 c_u_0 c_u_1 c_u_2 c_r_0 c_r_1 c_r_2 c_l_0 c_l_1 c_l_2 f_l_0 f_l_1 f_l_2 c_m_0 c_m_1 c_m_2
  obtain ⟨c_v_0, c_v_1, c_v_2⟩ := bwc3 (k_v)
  obtain ⟨c_u_0, c_u_1, c_u_2⟩ := bwc3 (k_u)
  obtain ⟨c_r_0, c_r_1, c_r_2⟩ := bwc3 (k_r)
  obtain ⟨f_r_0, f_r_1, f_r_2⟩ := bwf3 (k_r)
  obtain ⟨c_l_0, c_l_1, c_l_2⟩ := bwc3 (k_l)
  obtain ⟨c_m_0, c_m_1, c_m_2⟩ := bwc3 (k_m)
  obtain ⟨p7, hp7⟩ : ∃ p : BW W7, p.w = W7 := ⟨BW.start W7, rfl⟩
  rw [← hp7]
  clear hp7
  go_wp2
  rw [rounds_succ]
  go_wp2
  have kr := bkp3 (k_r.below p7.h) (.int .i64 r1) (.int .i64 r2) (.int .i64 r3)
  obtain ⟨rc0, rc1, rc2⟩ := rwc3 kr
  exact bodyPost_ret (v := .agg #[.int .i64 r1, .int .i64 r2, .int .i64 r3]) (by simp [results, Try.results76, go_sem, rc0, rc1, rc2]) rfl ⟨rfl, blp3 (bw_below B7 p7) (by omega)⟩

end

end
end Go.Proofs.Ytneacfhoinaeeaa

namespace Go.Proofs.Ytneacfhoinaeeaa
section

section

open Go.RowKit Go.Shelf Go.Shelf Go.Proofs.Sky

set_option linter.unusedVariables false

theorem vec_turned (n : Int) (w : World) (hn : I64 n) :
    Calls Try.prog 80 #[.int .i64 n] w fun e w' => e = .returned (.int .i64 (sat (n * -1))) ∧ Below w.heap.size w w' := by
  have K := Lib.hid (fun w => num_Times n (-1) w hn (by unfold I64; omega))
  generalize sat (n * -1) = r at *
  clear hn
  go_enter Try.func80, Try.ntmps80
  go_wp2_with (go_at_call 81; (with_reducible refine (K.out _).mono ?_); rintro e w' ⟨rfl, rfl⟩)
  go_ret
  exact ⟨rfl, Below.refl _ _⟩

theorem vec_times (m n p : Int) (w : World) (h : wrap64 (m * n) = p) :
    Calls Try.prog 94 #[.int .i64 m, .int .i64 n] w fun e w' => e = .returned (.int .i64 p) ∧ Below w.heap.size w w' := by
  go_enter Try.func94, Try.ntmps94
  go_wp2
  go_ret
  exact ⟨ret_int (by first | rfl | simp only [h]), Below.refl _ _⟩

/-- A sum of three products that do not go round. -/
theorem vec_product (x y z a b c d1 d2 d3 : Int) (w : World) (h1 : d1 = x * a) (h2 : d2 = y * b) (h3 : d3 = z * c)
    (b1 : -2305843009213693952 ≤ d1 ∧ d1 ≤ 2305843009213693952) (b2 : -2305843009213693952 ≤ d2 ∧ d2 ≤ 2305843009213693952) (b3 : -2305843009213693952 ≤ d3 ∧ d3 ≤ 2305843009213693952) :
    Calls Try.prog 93 #[.agg #[.int .i64 x, .int .i64 y, .int .i64 z], .agg #[.int .i64 a, .int .i64 b, .int .i64 c]] w fun e w' => e = .returned (.int .i64 (d1 + d2 + d3)) ∧ Below w.heap.size w w' := by
  have K := Lib.hid (fun w => vec_pair 94 #[] x y z a b c d1 d2 d3 w (enters_of Try.func94 (by kernel_rfl) rfl)
    (fun w' _ => by simpa using vec_times x a d1 w' (by rw [← h1]; exact IntWalk.wrap64_in _ (by omega)))
    (fun w' _ => by simpa using vec_times y b d2 w' (by rw [← h2]; exact IntWalk.wrap64_in _ (by omega)))
    (fun w' _ => by simpa using vec_times z c d3 w' (by rw [← h3]; exact IntWalk.wrap64_in _ (by omega))))
  obtain ⟨s, hs⟩ : ∃ s, s = d1 + d2 := ⟨_, rfl⟩
  obtain ⟨t, ht⟩ : ∃ t, t = s + d3 := ⟨_, rfl⟩
  have w4 : wrap64 s = s := IntWalk.wrap64_in _ (by omega)
  have w5 : wrap64 t = t := IntWalk.wrap64_in _ (by omega)
  have e4 : d1 + d2 = s := hs.symm
  have e5 : s + d3 = t := ht.symm
  rw [e4, e5]
  clear hs ht h1 h2 h3 b1 b2 b3
  go_enter Try.func93, Try.ntmps93
  go_upto_region 1 with (fail)
  obtain ⟨W1, hW1⟩ : ∃ W, W = (w.alloc (.cells #[.int .i64 x, .int .i64 y, .int .i64 z] 23)).alloc (.cells #[.int .i64 a, .int .i64 b, .int .i64 c] 23) := ⟨_, rfl⟩
  obtain ⟨k_v, k_u, B1⟩ := st2 hW1
  rw [← hW1]
  clear hW1
  have l_u : w.heap.size < w.heap.size + 1 := by omega
  generalize w.heap.size + 1 = g_u at *
  obtain ⟨c_v_0, c_v_1, c_v_2⟩ := bwc3 (k_v)
  obtain ⟨c_u_0, c_u_1, c_u_2⟩ := bwc3 (k_u)
  obtain ⟨p1, hp1⟩ : ∃ p : BW W1, p.w = W1 := ⟨BW.start W1, rfl⟩
  rw [← hp1]
  clear hp1
  go_upto_region 2 with (first
    | (go_at_call 76; (first | (with_reducible refine (bw_call K.out _).mono ?_)); rintro e w' ⟨rfl, q, rfl⟩))
  obtain ⟨W2, hW2⟩ : ∃ W, W = q.w.alloc (.cells #[.int .i64 d1, .int .i64 d2, .int .i64 d3] 23) := ⟨_, rfl⟩
  have B2 : Below w.heap.size w W2 := by rw [hW2]; exact (bw_below B1 q).alloc (bw_below B1 q).size _
  have l_l : g_u < q.w.heap.size := (k_u.below q.h).lt
  have o_l : w.heap.size ≤ q.w.heap.size := (bw_below B1 q).size
  have k_v := bka hW2 (k_v.below q.h)
  have k_u := bka hW2 (k_u.below q.h)
  have k_l := bkn hW2
  rw [← hW2]
  clear hW2
  clear B1
  clear c_v_0 c_v_1 c_v_2 c_u_0 c_u_1 c_u_2
  generalize q.w.heap.size = g_l at *
  obtain ⟨c_v_0, c_v_1, c_v_2⟩ := bwc3 (k_v)
  obtain ⟨c_u_0, c_u_1, c_u_2⟩ := bwc3 (k_u)
  obtain ⟨c_l_0, c_l_1, c_l_2⟩ := bwc3 (k_l)
  obtain ⟨p2, hp2⟩ : ∃ p : BW W2, p.w = W2 := ⟨BW.start W2, rfl⟩
  rw [← hp2]
  clear hp2
  go_wp2
  go_ret
  exact ⟨ret_int (by first | rfl | simp only [w5]), bw_below B2 p2⟩

theorem vec_Near (x y z : Int) (w : World) :
    Calls Try.prog 52 #[.agg #[.int .i64 x, .int .i64 y, .int .i64 z]] w fun r w' => r = .returned (.bool (vnear x y z)) ∧ Below w.heap.size w w' := by
  have K := Lib.hid (fun w => vec_within 1048576 x y z w (by omega))
  unfold vnear
  generalize wi 1048576 x y z = r at *
  have hb0 : Below w.heap.size w (w.alloc (.cells #[.int .i64 x, .int .i64 y, .int .i64 z] 23)) := by go_grown
  go_enter Try.func52, Try.ntmps52
  go_wp2_with (go_at_call 63; (with_reducible refine (K.out _).mono ?_); rintro e w1 ⟨rfl, hb⟩)
  go_ret
  exact ⟨rfl, hb0.trans (hb.mono hb0.size)⟩

end

end
end Go.Proofs.Ytneacfhoinaeeaa

namespace Go.Proofs.Ytneacfhoinaeeaa
section

section

open Go.RowKit Go.Shelf Go.Shelf Go.Proofs.Sky

set_option linter.unusedVariables false

set_option maxRecDepth 100000 in
set_option maxHeartbeats 4000000 in
theorem vec_Add (x y z a b c : Int) (w : World) (hx : I64 x) (hy : I64 y) (hz : I64 z) (ha : I64 a) (hb : I64 b) (hc : I64 c) :
    Calls Try.prog 64 #[.agg #[.int .i64 x, .int .i64 y, .int .i64 z], .agg #[.int .i64 a, .int .i64 b, .int .i64 c]] w fun r w' => r = .returned (.agg #[.int .i64 (sat (x + a)), .int .i64 (sat (y + b)), .int .i64 (sat (z + c))]) ∧ Below w.heap.size w w' := by
  have K := Lib.hid (fun w => vec_pair 77 #[] x y z a b c (sat (x + a)) (sat (y + b)) (sat (z + c)) w (enters_of Try.func77 (by kernel_rfl) rfl)
    (fun w' _ => by simpa using below_of_same (fun w => num_Plus x a w hx ha) w')
    (fun w' _ => by simpa using below_of_same (fun w => num_Plus y b w hy hb) w')
    (fun w' _ => by simpa using below_of_same (fun w => num_Plus z c w hz hc) w'))
  clear hx hy hz ha hb hc
  generalize sat (x + a) = r1 at *
  generalize sat (y + b) = r2 at *
  generalize sat (z + c) = r3 at *
  go_enter Try.func64, Try.ntmps64
  go_upto_region 1 with (fail)
  obtain ⟨W1, hW1⟩ : ∃ W, W = ((w.alloc (.cells #[.int .i64 x, .int .i64 y, .int .i64 z] 23)).alloc (.cells #[.int .i64 a, .int .i64 b, .int .i64 c] 23)).alloc (.cells #[.int .i64 0, .int .i64 0, .int .i64 0] 23) := ⟨_, rfl⟩
  obtain ⟨k_v, k_u, k_r, B1⟩ := st3 hW1
  rw [← hW1]
  clear hW1
  have l_u : w.heap.size < w.heap.size + 1 := by omega
  have l_r : w.heap.size + 1 < w.heap.size + 1 + 1 := by omega
  generalize w.heap.size + 1 + 1 = g_r at *
  generalize w.heap.size + 1 = g_u at *
  obtain ⟨c_v_0, c_v_1, c_v_2⟩ := bwc3 (k_v)
  obtain ⟨c_u_0, c_u_1, c_u_2⟩ := bwc3 (k_u)
  obtain ⟨c_r_0, c_r_1, c_r_2⟩ := bwc3 (k_r)
  obtain ⟨f_r_0, f_r_1, f_r_2⟩ := bwf3 (k_r)
  obtain ⟨p1, hp1⟩ : ∃ p : BW W1, p.w = W1 := ⟨BW.start W1, rfl⟩
  rw [← hp1]
  clear hp1
  go_wp2_with (first
    | (go_at_call 76; (first | (with_reducible refine (bw_call K.out _).mono ?_)); rintro e w' ⟨rfl, q, rfl⟩))
  have kr := bkp3 (k_r.below q.h) (.int .i64 r1) (.int .i64 r2) (.int .i64 r3)
  obtain ⟨rc0, rc1, rc2⟩ := rwc3 kr
  exact bodyPost_ret (v := .agg #[.int .i64 r1, .int .i64 r2, .int .i64 r3]) (by simp [results, Try.results64, go_sem, rc0, rc1, rc2]) rfl ⟨rfl, blp3 (bw_below B1 q) (by omega)⟩

set_option maxRecDepth 100000 in
set_option maxHeartbeats 4000000 in
theorem vec_Sub (x y z a b c : Int) (w : World) (hx : I64 x) (hy : I64 y) (hz : I64 z) (ha : I64 a) (hb : I64 b) (hc : I64 c) :
    Calls Try.prog 68 #[.agg #[.int .i64 x, .int .i64 y, .int .i64 z], .agg #[.int .i64 a, .int .i64 b, .int .i64 c]] w fun r w' => r = .returned (.agg #[.int .i64 (vsub x a), .int .i64 (vsub y b), .int .i64 (vsub z c)]) ∧ Below w.heap.size w w' := by
  have K := Lib.hid (fun w => vec_each 80 #[] a b c (sat (a * -1)) (sat (b * -1)) (sat (c * -1)) w (enters_of Try.func80 (by kernel_rfl) rfl)
    (fun w' _ => by simpa using vec_turned a w' ha)
    (fun w' _ => by simpa using vec_turned b w' hb)
    (fun w' _ => by simpa using vec_turned c w' hc))
  have A := Lib.hid (fun w => vec_Add x y z (sat (a * -1)) (sat (b * -1)) (sat (c * -1)) w hx hy hz (sat_I64 _) (sat_I64 _) (sat_I64 _))
  unfold vsub
  clear hx hy hz ha hb hc
  generalize sat (a * -1) = a' at *
  generalize sat (b * -1) = b' at *
  generalize sat (c * -1) = c' at *
  generalize sat (x + a') = r1 at *
  generalize sat (y + b') = r2 at *
  generalize sat (z + c') = r3 at *
  go_enter Try.func68, Try.ntmps68
  go_upto_region 1 with (fail)
  obtain ⟨W1, hW1⟩ : ∃ W, W = ((w.alloc (.cells #[.int .i64 x, .int .i64 y, .int .i64 z] 23)).alloc (.cells #[.int .i64 a, .int .i64 b, .int .i64 c] 23)).alloc (.cells #[.int .i64 0, .int .i64 0, .int .i64 0] 23) := ⟨_, rfl⟩
  obtain ⟨k_v, k_u, k_r, B1⟩ := st3 hW1
  rw [← hW1]
  clear hW1
  have l_u : w.heap.size < w.heap.size + 1 := by omega
  have l_r : w.heap.size + 1 < w.heap.size + 1 + 1 := by omega
  generalize w.heap.size + 1 + 1 = g_r at *
  generalize w.heap.size + 1 = g_u at *
  obtain ⟨c_v_0, c_v_1, c_v_2⟩ := bwc3 (k_v)
  obtain ⟨c_u_0, c_u_1, c_u_2⟩ := bwc3 (k_u)
  obtain ⟨c_r_0, c_r_1, c_r_2⟩ := bwc3 (k_r)
  obtain ⟨f_r_0, f_r_1, f_r_2⟩ := bwf3 (k_r)
  obtain ⟨p1, hp1⟩ : ∃ p : BW W1, p.w = W1 := ⟨BW.start W1, rfl⟩
  rw [← hp1]
  clear hp1
  refine wp_region_bw_tail 4 (by kernel_rfl) (by kernel_rfl) (by kernel_rfl) ?_
  simp only [List.take_succ_cons, List.take_zero, List.drop_succ_cons, List.drop_zero]
  repeat (go_big_quiet_step (first
    | (go_at_call 79; (first | (with_reducible exact bw_call K.out _)))
    | (go_at_call 64; (first | (with_reducible exact bw_call A.out _)))))
  refine wpQuiet_nil ?_
  intro _ hw'
  obtain ⟨q, rfl⟩ := hw'
  go_wp2
  have kr := bkp3 (k_r.below q.h) (.int .i64 r1) (.int .i64 r2) (.int .i64 r3)
  obtain ⟨rc0, rc1, rc2⟩ := rwc3 kr
  exact bodyPost_ret (v := .agg #[.int .i64 r1, .int .i64 r2, .int .i64 r3]) (by simp [results, Try.results68, go_sem, rc0, rc1, rc2]) rfl ⟨rfl, blp3 (bw_below B1 q) (by omega)⟩

set_option maxRecDepth 100000 in
set_option maxHeartbeats 4000000 in
theorem vec_Dot_no (x y z a b c : Int) (w : World) (h : ¬ (vnear x y z = true ∧ vnear a b c = true)) :
    Calls Try.prog 86 #[.agg #[.int .i64 x, .int .i64 y, .int .i64 z], .agg #[.int .i64 a, .int .i64 b, .int .i64 c]] w fun r w' => r = .returned (.int .i64 0) ∧ Below w.heap.size w w' := by
  have K1 := Lib.hid (fun w => vec_Near x y z w)
  have K2 := Lib.hid (fun w => vec_Near a b c w)
  generalize vnear x y z = n1 at *
  generalize vnear a b c = n2 at *
  cases n1 <;> cases n2
  case true.true => exact absurd ⟨rfl, rfl⟩ h
  all_goals
    clear h
    go_enter Try.func86, Try.ntmps86
    go_upto_region 1 with (fail)
    obtain ⟨W1, hW1⟩ : ∃ W, W = (w.alloc (.cells #[.int .i64 x, .int .i64 y, .int .i64 z] 23)).alloc (.cells #[.int .i64 a, .int .i64 b, .int .i64 c] 23) := ⟨_, rfl⟩
    obtain ⟨k_v, k_u, B1⟩ := st2 hW1
    rw [← hW1]
    clear hW1
    have l_u : w.heap.size < w.heap.size + 1 := by omega
    generalize w.heap.size + 1 = g_u at *
    obtain ⟨c_v_0, c_v_1, c_v_2⟩ := bwc3 (k_v)
    obtain ⟨c_u_0, c_u_1, c_u_2⟩ := bwc3 (k_u)
    obtain ⟨p1, hp1⟩ : ∃ p : BW W1, p.w = W1 := ⟨BW.start W1, rfl⟩
    rw [← hp1]
    clear hp1
    go_wp2_with (first
      | (go_at_call 52; (first | (with_reducible refine (bw_call K1.out _).mono ?_) | (with_reducible refine (bw_call K2.out _).mono ?_)); rintro e w' ⟨rfl, q, rfl⟩))
    go_ret
    exact ⟨rfl, bw_below B1 q⟩

set_option maxRecDepth 100000 in
set_option maxHeartbeats 4000000 in
theorem vec_Dot (x y z a b c : Int) (w : World) :
    Calls Try.prog 86 #[.agg #[.int .i64 x, .int .i64 y, .int .i64 z], .agg #[.int .i64 a, .int .i64 b, .int .i64 c]] w fun r w' => r = .returned (.int .i64 (vdot x y z a b c)) ∧ Below w.heap.size w w' := by
  by_cases h : vnear x y z = true ∧ vnear a b c = true
  · have K1 := Lib.hid (fun w => vec_Near x y z w)
    have K2 := Lib.hid (fun w => vec_Near a b c w)
    unfold vdot
    rw [if_pos h]
    rw [h.1] at K1
    rw [h.2] at K2
    obtain ⟨h1, h2⟩ := h
    rw [vnear_iff] at h1 h2
    have p1 := near_mul (x := x) (a := a) (by omega) (by omega)
    have p2 := near_mul (x := y) (a := b) (by omega) (by omega)
    have p3 := near_mul (x := z) (a := c) (by omega) (by omega)
    have K := Lib.hid (fun w => vec_product x y z a b c _ _ _ w rfl rfl rfl (by omega) (by omega) (by omega))
    generalize x * a + y * b + z * c = r at *
    clear h1 h2 p1 p2 p3
    go_enter Try.func86, Try.ntmps86
    go_upto_region 1 with (fail)
    obtain ⟨W1, hW1⟩ : ∃ W, W = (w.alloc (.cells #[.int .i64 x, .int .i64 y, .int .i64 z] 23)).alloc (.cells #[.int .i64 a, .int .i64 b, .int .i64 c] 23) := ⟨_, rfl⟩
    obtain ⟨k_v, k_u, B1⟩ := st2 hW1
    rw [← hW1]
    clear hW1
    have l_u : w.heap.size < w.heap.size + 1 := by omega
    generalize w.heap.size + 1 = g_u at *
    obtain ⟨c_v_0, c_v_1, c_v_2⟩ := bwc3 (k_v)
    obtain ⟨c_u_0, c_u_1, c_u_2⟩ := bwc3 (k_u)
    obtain ⟨p1, hp1⟩ : ∃ p : BW W1, p.w = W1 := ⟨BW.start W1, rfl⟩
    rw [← hp1]
    clear hp1
    go_wp2_with (first
      | (go_at_call 52; (first | (with_reducible refine (bw_call K1.out _).mono ?_) | (with_reducible refine (bw_call K2.out _).mono ?_)); rintro e w' ⟨rfl, q, rfl⟩)
      | (go_at_call 93; (first | (with_reducible refine (bw_call K.out _).mono ?_)); rintro e w' ⟨rfl, q, rfl⟩))
    go_ret
    exact ⟨rfl, bw_below B1 q⟩
  · have e : vdot x y z a b c = 0 := by unfold vdot; rw [if_neg h]
    rw [e]
    exact vec_Dot_no x y z a b c w h

set_option maxRecDepth 100000 in
set_option maxHeartbeats 4000000 in
theorem vec_Cross_no (x y z a b c : Int) (w : World) (h : ¬ (vnear x y z = true ∧ vnear a b c = true)) :
    Calls Try.prog 67 #[.agg #[.int .i64 x, .int .i64 y, .int .i64 z], .agg #[.int .i64 a, .int .i64 b, .int .i64 c]] w fun r w' => r = .returned (.agg #[.int .i64 0, .int .i64 0, .int .i64 0]) ∧ Below w.heap.size w w' := by
  have K1 := Lib.hid (fun w => vec_Near x y z w)
  have K2 := Lib.hid (fun w => vec_Near a b c w)
  generalize vnear x y z = n1 at *
  generalize vnear a b c = n2 at *
  cases n1 <;> cases n2
  case true.true => exact absurd ⟨rfl, rfl⟩ h
  all_goals
    clear h
    go_enter Try.func67, Try.ntmps67
    go_upto_region 1 with (fail)
    obtain ⟨W1, hW1⟩ : ∃ W, W = ((w.alloc (.cells #[.int .i64 x, .int .i64 y, .int .i64 z] 23)).alloc (.cells #[.int .i64 a, .int .i64 b, .int .i64 c] 23)).alloc (.cells #[.int .i64 0, .int .i64 0, .int .i64 0] 23) := ⟨_, rfl⟩
    obtain ⟨k_v, k_u, k_r, B1⟩ := st3 hW1
    rw [← hW1]
    clear hW1
    have l_u : w.heap.size < w.heap.size + 1 := by omega
    have l_r : w.heap.size + 1 < w.heap.size + 1 + 1 := by omega
    generalize w.heap.size + 1 + 1 = g_r at *
    generalize w.heap.size + 1 = g_u at *
    obtain ⟨c_v_0, c_v_1, c_v_2⟩ := bwc3 (k_v)
    obtain ⟨c_u_0, c_u_1, c_u_2⟩ := bwc3 (k_u)
    obtain ⟨c_r_0, c_r_1, c_r_2⟩ := bwc3 (k_r)
    obtain ⟨f_r_0, f_r_1, f_r_2⟩ := bwf3 (k_r)
    obtain ⟨p1, hp1⟩ : ∃ p : BW W1, p.w = W1 := ⟨BW.start W1, rfl⟩
    rw [← hp1]
    clear hp1
    go_wp2_with (first
      | (go_at_call 52; (first | (with_reducible refine (bw_call K1.out _).mono ?_) | (with_reducible refine (bw_call K2.out _).mono ?_)); rintro e w' ⟨rfl, q, rfl⟩))
    have kr := bkp3 (k_r.below q.h) (.int .i64 0) (.int .i64 0) (.int .i64 0)
    obtain ⟨rc0, rc1, rc2⟩ := rwc3 kr
    exact bodyPost_ret (v := .agg #[.int .i64 0, .int .i64 0, .int .i64 0]) (by simp [results, Try.results67, go_sem, rc0, rc1, rc2]) rfl ⟨rfl, blp3 (bw_below B1 q) (by omega)⟩

set_option maxRecDepth 100000 in
set_option maxHeartbeats 4000000 in
theorem vec_Cross (x y z a b c : Int) (w : World) :
    Calls Try.prog 67 #[.agg #[.int .i64 x, .int .i64 y, .int .i64 z], .agg #[.int .i64 a, .int .i64 b, .int .i64 c]] w fun r w' => r = .returned (.agg #[.int .i64 (vcr x y z a b c).1, .int .i64 (vcr x y z a b c).2.1, .int .i64 (vcr x y z a b c).2.2]) ∧ Below w.heap.size w w' := by
  by_cases h : vnear x y z = true ∧ vnear a b c = true
  · have K1 := Lib.hid (fun w => vec_Near x y z w)
    have K2 := Lib.hid (fun w => vec_Near a b c w)
    unfold vcr
    rw [if_pos h]
    dsimp only
    rw [h.1] at K1
    rw [h.2] at K2
    obtain ⟨h1, h2⟩ := h
    rw [vnear_iff] at h1 h2
    obtain ⟨p1, q1, r1, hr1, _, _, ⟨e11, e12, e13, w11, w12, w13, v11, v12, v13⟩⟩ := DifIn.make (x := y) (a := c) (y := z) (b := b) (by omega) (by omega) (by omega) (by omega)
    obtain ⟨p2, q2, r2, hr2, _, _, ⟨e21, e22, e23, w21, w22, w23, v21, v22, v23⟩⟩ := DifIn.make (x := z) (a := a) (y := x) (b := c) (by omega) (by omega) (by omega) (by omega)
    obtain ⟨p3, q3, r3, hr3, _, _, ⟨e31, e32, e33, w31, w32, w33, v31, v32, v33⟩⟩ := DifIn.make (x := x) (a := b) (y := y) (b := a) (by omega) (by omega) (by omega) (by omega)
    rw [← hr1, ← hr2, ← hr3]
    clear hr1 hr2 hr3 h1 h2
    go_enter Try.func67, Try.ntmps67
    go_upto_region 1 with (fail)
    obtain ⟨W1, hW1⟩ : ∃ W, W = ((w.alloc (.cells #[.int .i64 x, .int .i64 y, .int .i64 z] 23)).alloc (.cells #[.int .i64 a, .int .i64 b, .int .i64 c] 23)).alloc (.cells #[.int .i64 0, .int .i64 0, .int .i64 0] 23) := ⟨_, rfl⟩
    obtain ⟨k_v, k_u, k_r, B1⟩ := st3 hW1
    rw [← hW1]
    clear hW1
    have l_u : w.heap.size < w.heap.size + 1 := by omega
    have l_r : w.heap.size + 1 < w.heap.size + 1 + 1 := by omega
    generalize w.heap.size + 1 + 1 = g_r at *
    generalize w.heap.size + 1 = g_u at *
    obtain ⟨c_v_0, c_v_1, c_v_2⟩ := bwc3 (k_v)
    obtain ⟨c_u_0, c_u_1, c_u_2⟩ := bwc3 (k_u)
    obtain ⟨c_r_0, c_r_1, c_r_2⟩ := bwc3 (k_r)
    obtain ⟨f_r_0, f_r_1, f_r_2⟩ := bwf3 (k_r)
    obtain ⟨p1, hp1⟩ : ∃ p : BW W1, p.w = W1 := ⟨BW.start W1, rfl⟩
    rw [← hp1]
    clear hp1
    go_wp2_with (first
      | (go_at_call 52; (first | (with_reducible refine (bw_call K1.out _).mono ?_) | (with_reducible refine (bw_call K2.out _).mono ?_)); rintro e w' ⟨rfl, q, rfl⟩))
    have kr := bkp3 (k_r.below q.h) (.int .i64 r1) (.int .i64 r2) (.int .i64 r3)
    obtain ⟨rc0, rc1, rc2⟩ := rwc3 kr
    exact bodyPost_ret (v := .agg #[.int .i64 r1, .int .i64 r2, .int .i64 r3]) (by simp [results, Try.results67, go_sem, rc0, rc1, rc2]) rfl ⟨rfl, blp3 (bw_below B1 q) (by omega)⟩
  · have e : vcr x y z a b c = (0, 0, 0) := by unfold vcr; rw [if_neg h]
    rw [e]
    exact vec_Cross_no x y z a b c w h

end

end
end Go.Proofs.Ytneacfhoinaeeaa
