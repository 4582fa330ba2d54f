/- Contracts of the document's own answers, layer 6 (all but Even, Unit). Contracts of the document's own answers, layer 6: Even, Unit. -/
import Derived.Test.YtfdolgdfadipeaaRef03
import Derived.Test.YtfdolgdfadipeaaMath06
import Derived.Test.YtfdolgdfadipeaaMem02
import Derived.Test.YtfdolgdfadipeaaMem06
import Derived.Deep.DeepCutAuto
import Derived.Deep.RegionHeld3
import Derived.StillTailTactics

namespace Go.Proofs.Ytfdolgdfadipeaa
section
open Go.RowKit Go.Proofs.Sky
set_option linter.unusedVariables false

set_option maxHeartbeats 2000000 in
theorem ref6_within (n x y z : Int) (w : World) (hn : 0 ≤ n ∧ n ≤ 4611686018427387904) :
    Calls Try.prog 39 #[.agg #[.int .i64 x, .int .i64 y, .int .i64 z], .int .i64 n] w fun e w' => e = .returned (.bool (wi n x y z)) ∧ Below w.heap.size w w' := by
  have e1 : IntKind.i64.wrap (-n) = -n := by rw [i64w]; omega
  obtain ⟨m, hm⟩ : ∃ m, m = -n := ⟨_, rfl⟩
  have e2 : wi n x y z = decide (m ≤ x ∧ x ≤ n ∧ m ≤ y ∧ y ≤ n ∧ m ≤ z ∧ z ≤ n) := by unfold wi; rw [hm]
  rw [e2]
  rw [← hm] at e1
  clear e2 hn
  by_cases h1 : m ≤ x
  rotate_left
  · have t0 : decide (m ≤ x ∧ x ≤ n ∧ m ≤ y ∧ y ≤ n ∧ m ≤ z ∧ z ≤ n) = false := decide_eq_false (by omega)
    rw [t0]
    have t1 : decide (m ≤ x) = false := decide_eq_false h1
    clear t0 h1
    subst hm
    go_enter Try.func39, Try.ntmps39
    go_wp2
    go_ret
    exact ⟨rfl, by go_grown⟩
  by_cases h2 : x ≤ n
  rotate_left
  · have t0 : decide (m ≤ x ∧ x ≤ n ∧ m ≤ y ∧ y ≤ n ∧ m ≤ z ∧ z ≤ n) = false := decide_eq_false (by omega)
    rw [t0]
    have t1 : decide (m ≤ x) = true := decide_eq_true h1
    have t2 : decide (x ≤ n) = false := decide_eq_false h2
    clear t0 h1 h2
    subst hm
    go_enter Try.func39, Try.ntmps39
    go_wp2
    go_ret
    exact ⟨rfl, by go_grown⟩
  by_cases h3 : m ≤ y
  rotate_left
  · have t0 : decide (m ≤ x ∧ x ≤ n ∧ m ≤ y ∧ y ≤ n ∧ m ≤ z ∧ z ≤ n) = false := decide_eq_false (by omega)
    rw [t0]
    have t1 : decide (m ≤ x) = true := decide_eq_true h1
    have t2 : decide (x ≤ n) = true := decide_eq_true h2
    have t3 : decide (m ≤ y) = false := decide_eq_false h3
    clear t0 h1 h2 h3
    subst hm
    go_enter Try.func39, Try.ntmps39
    go_wp2
    go_ret
    exact ⟨rfl, by go_grown⟩
  by_cases h4 : y ≤ n
  rotate_left
  · have t0 : decide (m ≤ x ∧ x ≤ n ∧ m ≤ y ∧ y ≤ n ∧ m ≤ z ∧ z ≤ n) = false := decide_eq_false (by omega)
    rw [t0]
    have t1 : decide (m ≤ x) = true := decide_eq_true h1
    have t2 : decide (x ≤ n) = true := decide_eq_true h2
    have t3 : decide (m ≤ y) = true := decide_eq_true h3
    have t4 : decide (y ≤ n) = false := decide_eq_false h4
    clear t0 h1 h2 h3 h4
    subst hm
    go_enter Try.func39, Try.ntmps39
    go_wp2
    go_ret
    exact ⟨rfl, by go_grown⟩
  by_cases h5 : m ≤ z
  rotate_left
  · have t0 : decide (m ≤ x ∧ x ≤ n ∧ m ≤ y ∧ y ≤ n ∧ m ≤ z ∧ z ≤ n) = false := decide_eq_false (by omega)
    rw [t0]
    have t1 : decide (m ≤ x) = true := decide_eq_true h1
    have t2 : decide (x ≤ n) = true := decide_eq_true h2
    have t3 : decide (m ≤ y) = true := decide_eq_true h3
    have t4 : decide (y ≤ n) = true := decide_eq_true h4
    have t5 : decide (m ≤ z) = false := decide_eq_false h5
    clear t0 h1 h2 h3 h4 h5
    subst hm
    go_enter Try.func39, Try.ntmps39
    go_wp2
    go_ret
    exact ⟨rfl, by go_grown⟩
  by_cases h6 : z ≤ n
  rotate_left
  · have t0 : decide (m ≤ x ∧ x ≤ n ∧ m ≤ y ∧ y ≤ n ∧ m ≤ z ∧ z ≤ n) = false := decide_eq_false (by omega)
    rw [t0]
    have t1 : decide (m ≤ x) = true := decide_eq_true h1
    have t2 : decide (x ≤ n) = true := decide_eq_true h2
    have t3 : decide (m ≤ y) = true := decide_eq_true h3
    have t4 : decide (y ≤ n) = true := decide_eq_true h4
    have t5 : decide (m ≤ z) = true := decide_eq_true h5
    have t6 : decide (z ≤ n) = false := decide_eq_false h6
    clear t0 h1 h2 h3 h4 h5 h6
    subst hm
    go_enter Try.func39, Try.ntmps39
    go_wp2
    go_ret
    exact ⟨rfl, by go_grown⟩
  have t0 : decide (m ≤ x ∧ x ≤ n ∧ m ≤ y ∧ y ≤ n ∧ m ≤ z ∧ z ≤ n) = true := decide_eq_true (by omega)
  rw [t0]
  have t1 : decide (m ≤ x) = true := decide_eq_true h1
  have t2 : decide (x ≤ n) = true := decide_eq_true h2
  have t3 : decide (m ≤ y) = true := decide_eq_true h3
  have t4 : decide (y ≤ n) = true := decide_eq_true h4
  have t5 : decide (m ≤ z) = true := decide_eq_true h5
  have t6 : decide (z ≤ n) = true := decide_eq_true h6
  clear t0 h1 h2 h3 h4 h5 h6
  subst hm
  go_enter Try.func39, Try.ntmps39
  go_wp2
  go_ret
  exact ⟨rfl, by go_grown⟩

theorem ref6_Near (x y z : Int) (w : World) :
    Calls Try.prog 30 #[.agg #[.int .i64 x, .int .i64 y, .int .i64 z]] w fun e w' => e = .returned (.bool (vnear x y z)) ∧ Below w.heap.size w w' := by
  have K := Lib.hid (fun w => ref6_within 1048576 x y z w (by omega))
  unfold vnear
  generalize wi 1048576 x y z = r at *
  have hb0 : Below w.heap.size w (w.alloc (.cells #[.int .i64 x, .int .i64 y, .int .i64 z] 26)) := by go_grown
  go_enter Try.func30, Try.ntmps30
  go_wp2_with (go_at_call 39; (with_reducible refine (K.out _).mono ?_); rintro e w1 ⟨rfl, hb⟩)
  go_ret
  exact ⟨rfl, hb0.trans (hb.mono hb0.size)⟩

/-- Products of near numbers and their sum do not go round. -/
structure DotIn (x y z a b c p q r s t : Int) : Prop where
  e1 : x * a = p
  e2 : y * b = q
  e3 : z * c = r
  e4 : p + q = s
  e5 : s + r = t
  w1 : IntKind.i64.wrap p = p
  w2 : IntKind.i64.wrap q = q
  w3 : IntKind.i64.wrap r = r
  w4 : IntKind.i64.wrap s = s
  w5 : IntKind.i64.wrap t = t
  v1 : wrap64 p = p
  v2 : wrap64 q = q
  v3 : wrap64 r = r
  v4 : wrap64 s = s
  v5 : wrap64 t = t
theorem DotIn.make {x y z a b c : Int} (h1 : vnear x y z = true) (h2 : vnear a b c = true) : DotIn x y z a b c (x * a) (y * b) (z * c) (x * a + y * b) (x * a + y * b + z * c) := by
  rw [vnear_iff] at h1 h2
  have p := near_mul (x := x) (a := a) (by omega) (by omega)
  have q := near_mul (x := y) (a := b) (by omega) (by omega)
  have r := near_mul (x := z) (a := c) (by omega) (by omega)
  refine ⟨rfl, rfl, rfl, rfl, rfl, ?_, ?_, ?_, ?_, ?_, ?_, ?_, ?_, ?_, ?_⟩
  all_goals first | (rw [i64w]; omega) | (unfold wrap64; omega)

/-- The difference of two products of near numbers. -/
structure DifIn (x a y b p q r : Int) : Prop where
  e1 : x * a = p
  e2 : y * b = q
  e3 : p - q = r
  w1 : IntKind.i64.wrap p = p
  w2 : IntKind.i64.wrap q = q
  w3 : IntKind.i64.wrap r = r
  v1 : wrap64 p = p
  v2 : wrap64 q = q
  v3 : wrap64 r = r
theorem DifIn.make {x a y b : Int} (h1 : -1048576 ≤ x ∧ x ≤ 1048576) (h2 : -1048576 ≤ a ∧ a ≤ 1048576) (h3 : -1048576 ≤ y ∧ y ≤ 1048576) (h4 : -1048576 ≤ b ∧ b ≤ 1048576) :
    ∃ p q r, r = x * a - y * b ∧ -2199023255552 ≤ r ∧ r ≤ 2199023255552 ∧ DifIn x a y b p q r := by
  have p := near_mul h1 h2
  have q := near_mul h3 h4
  refine ⟨x * a, y * b, _, rfl, by omega, by omega, ⟨rfl, rfl, rfl, ?_, ?_, ?_, ?_, ?_, ?_⟩⟩
  all_goals first | (rw [i64w]; omega) | (unfold wrap64; omega)

/-- The three products of a volume. -/
structure VolIn (x y z r1 r2 r3 p q r s t : Int) : Prop where
  e1 : x * r1 = p
  e2 : y * r2 = q
  e3 : z * r3 = r
  e4 : p + q = s
  e5 : s + r = t
  w1 : IntKind.i64.wrap p = p
  w2 : IntKind.i64.wrap q = q
  w3 : IntKind.i64.wrap r = r
  w4 : IntKind.i64.wrap s = s
  w5 : IntKind.i64.wrap t = t
  v1 : wrap64 p = p
  v2 : wrap64 q = q
  v3 : wrap64 r = r
  v4 : wrap64 s = s
  v5 : wrap64 t = t
theorem VolIn.make {x y z r1 r2 r3 : Int} (h1 : vnear x y z = true) (h2 : -2199023255552 ≤ r1 ∧ r1 ≤ 2199023255552) (h3 : -2199023255552 ≤ r2 ∧ r2 ≤ 2199023255552) (h4 : -2199023255552 ≤ r3 ∧ r3 ≤ 2199023255552) :
    ∃ p q r s t, t = x * r1 + y * r2 + z * r3 ∧ VolIn x y z r1 r2 r3 p q r s t := by
  rw [vnear_iff] at h1
  have p := near_mul3 (x := x) (a := r1) (by omega) (by omega)
  have q := near_mul3 (x := y) (a := r2) (by omega) (by omega)
  have r := near_mul3 (x := z) (a := r3) (by omega) (by omega)
  refine ⟨_, _, _, _, _, rfl, ⟨rfl, rfl, rfl, rfl, rfl, ?_, ?_, ?_, ?_, ?_, ?_, ?_, ?_, ?_, ?_⟩⟩
  all_goals first | (rw [i64w]; omega) | (unfold wrap64; omega)

theorem vdot_small (x y z : Int) : 0 ≤ vdot x y z x y z ∧ vdot x y z x y z ≤ 3298534883328 := by
  unfold vdot
  by_cases h : vnear x y z = true
  · rw [if_pos ⟨h, h⟩]
    rw [vnear_iff] at h
    have p := near_mul (x := x) (a := x) (by omega) (by omega)
    have q := near_mul (x := y) (a := y) (by omega) (by omega)
    have r := near_mul (x := z) (a := z) (by omega) (by omega)
    have p' := sq_nonneg x; have q' := sq_nonneg y; have r' := sq_nonneg z
    omega
  · rw [if_neg (fun g => h g.1)]; omega

theorem tdiv_dv {a b : Int} (hb : 1 ≤ b) : (a < 0 → -(dv (-a) b) = a.tdiv b) ∧ (0 ≤ a → dv a b = a.tdiv b) := by
  unfold dv
  rw [if_neg (by omega), if_neg (by omega)]
  refine ⟨fun h => ?_, fun h => ?_⟩
  · rw [← Int.tdiv_eq_ediv_of_nonneg (show 0 ≤ -a by omega), Int.neg_tdiv, Int.neg_neg]
  · rw [← Int.tdiv_eq_ediv_of_nonneg h]

end
end Go.Proofs.Ytfdolgdfadipeaa

namespace Go.Proofs.Ytfdolgdfadipeaa
section
open Go.RowKit Go.Proofs.Sky
set_option linter.unusedVariables false

/-- A box of three numbers, another one, and nothing that lay in w turned. -/
structure Box3 (w W : World) (g0 g1 : Nat) (t : TypeId) (x y z : Int) : Prop where
  h : Below w.heap.size w W
  b0 : Bk W g0 t #[.int .i64 x, .int .i64 y, .int .i64 z]
  b1 : Bk W g1 t #[.int .i64 0, .int .i64 0, .int .i64 0]
theorem box3_next {w W : World} {g0 g1 : Nat} {t : TypeId} {x y z x' y' z' : Int} (q : BW W) (s : Box3 w W g0 g1 t x y z) (h0 : w.heap.size ≤ g0) (h1 : g0 < g1) :
    Box3 w (((q.w.setCell ⟨g0, 0, none⟩ (.int .i64 x')).setCell ⟨g0, 1, none⟩ (.int .i64 y')).setCell ⟨g0, 2, none⟩ (.int .i64 z')) g0 g1 t x' y' z' :=
  ⟨(((bw_below s.h q).setCell (p := ⟨g0, 0, none⟩) h0 _).setCell (p := ⟨g0, 1, none⟩) h0 _).setCell (p := ⟨g0, 2, none⟩) h0 _,
   (Bk.put3 (s.b0.below q.h) _ _ _).2.2.2,
   (((s.b1.below q.h).other (a := ⟨g0, 0, none⟩) (by show g1 ≠ g0; omega) _).other (a := ⟨g0, 1, none⟩) (by show g1 ≠ g0; omega) _).other (a := ⟨g0, 2, none⟩) (by show g1 ≠ g0; omega) _⟩
def sum3 (W : World) (b : Nat) : Nat := ((W.cell? ⟨b, 0, none⟩).map (fun v => (intOf v).natAbs)).getD 0 + ((W.cell? ⟨b, 1, none⟩).map (fun v => (intOf v).natAbs)).getD 0 + ((W.cell? ⟨b, 2, none⟩).map (fun v => (intOf v).natAbs)).getD 0
theorem sum3_of {W : World} {g : Nat} {t : TypeId} {x y z : Int} (h : Bk W g t #[.int .i64 x, .int .i64 y, .int .i64 z]) : sum3 W g = x.natAbs + y.natAbs + z.natAbs := by
  unfold sum3
  rw [h.cell (i := 0) rfl, h.cell (i := 1) rfl, h.cell (i := 2) rfl]
  rfl

end
end Go.Proofs.Ytfdolgdfadipeaa
