/- Contracts of the document's own answers, layer 6 (all but Even, Unit). Contracts of the document's own answers, layer 6: Even, Unit. -/
import Derived.Test.YtneacfhoinaeeaaMc20
import Derived.Test.YtneacfhoinaeeaaMc6
import Derived.Test.YtneacfhoinaeeaaMc12
import Derived.Deep.DeepCutAuto
import Derived.Deep.RegionHeld3
import Derived.StillTailTactics


namespace Go.Proofs.Ytneacfhoinaeeaa
section

section

open Go.RowKit Go.Proofs.Sky

set_option linter.unusedVariables false

set_option maxHeartbeats 2000000 in
theorem ref6_within (n x y z : Int) (w : World) (hn : 0 ≤ n ∧ n ≤ 4611686018427387904) :
    Calls Try.prog 50 #[.agg #[.int .i64 x, .int .i64 y, .int .i64 z], .int .i64 n] w fun e w' => e = .returned (.bool (wi n x y z)) ∧ Below w.heap.size w w' := by
  have e1 : IntKind.i64.wrap (-n) = -n := by rw [i64w]; omega
  obtain ⟨m, hm⟩ : ∃ m, m = -n := ⟨_, rfl⟩
  have e2 : wi n x y z = decide (m ≤ x ∧ x ≤ n ∧ m ≤ y ∧ y ≤ n ∧ m ≤ z ∧ z ≤ n) := by unfold wi; rw [hm]
  rw [e2]
  rw [← hm] at e1
  clear e2 hn
  by_cases h1 : m ≤ x
  rotate_left
  · have t0 : decide (m ≤ x ∧ x ≤ n ∧ m ≤ y ∧ y ≤ n ∧ m ≤ z ∧ z ≤ n) = false := decide_eq_false (by omega)
    rw [t0]
    have t1 : decide (m ≤ x) = false := decide_eq_false h1
    clear t0 h1
    subst hm
    go_enter Try.func50, Try.ntmps50
    go_wp2
    go_ret
    exact ⟨rfl, by go_grown⟩
  by_cases h2 : x ≤ n
  rotate_left
  · have t0 : decide (m ≤ x ∧ x ≤ n ∧ m ≤ y ∧ y ≤ n ∧ m ≤ z ∧ z ≤ n) = false := decide_eq_false (by omega)
    rw [t0]
    have t1 : decide (m ≤ x) = true := decide_eq_true h1
    have t2 : decide (x ≤ n) = false := decide_eq_false h2
    clear t0 h1 h2
    subst hm
    go_enter Try.func50, Try.ntmps50
    go_wp2
    go_ret
    exact ⟨rfl, by go_grown⟩
  by_cases h3 : m ≤ y
  rotate_left
  · have t0 : decide (m ≤ x ∧ x ≤ n ∧ m ≤ y ∧ y ≤ n ∧ m ≤ z ∧ z ≤ n) = false := decide_eq_false (by omega)
    rw [t0]
    have t1 : decide (m ≤ x) = true := decide_eq_true h1
    have t2 : decide (x ≤ n) = true := decide_eq_true h2
    have t3 : decide (m ≤ y) = false := decide_eq_false h3
    clear t0 h1 h2 h3
    subst hm
    go_enter Try.func50, Try.ntmps50
    go_wp2
    go_ret
    exact ⟨rfl, by go_grown⟩
  by_cases h4 : y ≤ n
  rotate_left
  · have t0 : decide (m ≤ x ∧ x ≤ n ∧ m ≤ y ∧ y ≤ n ∧ m ≤ z ∧ z ≤ n) = false := decide_eq_false (by omega)
    rw [t0]
    have t1 : decide (m ≤ x) = true := decide_eq_true h1
    have t2 : decide (x ≤ n) = true := decide_eq_true h2
    have t3 : decide (m ≤ y) = true := decide_eq_true h3
    have t4 : decide (y ≤ n) = false := decide_eq_false h4
    clear t0 h1 h2 h3 h4
    subst hm
    go_enter Try.func50, Try.ntmps50
    go_wp2
    go_ret
    exact ⟨rfl, by go_grown⟩
  by_cases h5 : m ≤ z
  rotate_left
  · have t0 : decide (m ≤ x ∧ x ≤ n ∧ m ≤ y ∧ y ≤ n ∧ m ≤ z ∧ z ≤ n) = false := decide_eq_false (by omega)
    rw [t0]
    have t1 : decide (m ≤ x) = true := decide_eq_true h1
    have t2 : decide (x ≤ n) = true := decide_eq_true h2
    have t3 : decide (m ≤ y) = true := decide_eq_true h3
    have t4 : decide (y ≤ n) = true := decide_eq_true h4
    have t5 : decide (m ≤ z) = false := decide_eq_false h5
    clear t0 h1 h2 h3 h4 h5
    subst hm
    go_enter Try.func50, Try.ntmps50
    go_wp2
    go_ret
    exact ⟨rfl, by go_grown⟩
  by_cases h6 : z ≤ n
  rotate_left
  · have t0 : decide (m ≤ x ∧ x ≤ n ∧ m ≤ y ∧ y ≤ n ∧ m ≤ z ∧ z ≤ n) = false := decide_eq_false (by omega)
    rw [t0]
    have t1 : decide (m ≤ x) = true := decide_eq_true h1
    have t2 : decide (x ≤ n) = true := decide_eq_true h2
    have t3 : decide (m ≤ y) = true := decide_eq_true h3
    have t4 : decide (y ≤ n) = true := decide_eq_true h4
    have t5 : decide (m ≤ z) = true := decide_eq_true h5
    have t6 : decide (z ≤ n) = false := decide_eq_false h6
    clear t0 h1 h2 h3 h4 h5 h6
    subst hm
    go_enter Try.func50, Try.ntmps50
    go_wp2
    go_ret
    exact ⟨rfl, by go_grown⟩
  have t0 : decide (m ≤ x ∧ x ≤ n ∧ m ≤ y ∧ y ≤ n ∧ m ≤ z ∧ z ≤ n) = true := decide_eq_true (by omega)
  rw [t0]
  have t1 : decide (m ≤ x) = true := decide_eq_true h1
  have t2 : decide (x ≤ n) = true := decide_eq_true h2
  have t3 : decide (m ≤ y) = true := decide_eq_true h3
  have t4 : decide (y ≤ n) = true := decide_eq_true h4
  have t5 : decide (m ≤ z) = true := decide_eq_true h5
  have t6 : decide (z ≤ n) = true := decide_eq_true h6
  clear t0 h1 h2 h3 h4 h5 h6
  subst hm
  go_enter Try.func50, Try.ntmps50
  go_wp2
  go_ret
  exact ⟨rfl, by go_grown⟩

theorem ref6_Near (x y z : Int) (w : World) :
    Calls Try.prog 33 #[.agg #[.int .i64 x, .int .i64 y, .int .i64 z]] w fun e w' => e = .returned (.bool (vnear x y z)) ∧ Below w.heap.size w w' := by
  have K := Lib.hid (fun w => ref6_within 1048576 x y z w (by omega))
  unfold vnear
  generalize wi 1048576 x y z = r at *
  have hb0 : Below w.heap.size w (w.alloc (.cells #[.int .i64 x, .int .i64 y, .int .i64 z] 23)) := by go_grown
  go_enter Try.func33, Try.ntmps33
  go_wp2_with (go_at_call 50; (with_reducible refine (K.out _).mono ?_); rintro e w1 ⟨rfl, hb⟩)
  go_ret
  exact ⟨rfl, hb0.trans (hb.mono hb0.size)⟩

theorem ref6_Add (x y z a b c : Int) (w : World) (hx : I64 x) (hy : I64 y) (hz : I64 z) (ha : I64 a) (hb : I64 b) (hc : I64 c) :
    Calls Try.prog 82 #[.agg #[.int .i64 x, .int .i64 y, .int .i64 z], .agg #[.int .i64 a, .int .i64 b, .int .i64 c]] w fun e w' => e = .returned (.agg #[.int .i64 (sat (x + a)), .int .i64 (sat (y + b)), .int .i64 (sat (z + c))]) ∧ Below w.heap.size w w' := by
  have K1 := Lib.hid (fun w => ref_Plus x a w hx ha)
  have K2 := Lib.hid (fun w => ref_Plus y b w hy hb)
  have K3 := Lib.hid (fun w => ref_Plus z c w hz hc)
  clear hx hy hz ha hb hc
  generalize sat (x + a) = r1 at *
  generalize sat (y + b) = r2 at *
  generalize sat (z + c) = r3 at *
  go_enter Try.func82, Try.ntmps82
  go_wp2
  go_region_held3 (fun w' => w'.cell? ⟨w.heap.size, 0, none⟩ = some (.int .i64 x) ∧ w'.cell? ⟨w.heap.size, 1, none⟩ = some (.int .i64 y) ∧ w'.cell? ⟨w.heap.size, 2, none⟩ = some (.int .i64 z) ∧
      w'.cell? ⟨w.heap.size + 1, 0, none⟩ = some (.int .i64 a) ∧ w'.cell? ⟨w.heap.size + 1, 1, none⟩ = some (.int .i64 b) ∧ w'.cell? ⟨w.heap.size + 1, 2, none⟩ = some (.int .i64 c)) (go_keep)
    (first
      | (go_at_call 90; (first | (with_reducible refine (K1.out _).mono ?_) | (with_reducible refine (K2.out _).mono ?_) | (with_reducible refine (K3.out _).mono ?_)); rintro e w1 ⟨rfl, rfl⟩))
  all_goals go_wp2
  go_returns
  exact ⟨rfl, by go_grown⟩

theorem ref6_Sub (x y z a b c : Int) (w : World) (hx : I64 x) (hy : I64 y) (hz : I64 z) (ha : I64 a) (hb : I64 b) (hc : I64 c) :
    Calls Try.prog 71 #[.agg #[.int .i64 x, .int .i64 y, .int .i64 z], .agg #[.int .i64 a, .int .i64 b, .int .i64 c]] w fun e w' => e = .returned (.agg #[.int .i64 (vsub x a), .int .i64 (vsub y b), .int .i64 (vsub z c)]) ∧ Below w.heap.size w w' := by
  have K1 := Lib.hid (fun w => ref_Times a (-1) w ha (by unfold I64; omega))
  have K2 := Lib.hid (fun w => ref_Times b (-1) w hb (by unfold I64; omega))
  have K3 := Lib.hid (fun w => ref_Times c (-1) w hc (by unfold I64; omega))
  have A := Lib.hid (fun w => ref6_Add x y z (sat (a * -1)) (sat (b * -1)) (sat (c * -1)) w hx hy hz (sat_I64 _) (sat_I64 _) (sat_I64 _))
  unfold vsub
  clear hx hy hz ha hb hc
  generalize sat (a * -1) = a' at *
  generalize sat (b * -1) = b' at *
  generalize sat (c * -1) = c' at *
  generalize sat (x + a') = r1 at *
  generalize sat (y + b') = r2 at *
  generalize sat (z + c') = r3 at *
  obtain ⟨z1, z2, z3, z4, z5, z6⟩ := lt3 w.heap.size
  go_enter Try.func71, Try.ntmps71
  go_wp2
  go_region_held3 (fun w' => w'.cell? ⟨w.heap.size, 0, none⟩ = some (.int .i64 x) ∧ w'.cell? ⟨w.heap.size, 1, none⟩ = some (.int .i64 y) ∧ w'.cell? ⟨w.heap.size, 2, none⟩ = some (.int .i64 z) ∧
      w'.cell? ⟨w.heap.size + 1, 0, none⟩ = some (.int .i64 a) ∧ w'.cell? ⟨w.heap.size + 1, 1, none⟩ = some (.int .i64 b) ∧ w'.cell? ⟨w.heap.size + 1, 2, none⟩ = some (.int .i64 c)) (go_keep)
    (first
      | (go_at_call 83; (first | (with_reducible refine (K1.out _).mono ?_) | (with_reducible refine (K2.out _).mono ?_) | (with_reducible refine (K3.out _).mono ?_)); rintro e w1 ⟨rfl, rfl⟩)
      | (go_at_call 82; (with_reducible refine (A.out _).mono ?_); rintro e w1 ⟨rfl, hb⟩; obtain ⟨hc, hf, y0, y1, y2, y3, y4⟩ := below3 (w := w) w.heap.size (by go_grown) hb (by first | (simp; done) | (simp; omega) | omega)))
  all_goals go_wp2
  have k : Bk w1 (w.heap.size + 1 + 1) 23 #[.int .i64 0, .int .i64 0, .int .i64 0] := by
    refine (Bk.below (w := World.drew _) (Bk.new_at _ _ _ _ ?_).drew hb)
    simp
  obtain ⟨k0, k1, k2, k3⟩ := k.put3 (.int .i64 r1) (.int .i64 r2) (.int .i64 r3)
  exact bodyPost_ret (v := .agg #[.int .i64 r1, .int .i64 r2, .int .i64 r3]) (by simp [results, Try.results71, go_sem, k0, k1, k2]) rfl ⟨rfl, by go_grown⟩

/-- Products of near numbers and their sum do not go round. -/
structure DotIn (x y z a b c p q r s t : Int) : Prop where
  e1 : x * a = p
  e2 : y * b = q
  e3 : z * c = r
  e4 : p + q = s
  e5 : s + r = t
  w1 : IntKind.i64.wrap p = p
  w2 : IntKind.i64.wrap q = q
  w3 : IntKind.i64.wrap r = r
  w4 : IntKind.i64.wrap s = s
  w5 : IntKind.i64.wrap t = t
  v1 : wrap64 p = p
  v2 : wrap64 q = q
  v3 : wrap64 r = r
  v4 : wrap64 s = s
  v5 : wrap64 t = t

theorem DotIn.make {x y z a b c : Int} (h1 : vnear x y z = true) (h2 : vnear a b c = true) : DotIn x y z a b c (x * a) (y * b) (z * c) (x * a + y * b) (x * a + y * b + z * c) := by
  rw [vnear_iff] at h1 h2
  have p := near_mul (x := x) (a := a) (by omega) (by omega)
  have q := near_mul (x := y) (a := b) (by omega) (by omega)
  have r := near_mul (x := z) (a := c) (by omega) (by omega)
  refine ⟨rfl, rfl, rfl, rfl, rfl, ?_, ?_, ?_, ?_, ?_, ?_, ?_, ?_, ?_, ?_⟩
  all_goals first | (rw [i64w]; omega) | (unfold wrap64; omega)

/-- The difference of two products of near numbers. -/
structure DifIn (x a y b p q r : Int) : Prop where
  e1 : x * a = p
  e2 : y * b = q
  e3 : p - q = r
  w1 : IntKind.i64.wrap p = p
  w2 : IntKind.i64.wrap q = q
  w3 : IntKind.i64.wrap r = r
  v1 : wrap64 p = p
  v2 : wrap64 q = q
  v3 : wrap64 r = r

theorem DifIn.make {x a y b : Int} (h1 : -1048576 ≤ x ∧ x ≤ 1048576) (h2 : -1048576 ≤ a ∧ a ≤ 1048576) (h3 : -1048576 ≤ y ∧ y ≤ 1048576) (h4 : -1048576 ≤ b ∧ b ≤ 1048576) :
    ∃ p q r, r = x * a - y * b ∧ -2199023255552 ≤ r ∧ r ≤ 2199023255552 ∧ DifIn x a y b p q r := by
  have p := near_mul h1 h2
  have q := near_mul h3 h4
  refine ⟨x * a, y * b, _, rfl, by omega, by omega, ⟨rfl, rfl, rfl, ?_, ?_, ?_, ?_, ?_, ?_⟩⟩
  all_goals first | (rw [i64w]; omega) | (unfold wrap64; omega)

theorem ref6_Cross_no (x y z a b c : Int) (w : World) (h : ¬ (vnear x y z = true ∧ vnear a b c = true)) :
    Calls Try.prog 70 #[.agg #[.int .i64 x, .int .i64 y, .int .i64 z], .agg #[.int .i64 a, .int .i64 b, .int .i64 c]] w fun e w' => e = .returned (.agg #[.int .i64 0, .int .i64 0, .int .i64 0]) ∧ Below w.heap.size w w' := by
  have K1 := Lib.hid (fun w => ref6_Near x y z w)
  have K2 := Lib.hid (fun w => ref6_Near a b c w)
  generalize vnear x y z = n1 at *
  generalize vnear a b c = n2 at *
  cases n1 <;> cases n2
  case true.true => exact absurd ⟨rfl, rfl⟩ h
  all_goals
    clear h
    go_enter Try.func70, Try.ntmps70
    go_wp2_with (go_at_call 33; (first | (with_reducible refine (K1.out _).mono ?_) | (with_reducible refine (K2.out _).mono ?_)); rintro e w1 ⟨rfl, hb⟩; have kk : Bk w1 (w.heap.size + 1 + 1) 23 #[.int .i64 0, .int .i64 0, .int .i64 0] := (by first | exact kk.below hb | exact Bk.below (Bk.new_at _ _ _ _ (by simp)) hb); obtain ⟨hc, hf, y0, y1, y2, y3, y4⟩ := below3 (w := w) w.heap.size (by go_grown) hb (by first | (simp; done) | (simp; omega) | omega))
    obtain ⟨k0, k1, k2, k3⟩ := kk.put3 (.int .i64 0) (.int .i64 0) (.int .i64 0)
    exact bodyPost_ret (v := .agg #[.int .i64 0, .int .i64 0, .int .i64 0]) (by simp [results, Try.results70, go_sem, k0, k1, k2]) rfl ⟨rfl, by go_grown⟩

theorem ref6_Cross_yes (x y z a b c : Int) (w : World) (h1 : vnear x y z = true) (h2 : vnear a b c = true) :
    Calls Try.prog 70 #[.agg #[.int .i64 x, .int .i64 y, .int .i64 z], .agg #[.int .i64 a, .int .i64 b, .int .i64 c]] w fun e w' => e = .returned (.agg #[.int .i64 (y * c - z * b), .int .i64 (z * a - x * c), .int .i64 (x * b - y * a)]) ∧ Below w.heap.size w w' := by
  have K1 := Lib.hid (fun w => ref6_Near x y z w)
  have K2 := Lib.hid (fun w => ref6_Near a b c w)
  rw [h1] at K1
  rw [h2] at K2
  rw [vnear_iff] at h1 h2
  obtain ⟨p1, q1, r1, hr1, _, _, ⟨e11, e12, e13, w11, w12, w13, v11, v12, v13⟩⟩ := DifIn.make (x := y) (a := c) (y := z) (b := b) (by omega) (by omega) (by omega) (by omega)
  obtain ⟨p2, q2, r2, hr2, _, _, ⟨e21, e22, e23, w21, w22, w23, v21, v22, v23⟩⟩ := DifIn.make (x := z) (a := a) (y := x) (b := c) (by omega) (by omega) (by omega) (by omega)
  obtain ⟨p3, q3, r3, hr3, _, _, ⟨e31, e32, e33, w31, w32, w33, v31, v32, v33⟩⟩ := DifIn.make (x := x) (a := b) (y := y) (b := a) (by omega) (by omega) (by omega) (by omega)
  rw [← hr1, ← hr2, ← hr3]
  clear hr1 hr2 hr3 h1 h2
  go_enter Try.func70, Try.ntmps70
  go_wp2_with (go_at_call 33; (first | (with_reducible refine (K1.out _).mono ?_) | (with_reducible refine (K2.out _).mono ?_)); rintro e w1 ⟨rfl, hb⟩; have kk : Bk w1 (w.heap.size + 1 + 1) 23 #[.int .i64 0, .int .i64 0, .int .i64 0] := (by first | exact kk.below hb | exact Bk.below (Bk.new_at _ _ _ _ (by simp)) hb); obtain ⟨hc, hf, y0, y1, y2, y3, y4⟩ := below3 (w := w) w.heap.size (by go_grown) hb (by first | (simp; done) | (simp; omega) | omega))
  obtain ⟨k0, k1, k2, k3⟩ := kk.put3 (.int .i64 r1) (.int .i64 r2) (.int .i64 r3)
  exact bodyPost_ret (v := .agg #[.int .i64 r1, .int .i64 r2, .int .i64 r3]) (by simp [results, Try.results70, go_sem, k0, k1, k2]) rfl ⟨rfl, by go_grown⟩

theorem ref6_Cross (x y z a b c : Int) (w : World) :
    Calls Try.prog 70 #[.agg #[.int .i64 x, .int .i64 y, .int .i64 z], .agg #[.int .i64 a, .int .i64 b, .int .i64 c]] w fun e w' => e = .returned (.agg #[.int .i64 (vcr x y z a b c).1, .int .i64 (vcr x y z a b c).2.1, .int .i64 (vcr x y z a b c).2.2]) ∧ Below w.heap.size w w' := by
  unfold vcr
  by_cases h : vnear x y z = true ∧ vnear a b c = true
  · rw [if_pos h]; exact ref6_Cross_yes x y z a b c w h.1 h.2
  · rw [if_neg h]; exact ref6_Cross_no x y z a b c w h

/-- The three products of a volume. -/
structure VolIn (x y z r1 r2 r3 p q r s t : Int) : Prop where
  e1 : x * r1 = p
  e2 : y * r2 = q
  e3 : z * r3 = r
  e4 : p + q = s
  e5 : s + r = t
  w1 : IntKind.i64.wrap p = p
  w2 : IntKind.i64.wrap q = q
  w3 : IntKind.i64.wrap r = r
  w4 : IntKind.i64.wrap s = s
  w5 : IntKind.i64.wrap t = t
  v1 : wrap64 p = p
  v2 : wrap64 q = q
  v3 : wrap64 r = r
  v4 : wrap64 s = s
  v5 : wrap64 t = t

theorem VolIn.make {x y z r1 r2 r3 : Int} (h1 : vnear x y z = true) (h2 : -2199023255552 ≤ r1 ∧ r1 ≤ 2199023255552) (h3 : -2199023255552 ≤ r2 ∧ r2 ≤ 2199023255552) (h4 : -2199023255552 ≤ r3 ∧ r3 ≤ 2199023255552) :
    ∃ p q r s t, t = x * r1 + y * r2 + z * r3 ∧ VolIn x y z r1 r2 r3 p q r s t := by
  rw [vnear_iff] at h1
  have p := near_mul3 (x := x) (a := r1) (by omega) (by omega)
  have q := near_mul3 (x := y) (a := r2) (by omega) (by omega)
  have r := near_mul3 (x := z) (a := r3) (by omega) (by omega)
  refine ⟨_, _, _, _, _, rfl, ⟨rfl, rfl, rfl, rfl, rfl, ?_, ?_, ?_, ?_, ?_, ?_, ?_, ?_, ?_, ?_⟩⟩
  all_goals first | (rw [i64w]; omega) | (unfold wrap64; omega)

end

end
end Go.Proofs.Ytneacfhoinaeeaa

namespace Go.Proofs.Ytneacfhoinaeeaa
section

section

open Go.RowKit Go.Proofs.Sky

set_option linter.unusedVariables false

/-- A box of three numbers, another one, and nothing that lay in w turned. -/
structure Box3 (w W : World) (g0 g1 : Nat) (t : TypeId) (x y z : Int) : Prop where
  h : Below w.heap.size w W
  b0 : Bk W g0 t #[.int .i64 x, .int .i64 y, .int .i64 z]
  b1 : Bk W g1 t #[.int .i64 0, .int .i64 0, .int .i64 0]

def sum3 (W : World) (b : Nat) : Nat := ((W.cell? ⟨b, 0, none⟩).map (fun v => (intOf v).natAbs)).getD 0 + ((W.cell? ⟨b, 1, none⟩).map (fun v => (intOf v).natAbs)).getD 0 + ((W.cell? ⟨b, 2, none⟩).map (fun v => (intOf v).natAbs)).getD 0

end

end
end Go.Proofs.Ytneacfhoinaeeaa
