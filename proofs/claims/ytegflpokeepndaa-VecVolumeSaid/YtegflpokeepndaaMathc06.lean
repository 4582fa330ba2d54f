/- Plain mathematics of layer 6, the statement on volumes: what is exchanged, added, taken away. Imports nothing of the translation. -/
import Derived.Test.YtegflpokeepndaaMathb06
namespace Go.Proofs.Sky
open Go.RowKit
set_option linter.unusedVariables false

theorem sat_in {x : Int} (h : -9223372036854775808 ≤ x ∧ x ≤ 9223372036854775807) : sat x = x := by
  unfold sat; rw [if_neg (by omega), if_neg (by omega)]
theorem half_small {x : Int} (h : -1048576 ≤ x ∧ x ≤ 1048576) : ∃ k, k = x.tdiv 2 ∧ -524288 ≤ k ∧ k ≤ 524288 ∧ -1 ≤ x - (k + k) ∧ x - (k + k) ≤ 1 := by
  refine ⟨_, rfl, ?_⟩
  have e := Int.mul_tdiv_add_tmod x 2
  have a := Int.tmod_lt_of_pos x (show (0 : Int) < 2 by omega)
  have b := Int.lt_tmod_of_pos x (show (0 : Int) < 2 by omega)
  omega

/-- One coordinate: half of it, twice that, and what is left. -/
structure Half (x h k o : Int) : Prop where
  h_ : x.tdiv 2 = h
  k_ : sat (h + h) = k
  o_ : vsub x k = o
  a_ : sat (k + o) = x
  wh : wrap64 h = h
  wh' : IntKind.i64.wrap h = h
  s_ : k + o = x
  kn : -1048576 ≤ k ∧ k ≤ 1048576
  on : -1 ≤ o ∧ o ≤ 1
  hn : -524288 ≤ h ∧ h ≤ 524288
theorem Half.make {x : Int} (hx : -1048576 ≤ x ∧ x ≤ 1048576) : ∃ h k o, Half x h k o := by
  obtain ⟨h, e, a, b, c, d⟩ := half_small hx
  refine ⟨h, h + h, x - (h + h), ⟨e.symm, sat_in (by omega), ?_, ?_, ?_, ?_, by omega, by omega, by omega, by omega⟩⟩
  · unfold vsub; rw [sat_in (x := (h + h) * -1) (by omega), sat_in (by omega)]; omega
  · rw [sat_in (by omega)]; omega
  · unfold wrap64; omega
  · rw [i64w]; omega

theorem vvol_small {x y z a b c d e f : Int} (h1 : vnear x y z = true) (h2 : vnear a b c = true) (h3 : vnear d e f = true) : -6917529027641081856 ≤ vvol x y z a b c d e f ∧ vvol x y z a b c d e f ≤ 6917529027641081856 := by
  unfold vvol
  rw [if_pos ⟨h1, h2, h3⟩]
  rw [vnear_iff] at h1 h2 h3
  have p1 := near_mul (x := b) (a := f) (by omega) (by omega)
  have p2 := near_mul (x := c) (a := e) (by omega) (by omega)
  have p3 := near_mul (x := c) (a := d) (by omega) (by omega)
  have p4 := near_mul (x := a) (a := f) (by omega) (by omega)
  have p5 := near_mul (x := a) (a := e) (by omega) (by omega)
  have p6 := near_mul (x := b) (a := d) (by omega) (by omega)
  have q1 := near_mul3 (x := x) (a := b * f - c * e) (by omega) (by omega)
  have q2 := near_mul3 (x := y) (a := c * d - a * f) (by omega) (by omega)
  have q3 := near_mul3 (x := z) (a := a * e - b * d) (by omega) (by omega)
  omega

/-- All that the statement on volumes asks of three near vectors. -/
structure VolAll (x y z a b c d e f n m hx hy hz kx ky kz ox oy oz n1 n2 t t1 t2 p q r p' q' r' : Int) : Prop where
  f1 : vvol x y z a b c d e f = n
  f2 : vvol x y z x y z a b c = 0
  f3 : vvol x y z a b c x y z = 0
  f4 : vvol a b c x y z d e f = m
  f5 : vvol a b c d e f x y z = n
  f6 : vvol d e f a b c x y z = m
  w1 : wrap64 (-n) = m
  w2 : IntKind.i64.wrap (-n) = m
  X : Half x hx kx ox
  Y : Half y hy ky oy
  Z : Half z hz kz oz
  v1 : vvol kx ky kz a b c d e f = n1
  v2 : vvol ox oy oz a b c d e f = n2
  w3 : IntKind.i64.wrap (n1 + n2) = n
  w4 : wrap64 (n1 + n2) = n
  d0 : vdot x y z a b c = t
  d1 : vdot a b c x y z = t
  d2 : vdot kx ky kz a b c = t1
  d3 : vdot ox oy oz a b c = t2
  w5 : IntKind.i64.wrap (t1 + t2) = t
  w6 : wrap64 (t1 + t2) = t
  c1 : vcr x y z a b c = (p, q, r)
  c2 : vcr a b c x y z = (p', q', r')
  s1 : vsub 0 p' = p
  s2 : vsub 0 q' = q
  s3 : vsub 0 r' = r
  i1 : I64 p'
  i2 : I64 q'
  i3 : I64 r'
theorem VolAll.make {x y z a b c d e f : Int} (h1 : vnear x y z = true) (h2 : vnear a b c = true) (h3 : vnear d e f = true) :
    ∃ n m hx hy hz kx ky kz ox oy oz n1 n2 t t1 t2 p q r p' q' r', VolAll x y z a b c d e f n m hx hy hz kx ky kz ox oy oz n1 n2 t t1 t2 p q r p' q' r' := by
  have h1' := vnear_iff.1 h1
  have h2' := vnear_iff.1 h2
  obtain ⟨hx, kx, ox, X⟩ := Half.make (x := x) (by omega)
  obtain ⟨hy, ky, oy, Y⟩ := Half.make (x := y) (by omega)
  obtain ⟨hz, kz, oz, Z⟩ := Half.make (x := z) (by omega)
  have nk : vnear kx ky kz = true := by rw [vnear_iff]; have := X.kn; have := Y.kn; have := Z.kn; omega
  have no : vnear ox oy oz = true := by rw [vnear_iff]; have := X.on; have := Y.on; have := Z.on; omega
  have bn := vvol_small h1 h2 h3
  have ex := X.s_; have ey := Y.s_; have ez := Z.s_
  have p1 := near_mul (x := y) (a := c) (by omega) (by omega)
  have p2 := near_mul (x := z) (a := b) (by omega) (by omega)
  have p3 := near_mul (x := z) (a := a) (by omega) (by omega)
  have p4 := near_mul (x := x) (a := c) (by omega) (by omega)
  have p5 := near_mul (x := x) (a := b) (by omega) (by omega)
  have p6 := near_mul (x := y) (a := a) (by omega) (by omega)
  have p7 := near_mul (x := x) (a := a) (by omega) (by omega)
  have p8 := near_mul (x := y) (a := b) (by omega) (by omega)
  have p9 := near_mul (x := z) (a := c) (by omega) (by omega)
  have eN : vvol kx ky kz a b c d e f + vvol ox oy oz a b c d e f = vvol x y z a b c d e f := by
    unfold vvol
    rw [if_pos ⟨nk, h2, h3⟩, if_pos ⟨no, h2, h3⟩, if_pos ⟨h1, h2, h3⟩, ← ex, ← ey, ← ez]
    grind
  have eD : vdot kx ky kz a b c + vdot ox oy oz a b c = vdot x y z a b c := by
    unfold vdot
    rw [if_pos ⟨nk, h2⟩, if_pos ⟨no, h2⟩, if_pos ⟨h1, h2⟩, ← ex, ← ey, ← ez]
    grind
  have bt : -9223372036854775808 ≤ vdot x y z a b c ∧ vdot x y z a b c ≤ 9223372036854775807 := by
    unfold vdot; rw [if_pos ⟨h1, h2⟩]; omega
  have m1 : ∀ u v : Int, -1099511627776 ≤ u ∧ u ≤ 1099511627776 → -1099511627776 ≤ v ∧ v ≤ 1099511627776 → vsub 0 (u - v) = v - u := fun u v hu hv => by
    unfold vsub; rw [sat_in (x := (u - v) * -1) (by omega), sat_in (by omega)]; omega
  refine ⟨vvol x y z a b c d e f, -vvol x y z a b c d e f, hx, hy, hz, kx, ky, kz, ox, oy, oz, _, _, vdot x y z a b c, _, _, y * c - z * b, z * a - x * c, x * b - y * a, b * z - c * y, c * x - a * z, a * y - b * x,
    ⟨rfl, ?_, ?_, ?_, ?_, ?_, ?_, ?_, X, Y, Z, rfl, rfl, ?_, ?_, rfl, ?_, rfl, rfl, ?_, ?_, ?_, ?_, ?_, ?_, ?_, ?_, ?_, ?_⟩⟩
  · unfold vvol; rw [if_pos ⟨h1, h1, h2⟩]; grind
  · unfold vvol; rw [if_pos ⟨h1, h2, h1⟩]; grind
  · unfold vvol; rw [if_pos ⟨h2, h1, h3⟩, if_pos ⟨h1, h2, h3⟩]; grind
  · unfold vvol; rw [if_pos ⟨h2, h3, h1⟩, if_pos ⟨h1, h2, h3⟩]; grind
  · unfold vvol; rw [if_pos ⟨h3, h2, h1⟩, if_pos ⟨h1, h2, h3⟩]; grind
  · unfold wrap64; omega
  · rw [i64w]; omega
  · rw [eN, i64w]; omega
  · rw [eN]; unfold wrap64; omega
  · unfold vdot; rw [if_pos ⟨h2, h1⟩, if_pos ⟨h1, h2⟩, Int.mul_comm a x, Int.mul_comm b y, Int.mul_comm c z]
  · rw [eD, i64w]; omega
  · rw [eD]; unfold wrap64; omega
  · unfold vcr; rw [if_pos ⟨h1, h2⟩]
  · unfold vcr; rw [if_pos ⟨h2, h1⟩]
  · rw [Int.mul_comm b z, Int.mul_comm c y]; exact m1 _ _ p2 p1
  · rw [Int.mul_comm c x, Int.mul_comm a z]; exact m1 _ _ p4 p3
  · rw [Int.mul_comm a y, Int.mul_comm b x]; exact m1 _ _ p6 p5
  · rw [Int.mul_comm b z, Int.mul_comm c y]; unfold I64; omega
  · rw [Int.mul_comm c x, Int.mul_comm a z]; unfold I64; omega
  · rw [Int.mul_comm a y, Int.mul_comm b x]; unfold I64; omega

end Go.Proofs.Sky
