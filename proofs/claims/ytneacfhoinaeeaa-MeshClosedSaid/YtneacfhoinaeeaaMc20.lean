/- Contracts of the document's own answers of layer 3 (skylightref03), over the same plain mathematics. The document's own comparison of fractions (layer 3): whole parts, then what is left, upside down. The document's own Less, Same, Least, At (layer 3). The document's own At (layer 3): by sizes. -/
import Derived.Test.YtneacfhoinaeeaaMc14
import Derived.Test.YtneacfhoinaeeaaMc6
import Derived.Test.YtneacfhoinaeeaaMc19
import Derived.Test.YtneacfhoinaeeaaMc1
import Derived.Deep.DeepCutAuto
import Derived.Deep.QuietTactic
import Derived.BigQuiet


namespace Go.Proofs.Ytneacfhoinaeeaa
section

section

open Go.RowKit Go.Proofs.Sky

set_option linter.unusedVariables false

end

end
end Go.Proofs.Ytneacfhoinaeeaa

namespace Go.Proofs.Ytneacfhoinaeeaa
section

section

open Go.RowKit Go.Proofs.Sky

set_option linter.unusedVariables false

/-- One round: whole parts p, q, what is left x, y. -/
structure CmpStep (n d m e p q x y : Int) : Prop where
  p_ : dv n d = p
  q_ : dv m e = q
  x_ : md n d = x
  y_ : md m e = y
  x0 : 0 ≤ x
  xd : x < d
  y0 : 0 ≤ y
  ye : y < e
  lt : p < q → cmpI (n * e) (m * d) = -1
  gt : q < p → cmpI (n * e) (m * d) = 1
  zz : p = q → x = 0 → y = 0 → cmpI (n * e) (m * d) = 0
  zx : p = q → x = 0 → 1 ≤ y → cmpI (n * e) (m * d) = -1
  zy : p = q → 1 ≤ x → y = 0 → cmpI (n * e) (m * d) = 1
  on : p = q → cmpI (e * x) (d * y) = cmpI (n * e) (m * d)

theorem cmp_core {n d m e p q x y : Int} (hd : 1 ≤ d) (he : 1 ≤ e) (e1 : d * p + x = n) (e2 : e * q + y = m) (a1 : 0 ≤ x) (a2 : x < d) (a3 : 0 ≤ y) (a4 : y < e) :
    (p < q → cmpI (n * e) (m * d) = -1) ∧ (q < p → cmpI (n * e) (m * d) = 1) ∧ (p = q → x = 0 → y = 0 → cmpI (n * e) (m * d) = 0) ∧ (p = q → x = 0 → 1 ≤ y → cmpI (n * e) (m * d) = -1) ∧
    (p = q → 1 ≤ x → y = 0 → cmpI (n * e) (m * d) = 1) ∧ (p = q → cmpI (e * x) (d * y) = cmpI (n * e) (m * d)) := by
  have k1 : n * e = d * e * p + x * e := by
    rw [← e1, Int.add_mul, Int.mul_assoc, Int.mul_comm p e, ← Int.mul_assoc]
  have k2 : m * d = d * e * q + y * d := by
    rw [← e2, Int.add_mul, Int.mul_comm (e * q) d, ← Int.mul_assoc]
  have b1 : 0 ≤ x * e := Int.mul_nonneg a1 (by omega)
  have b2 : x * e < d * e := Int.mul_lt_mul_of_pos_right a2 (by omega)
  have b3 : 0 ≤ y * d := Int.mul_nonneg a3 (by omega)
  have b4 : y * d < d * e := by rw [Int.mul_comm d e]; exact Int.mul_lt_mul_of_pos_right a4 (by omega)
  have c1 : p < q → d * e * p + d * e ≤ d * e * q := fun h => by
    have := Int.mul_le_mul_of_nonneg_left (show p + 1 ≤ q by omega) (show 0 ≤ d * e by omega)
    rwa [Int.mul_add, Int.mul_one] at this
  have c2 : q < p → d * e * q + d * e ≤ d * e * p := fun h => by
    have := Int.mul_le_mul_of_nonneg_left (show q + 1 ≤ p by omega) (show 0 ≤ d * e by omega)
    rwa [Int.mul_add, Int.mul_one] at this
  have z1 : x = 0 → x * e = 0 := fun h => by rw [h, Int.zero_mul]
  have z2 : y = 0 → y * d = 0 := fun h => by rw [h, Int.zero_mul]
  have z3 : 1 ≤ x → 0 < x * e := fun h => Int.mul_pos (by omega) (by omega)
  have z4 : 1 ≤ y → 0 < y * d := fun h => Int.mul_pos (by omega) (by omega)
  have z5 : p = q → d * e * p = d * e * q := fun h => by rw [h]
  rw [k1, k2, Int.mul_comm e x, Int.mul_comm d y]
  clear k1 k2 e1 e2
  generalize d * e * p = A at *
  generalize d * e * q = B at *
  generalize d * e = C at *
  generalize x * e = X at *
  generalize y * d = Y at *
  unfold cmpI
  refine ⟨fun h => ?_, fun h => ?_, fun h h1 h2 => ?_, fun h h1 h2 => ?_, fun h h1 h2 => ?_, fun h => ?_⟩
  · have := c1 h; rw [if_pos (by omega)]
  · have := c2 h; rw [if_neg (by omega), if_pos (by omega)]
  · have := z1 h1; have := z2 h2; have := z5 h; rw [if_neg (by omega), if_neg (by omega)]
  · have := z1 h1; have := z4 h2; have := z5 h; rw [if_pos (by omega)]
  · have := z3 h1; have := z2 h2; have := z5 h; rw [if_neg (by omega), if_pos (by omega)]
  · have := z5 h; (repeat' split) <;> omega

theorem CmpStep.make (n d m e : Int) (hd : 1 ≤ d) (he : 1 ≤ e) : CmpStep n d m e (n / d) (m / e) (n % d) (m % e) := by
  have a1 := Int.emod_nonneg n (show d ≠ 0 by omega)
  have a2 := Int.emod_lt_of_pos n (show 0 < d by omega)
  have a3 := Int.emod_nonneg m (show e ≠ 0 by omega)
  have a4 := Int.emod_lt_of_pos m (show 0 < e by omega)
  obtain ⟨h1, h2, h3, h4, h5, h6⟩ := cmp_core hd he (Int.mul_ediv_add_emod n d) (Int.mul_ediv_add_emod m e) a1 a2 a3 a4
  exact ⟨by unfold dv; rw [if_neg (by omega)], by unfold dv; rw [if_neg (by omega)], by unfold md; rw [if_neg (by omega)], by unfold md; rw [if_neg (by omega)], a1, a2, a3, a4, h1, h2, h3, h4, h5, h6⟩

/-- Two boxes of two cells each, and nothing that lay in w turned. -/
structure Two (w W : World) (g0 g1 : Nat) (t : TypeId) (n d m e : Int) : Prop where
  h : Below w.heap.size w W
  b0 : Bk W g0 t #[.int .i64 n, .int .i64 d]
  b1 : Bk W g1 t #[.int .i64 m, .int .i64 e]

def cellN (W : World) (b i : Nat) : Nat := ((W.cell? ⟨b, i, none⟩).map (fun v => (intOf v).toNat)).getD 0

end

end
end Go.Proofs.Ytneacfhoinaeeaa

namespace Go.Proofs.Ytneacfhoinaeeaa
section

section

open Go.RowKit Go.Proofs.Sky

set_option linter.unusedVariables false

end

end
end Go.Proofs.Ytneacfhoinaeeaa

namespace Go.Proofs.Ytneacfhoinaeeaa
section

section

open Go.RowKit Go.Proofs.Sky

set_option linter.unusedVariables false

theorem neg_quot (P D : Nat) (hD : 1 ≤ D) : (P / D * D = P → (-(P : Int)) / (D : Int) = -((P / D : Nat) : Int)) ∧ (P / D * D ≠ P → (-(P : Int)) / (D : Int) = -((P / D : Nat) : Int) - 1) := by
  have e := Nat.div_add_mod P D
  have l := Nat.mod_lt P (show 0 < D by omega)
  have c : P / D * D = D * (P / D) := Nat.mul_comm _ _
  generalize P / D = q at *
  generalize P % D = r at *
  have c' : (D : Int) * (q : Int) = ((D * q : Nat) : Int) := by rw [Int.natCast_mul]
  refine ⟨fun h => ?_, fun h => ?_⟩
  · exact ((Int.ediv_emod_unique (a := -(P : Int)) (b := (D : Int)) (r := 0) (q := -(q : Int)) (by omega)).2 ⟨by rw [Int.mul_neg, c']; omega, by omega, by omega⟩).1
  · exact ((Int.ediv_emod_unique (a := -(P : Int)) (b := (D : Int)) (r := (D : Int) - r) (q := -(q : Int) - 1) (by omega)).2 ⟨by rw [Int.mul_sub, Int.mul_neg, c', Int.mul_one]; omega, by omega, by omega⟩).1

/-- What is known of v times n over D: the product of the sizes (P), its halves, the halves' sum as Go has it (s), whether the product is below nought (b). -/
structure AtIn (v n : Int) (D A B P hi lo s : Nat) (b : Bool) : Prop where
  a_ : v.natAbs = A
  b_ : n.natAbs = B
  aL : A < 18446744073709551616
  bL : B < 18446744073709551616
  p_ : A * B = P
  h_ : P / 18446744073709551616 = hi
  l_ : P % 18446744073709551616 = lo
  s_ : IntKind.u64.wrap ((hi : Int) + (lo : Int)) = (s : Int)
  o_ : (((decide (v < 0) != decide (n < 0)) && decide (0 < s)) || (decide (0 < hi) && (decide (v < 0) != decide (n < 0)))) = b
  yes : b = true → v * n = -(P : Int) ∧ 0 < P
  no : b = false → v * n = (P : Int)

theorem AtIn.make (v n : Int) (D : Nat) (hv : I64 v) (hn : I64 n) : ∃ A B P hi lo s b, AtIn v n D A B P hi lo s b := by
  unfold I64 at hv hn
  refine ⟨v.natAbs, n.natAbs, v.natAbs * n.natAbs, _, _, ((v.natAbs * n.natAbs / 18446744073709551616 + v.natAbs * n.natAbs % 18446744073709551616) % 18446744073709551616), _, rfl, rfl, by omega, by omega, rfl, rfl, rfl, by rw [u64w]; omega, rfl, ?_, ?_⟩
  · intro h
    have ho : (decide (v < 0) != decide (n < 0)) = true := by
      cases g : (decide (v < 0) != decide (n < 0))
      · rw [g] at h; simp at h
      · rfl
    have hs : ¬ (v < 0 ↔ n < 0) := by
      intro g
      have k : decide (v < 0) = decide (n < 0) := decide_eq_decide.2 g
      rw [k] at ho; simp at ho
    have e := mul_opp hs
    rw [ho] at h
    refine ⟨by rw [e, Int.natCast_mul], ?_⟩
    rcases Nat.eq_zero_or_pos (v.natAbs * n.natAbs) with z | z
    · rw [z] at h; simp at h
    · exact z
  · intro h
    cases g : (decide (v < 0) != decide (n < 0))
    · have hs : v < 0 ↔ n < 0 := by simpa using g
      rw [mul_same hs, Int.natCast_mul]
    · rw [g] at h
      have hs : ¬ (v < 0 ↔ n < 0) := by
        intro k
        have k' : decide (v < 0) = decide (n < 0) := decide_eq_decide.2 k
        rw [k'] at g; simp at g
      simp only [Bool.true_and, Bool.and_true, Bool.or_eq_false_iff, decide_eq_false_iff_not] at h
      have z : v.natAbs * n.natAbs = 0 := by omega
      have e := mul_opp hs
      rw [← Int.natCast_mul, z] at e
      rw [e, z]; rfl

/-- The outcomes. -/
structure AtOut (v n : Int) (D P hi lo : Nat) (b : Bool) (q x y : Nat) : Prop where
  q_ : P / D = q
  x_ : q * D / 18446744073709551616 = x
  y_ : q * D % 18446744073709551616 = y
  big1 : b = true → (¬ hi < D ∨ 9223372036854775807 < q) → fat v n D = -9223372036854775808
  big0 : b = false → (¬ hi < D ∨ 9223372036854775807 < q) → fat v n D = 9223372036854775807
  pos : b = false → q ≤ 9223372036854775807 → fat v n D = (q : Int)
  exact_ : b = true → q ≤ 9223372036854775807 → x = hi → y = lo → fat v n D = -(q : Int)
  less1 : b = true → q ≤ 9223372036854775807 → x ≠ hi → fat v n D = -(q : Int) - 1
  less2 : b = true → q ≤ 9223372036854775807 → y ≠ lo → fat v n D = -(q : Int) - 1

theorem AtOut.make {v n : Int} {D A B P hi lo s : Nat} {b : Bool} (h : AtIn v n D A B P hi lo s b) (hD : 1 ≤ D) : AtOut v n D P hi lo b (P / D) (P / D * D / 18446744073709551616) (P / D * D % 18446744073709551616) := by
  obtain ⟨n1, n2⟩ := neg_quot P D hD
  have e : fat v n D = sat (v * n / D) := by unfold fat; rw [if_neg (by omega)]
  have hbig : ¬ hi < D ∨ 9223372036854775807 < P / D → 9223372036854775807 < P / D := by
    rintro (g | g)
    · have h1 := h.h_
      have : D * 18446744073709551616 ≤ P := by omega
      have := (Nat.le_div_iff_mul_le (show 0 < D by omega)).2 (show 18446744073709551616 * D ≤ P by omega)
      omega
    · exact g
  have hq : (P : Int) / (D : Int) = ((P / D : Nat) : Int) := by rw [Int.natCast_ediv]
  have hP := h.h_
  have hL := h.l_
  obtain ⟨q, eq⟩ : ∃ q, q = P / D := ⟨_, rfl⟩
  obtain ⟨Z, hZ⟩ : ∃ Z, Z = P / D * D := ⟨_, rfl⟩
  rw [← hZ, ← eq] at n1 n2
  rw [← eq] at hbig hq
  rw [← hZ, ← eq]
  refine ⟨eq.symm, by rw [hZ, eq], by rw [hZ, eq], fun hb g => ?_, fun hb g => ?_, fun hb g => ?_, fun hb g g1 g2 => ?_, fun hb g g1 => ?_, fun hb g g1 => ?_⟩
  all_goals clear eq hZ
  · have := hbig g
    rw [e, (h.yes hb).1]
    by_cases z : Z = P
    · rw [n1 z]; unfold sat; (repeat' split) <;> omega
    · rw [n2 z]; unfold sat; (repeat' split) <;> omega
  · have := hbig g
    rw [e, h.no hb, hq]; unfold sat; rw [if_neg (by omega), if_pos (by omega)]
  · rw [e, h.no hb, hq]; unfold sat; rw [if_neg (by omega), if_neg (by omega)]
  · rw [e, (h.yes hb).1, n1 (by omega)]; unfold sat; rw [if_neg (by omega), if_neg (by omega)]
  · rw [e, (h.yes hb).1, n2 (by omega)]; unfold sat; rw [if_neg (by omega), if_neg (by omega)]
  · rw [e, (h.yes hb).1, n2 (by omega)]; unfold sat; rw [if_neg (by omega), if_neg (by omega)]

end

end
end Go.Proofs.Ytneacfhoinaeeaa
