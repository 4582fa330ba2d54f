/- The document's own At (layer 3): by sizes. -/
import Derived.Test.YtnidgokmndnenaaRefc03
namespace Go.Proofs.Ytnidgokmndnenaa
open Go.RowKit Go.Proofs.Sky
set_option linter.unusedVariables false

theorem neg_quot (P D : Nat) (hD : 1 ≤ D) : (P / D * D = P → (-(P : Int)) / (D : Int) = -((P / D : Nat) : Int)) ∧ (P / D * D ≠ P → (-(P : Int)) / (D : Int) = -((P / D : Nat) : Int) - 1) := by
  have e := Nat.div_add_mod P D
  have l := Nat.mod_lt P (show 0 < D by omega)
  have c : P / D * D = D * (P / D) := Nat.mul_comm _ _
  generalize P / D = q at *
  generalize P % D = r at *
  have c' : (D : Int) * (q : Int) = ((D * q : Nat) : Int) := by rw [Int.natCast_mul]
  refine ⟨fun h => ?_, fun h => ?_⟩
  · exact ((Int.ediv_emod_unique (a := -(P : Int)) (b := (D : Int)) (r := 0) (q := -(q : Int)) (by omega)).2 ⟨by rw [Int.mul_neg, c']; omega, by omega, by omega⟩).1
  · exact ((Int.ediv_emod_unique (a := -(P : Int)) (b := (D : Int)) (r := (D : Int) - r) (q := -(q : Int) - 1) (by omega)).2 ⟨by rw [Int.mul_sub, Int.mul_neg, c', Int.mul_one]; omega, by omega, by omega⟩).1

/-- What is known of v times n over D: the product of the sizes (P), its halves, the halves' sum as Go has it (s), whether the product is below nought (b). -/
structure AtIn (v n : Int) (D A B P hi lo s : Nat) (b : Bool) : Prop where
  a_ : v.natAbs = A
  b_ : n.natAbs = B
  aL : A < 18446744073709551616
  bL : B < 18446744073709551616
  p_ : A * B = P
  h_ : P / 18446744073709551616 = hi
  l_ : P % 18446744073709551616 = lo
  s_ : IntKind.u64.wrap ((hi : Int) + (lo : Int)) = (s : Int)
  o_ : (((decide (v < 0) != decide (n < 0)) && decide (0 < s)) || (decide (0 < hi) && (decide (v < 0) != decide (n < 0)))) = b
  yes : b = true → v * n = -(P : Int) ∧ 0 < P
  no : b = false → v * n = (P : Int)
theorem AtIn.make (v n : Int) (D : Nat) (hv : I64 v) (hn : I64 n) : ∃ A B P hi lo s b, AtIn v n D A B P hi lo s b := by
  unfold I64 at hv hn
  refine ⟨v.natAbs, n.natAbs, v.natAbs * n.natAbs, _, _, ((v.natAbs * n.natAbs / 18446744073709551616 + v.natAbs * n.natAbs % 18446744073709551616) % 18446744073709551616), _, rfl, rfl, by omega, by omega, rfl, rfl, rfl, by rw [u64w]; omega, rfl, ?_, ?_⟩
  · intro h
    have ho : (decide (v < 0) != decide (n < 0)) = true := by
      cases g : (decide (v < 0) != decide (n < 0))
      · rw [g] at h; simp at h
      · rfl
    have hs : ¬ (v < 0 ↔ n < 0) := by
      intro g
      have k : decide (v < 0) = decide (n < 0) := decide_eq_decide.2 g
      rw [k] at ho; simp at ho
    have e := mul_opp hs
    rw [ho] at h
    refine ⟨by rw [e, Int.natCast_mul], ?_⟩
    rcases Nat.eq_zero_or_pos (v.natAbs * n.natAbs) with z | z
    · rw [z] at h; simp at h
    · exact z
  · intro h
    cases g : (decide (v < 0) != decide (n < 0))
    · have hs : v < 0 ↔ n < 0 := by simpa using g
      rw [mul_same hs, Int.natCast_mul]
    · rw [g] at h
      have hs : ¬ (v < 0 ↔ n < 0) := by
        intro k
        have k' : decide (v < 0) = decide (n < 0) := decide_eq_decide.2 k
        rw [k'] at g; simp at g
      simp only [Bool.true_and, Bool.and_true, Bool.or_eq_false_iff, decide_eq_false_iff_not] at h
      have z : v.natAbs * n.natAbs = 0 := by omega
      have e := mul_opp hs
      rw [← Int.natCast_mul, z] at e
      rw [e, z]; rfl

/-- The outcomes. -/
structure AtOut (v n : Int) (D P hi lo : Nat) (b : Bool) (q x y : Nat) : Prop where
  q_ : P / D = q
  x_ : q * D / 18446744073709551616 = x
  y_ : q * D % 18446744073709551616 = y
  big1 : b = true → (¬ hi < D ∨ 9223372036854775807 < q) → fat v n D = -9223372036854775808
  big0 : b = false → (¬ hi < D ∨ 9223372036854775807 < q) → fat v n D = 9223372036854775807
  pos : b = false → q ≤ 9223372036854775807 → fat v n D = (q : Int)
  exact_ : b = true → q ≤ 9223372036854775807 → x = hi → y = lo → fat v n D = -(q : Int)
  less1 : b = true → q ≤ 9223372036854775807 → x ≠ hi → fat v n D = -(q : Int) - 1
  less2 : b = true → q ≤ 9223372036854775807 → y ≠ lo → fat v n D = -(q : Int) - 1
theorem AtOut.make {v n : Int} {D A B P hi lo s : Nat} {b : Bool} (h : AtIn v n D A B P hi lo s b) (hD : 1 ≤ D) : AtOut v n D P hi lo b (P / D) (P / D * D / 18446744073709551616) (P / D * D % 18446744073709551616) := by
  obtain ⟨n1, n2⟩ := neg_quot P D hD
  have e : fat v n D = sat (v * n / D) := by unfold fat; rw [if_neg (by omega)]
  have hbig : ¬ hi < D ∨ 9223372036854775807 < P / D → 9223372036854775807 < P / D := by
    rintro (g | g)
    · have h1 := h.h_
      have : D * 18446744073709551616 ≤ P := by omega
      have := (Nat.le_div_iff_mul_le (show 0 < D by omega)).2 (show 18446744073709551616 * D ≤ P by omega)
      omega
    · exact g
  have hq : (P : Int) / (D : Int) = ((P / D : Nat) : Int) := by rw [Int.natCast_ediv]
  have hP := h.h_
  have hL := h.l_
  obtain ⟨q, eq⟩ : ∃ q, q = P / D := ⟨_, rfl⟩
  obtain ⟨Z, hZ⟩ : ∃ Z, Z = P / D * D := ⟨_, rfl⟩
  rw [← hZ, ← eq] at n1 n2
  rw [← eq] at hbig hq
  rw [← hZ, ← eq]
  refine ⟨eq.symm, by rw [hZ, eq], by rw [hZ, eq], fun hb g => ?_, fun hb g => ?_, fun hb g => ?_, fun hb g g1 g2 => ?_, fun hb g g1 => ?_, fun hb g g1 => ?_⟩
  all_goals clear eq hZ
  · have := hbig g
    rw [e, (h.yes hb).1]
    by_cases z : Z = P
    · rw [n1 z]; unfold sat; (repeat' split) <;> omega
    · rw [n2 z]; unfold sat; (repeat' split) <;> omega
  · have := hbig g
    rw [e, h.no hb, hq]; unfold sat; rw [if_neg (by omega), if_pos (by omega)]
  · rw [e, h.no hb, hq]; unfold sat; rw [if_neg (by omega), if_neg (by omega)]
  · rw [e, (h.yes hb).1, n1 (by omega)]; unfold sat; rw [if_neg (by omega), if_neg (by omega)]
  · rw [e, (h.yes hb).1, n2 (by omega)]; unfold sat; rw [if_neg (by omega), if_neg (by omega)]
  · rw [e, (h.yes hb).1, n2 (by omega)]; unfold sat; rw [if_neg (by omega), if_neg (by omega)]

end Go.Proofs.Ytnidgokmndnenaa
