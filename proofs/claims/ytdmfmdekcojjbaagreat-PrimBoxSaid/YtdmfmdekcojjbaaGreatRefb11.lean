/- Contracts of the document's own answers, layer 11: Area, Hit, At. -/
import Derived.Test.YtdmfmdekcojjbaaGreatRef11
import Derived.Test.YtdmfmdekcojjbaaGreatReff02
import Derived.Test.YtdmfmdekcojjbaaGreatRefg02
import Derived.Test.YtdmfmdekcojjbaaGreatFloat
import Derived.Deep.DeepCutAuto
namespace Go.Proofs.YtdmfmdekcojjbaaGreat
open Go.RowKit Go.Proofs.Sky
set_option linter.unusedVariables false

theorem ups_in {a b c : T3} (h : pl3 a b c = true) : (-2199023255552 ≤ (upsT a b c).1 ∧ (upsT a b c).1 ≤ 2199023255552) ∧ (-2199023255552 ≤ (upsT a b c).2.1 ∧ (upsT a b c).2.1 ≤ 2199023255552) ∧ (-2199023255552 ≤ (upsT a b c).2.2 ∧ (upsT a b c).2.2 ≤ 2199023255552) := by
  obtain ⟨h1, h2, h3⟩ := pl3_iff.1 h
  rw [plc_iff] at h1 h2 h3
  unfold upsT crX sbT
  dsimp only
  have m : ∀ {p q : Int}, (-1048576 ≤ p ∧ p ≤ 1048576) → (-1048576 ≤ q ∧ q ≤ 1048576) → -1099511627776 ≤ p * q ∧ p * q ≤ 1099511627776 := fun hp hq => near_mul hp hq
  have p1 := m (p := b.2.1 - a.2.1) (q := c.2.2 - a.2.2) (by omega) (by omega)
  have p2 := m (p := b.2.2 - a.2.2) (q := c.2.1 - a.2.1) (by omega) (by omega)
  have p3 := m (p := b.2.2 - a.2.2) (q := c.1 - a.1) (by omega) (by omega)
  have p4 := m (p := b.1 - a.1) (q := c.2.2 - a.2.2) (by omega) (by omega)
  have p5 := m (p := b.1 - a.1) (q := c.2.1 - a.2.1) (by omega) (by omega)
  have p6 := m (p := b.2.1 - a.2.1) (q := c.1 - a.1) (by omega) (by omega)
  omega
theorem sq_41 {u : Int} (h : -2199023255552 ≤ u ∧ u ≤ 2199023255552) : 0 ≤ u * u ∧ u * u ≤ 4835703278458516698824704 :=
  ⟨sq_nonneg u, (mul_in (N := 2199023255552) (M := 2199023255552) h h).2⟩

theorem vlX_41 {u v w : T3} (hu : nrT u = true) (hv : nrT v = true) (hw : nrT w = true) : -6917529027641081856 ≤ vlX u v w ∧ vlX u v w ≤ 6917529027641081856 := by
  unfold nrT at hu hv hw
  rw [vnear_iff] at hu hv hw
  have m : ∀ {p q : Int}, (-1048576 ≤ p ∧ p ≤ 1048576) → (-1048576 ≤ q ∧ q ≤ 1048576) → -1099511627776 ≤ p * q ∧ p * q ≤ 1099511627776 := fun hp hq => near_mul hp hq
  have p1 := m (p := v.2.1) (q := w.2.2) (by omega) (by omega)
  have p2 := m (p := v.2.2) (q := w.2.1) (by omega) (by omega)
  have p3 := m (p := v.2.2) (q := w.1) (by omega) (by omega)
  have p4 := m (p := v.1) (q := w.2.2) (by omega) (by omega)
  have p5 := m (p := v.1) (q := w.2.1) (by omega) (by omega)
  have p6 := m (p := v.2.1) (q := w.1) (by omega) (by omega)
  unfold vlX
  have q1 := near_mul3 (x := u.1) (a := v.2.1 * w.2.2 - v.2.2 * w.2.1) (by omega) (by omega)
  have q2 := near_mul3 (x := u.2.1) (a := v.2.2 * w.1 - v.1 * w.2.2) (by omega) (by omega)
  have q3 := near_mul3 (x := u.2.2) (a := v.1 * w.2.1 - v.2.1 * w.1) (by omega) (by omega)
  omega
theorem vvol_vlX {u v w : T3} (hu : nrT u = true) (hv : nrT v = true) (hw : nrT w = true) : vvol u.1 u.2.1 u.2.2 v.1 v.2.1 v.2.2 w.1 w.2.1 w.2.2 = vlX u v w := by
  unfold vvol
  rw [if_pos ⟨hu, hv, hw⟩]
  rfl
theorem sbT_near {a o : T3} (ha : plc a = true) (ho : plc o = true) : nrT (sbT a o) = true := by
  rw [plc_iff] at ha ho
  unfold nrT sbT
  rw [vnear_iff]
  dsimp only
  omega

theorem hit_ways {P : Prop} (x y z n : Int) (h1 : (x ≤ 0) ∧ (y ≤ 0) ∧ (z ≤ 0) ∧ (x + y + z = 0) → P) (h2 : (x ≤ 0) ∧ (y ≤ 0) ∧ (z ≤ 0) ∧ (¬ x + y + z = 0) ∧ (0 ≤ n) → P) (h3 : (x ≤ 0) ∧ (y ≤ 0) ∧ (z ≤ 0) ∧ (¬ x + y + z = 0) ∧ (n < 0) → P) (h4 : (0 < x) ∧ (y < 0) → P) (h5 : (0 < x) ∧ (0 ≤ y) ∧ (z < 0) → P) (h6 : (0 < x) ∧ (0 ≤ y) ∧ (0 ≤ z) ∧ (n ≤ 0) → P) (h7 : (0 < x) ∧ (0 ≤ y) ∧ (0 ≤ z) ∧ (0 < n) → P) (h8 : (x ≤ 0) ∧ (0 < y) ∧ (x < 0) → P) (h9 : (x ≤ 0) ∧ (0 < y) ∧ (0 ≤ x) ∧ (z < 0) → P) (h10 : (x ≤ 0) ∧ (0 < y) ∧ (0 ≤ x) ∧ (0 ≤ z) ∧ (n ≤ 0) → P) (h11 : (x ≤ 0) ∧ (0 < y) ∧ (0 ≤ x) ∧ (0 ≤ z) ∧ (0 < n) → P) (h12 : (x ≤ 0) ∧ (y ≤ 0) ∧ (0 < z) ∧ (x < 0) → P) (h13 : (x ≤ 0) ∧ (y ≤ 0) ∧ (0 < z) ∧ (0 ≤ x) ∧ (y < 0) → P) (h14 : (x ≤ 0) ∧ (y ≤ 0) ∧ (0 < z) ∧ (0 ≤ x) ∧ (0 ≤ y) ∧ (n ≤ 0) → P) (h15 : (x ≤ 0) ∧ (y ≤ 0) ∧ (0 < z) ∧ (0 ≤ x) ∧ (0 ≤ y) ∧ (0 < n) → P) : P := by
  by_cases hx : x ≤ 0
  · by_cases hy : y ≤ 0
    · by_cases hz : z ≤ 0
      · by_cases hs : x + y + z = 0
        · exact h1 ⟨by omega, by omega, by omega, by omega⟩
        · by_cases hn : 0 ≤ n
          · exact h2 ⟨by omega, by omega, by omega, by omega, by omega⟩
          · exact h3 ⟨by omega, by omega, by omega, by omega, by omega⟩
      · by_cases kx : x < 0
        · exact h12 ⟨by omega, by omega, by omega, by omega⟩
        by_cases ky : y < 0
        · exact h13 ⟨by omega, by omega, by omega, by omega, by omega⟩
        by_cases kn : n ≤ 0
        · exact h14 ⟨by omega, by omega, by omega, by omega, by omega, by omega⟩
        exact h15 ⟨by omega, by omega, by omega, by omega, by omega, by omega⟩
    · by_cases kx : x < 0
      · exact h8 ⟨by omega, by omega, by omega⟩
      by_cases kz : z < 0
      · exact h9 ⟨by omega, by omega, by omega, by omega⟩
      by_cases kn : n ≤ 0
      · exact h10 ⟨by omega, by omega, by omega, by omega, by omega⟩
      exact h11 ⟨by omega, by omega, by omega, by omega, by omega⟩
  · by_cases ky : y < 0
    · exact h4 ⟨by omega, by omega⟩
    by_cases kz : z < 0
    · exact h5 ⟨by omega, by omega, by omega⟩
    by_cases kn : n ≤ 0
    · exact h6 ⟨by omega, by omega, by omega, by omega⟩
    exact h7 ⟨by omega, by omega, by omega, by omega⟩

end Go.Proofs.YtdmfmdekcojjbaaGreat
