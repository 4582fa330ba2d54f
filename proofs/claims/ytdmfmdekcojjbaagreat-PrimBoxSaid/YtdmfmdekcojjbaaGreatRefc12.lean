/- Contracts of the document's own answers, layer 12: Inside, Hit. -/
import Derived.Test.YtdmfmdekcojjbaaGreatRef12
import Derived.Test.YtdmfmdekcojjbaaGreatRefc02
import Derived.Test.YtdmfmdekcojjbaaGreatReff02
import Derived.Test.YtdmfmdekcojjbaaGreatRefg02
import Derived.Deep.DeepCutAuto
namespace Go.Proofs.YtdmfmdekcojjbaaGreat
open Go.RowKit Go.Proofs.Sky
set_option linter.unusedVariables false

/-- The bounds of what a ball's equation is made of. -/
theorem ball_bounds {a b q : Int} (ha : 0 ≤ a ∧ a ≤ 3298534883328) (hb : -3298534883328 ≤ b ∧ b ≤ 3298534883328) (hq : -68719476736 ≤ q ∧ q ≤ 3298534883328) :
    (0 ≤ b * b ∧ b * b ≤ 10880332376531662153875584 + 1000000000000000000000000) ∧ (-1000000000000000000000000 ≤ a * q ∧ a * q ≤ 11000000000000000000000000) := by
  have p1 := mul_in (x := b) (a := b) (N := 3298534883328) (M := 3298534883328) hb hb
  have p2 := sq_nonneg b
  refine ⟨by omega, ?_⟩
  by_cases h : 0 ≤ q
  · have p3 := Int.mul_nonneg ha.1 h
    have p4 := mul_in (x := a) (a := q) (N := 3298534883328) (M := 3298534883328) (by omega) (by omega)
    omega
  · have p4 := mul_in (x := a) (a := q) (N := 3298534883328) (M := 68719476736) (by omega) (by omega)
    have p5 := Int.mul_nonneg ha.1 (show 0 ≤ -q by omega)
    rw [Int.mul_neg] at p5
    omega

end Go.Proofs.YtdmfmdekcojjbaaGreat
