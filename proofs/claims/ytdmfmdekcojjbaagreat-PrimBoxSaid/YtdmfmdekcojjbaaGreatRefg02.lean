/- Contracts of the document's roots and quotients (skylightref02). -/
import Derived.Test.YtdmfmdekcojjbaaGreatReff02
import Derived.Test.YtdmfmdekcojjbaaGreatRefc02
import Derived.Test.YtdmfmdekcojjbaaGreatRefd02
namespace Go.Proofs.YtdmfmdekcojjbaaGreat
open Go.RowKit Go.Proofs.Sky
set_option linter.unusedVariables false
set_option linter.unusedSimpArgs false
attribute [local go_sem ↓] Go.wp_at_zero Go.wp_at_succ

theorem cmp_le_yes {x y : Int} (h : x ≤ y) : decide (cmpI x y ≤ 0) = true := decide_eq_true (by unfold cmpI; (repeat' split) <;> omega)

theorem cmp_le_no {x y : Int} (h : y < x) : decide (cmpI x y ≤ 0) = false := decide_eq_false (by unfold cmpI; rw [if_neg (by omega), if_pos h]; omega)

theorem hii_big {S : Nat} (h : 170141183460469231731687303715884105728 ≤ S) (h2 : S ≤ 340282366920938463426481119284349108225) : hii (S : Int) < 0 := by unfold hii; omega

theorem sq_le {c : Nat} (h : c < 18446744073709551616) : c * c ≤ 340282366920938463426481119284349108225 := by
  have := Nat.mul_le_mul (show c ≤ 18446744073709551615 by omega) (show c ≤ 18446744073709551615 by omega)
  exact this

end Go.Proofs.YtdmfmdekcojjbaaGreat
