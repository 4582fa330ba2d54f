/- Contracts of package box: the exported functions but Hit. -/
import Derived.Test.YtokkankfaofooaaBoxl10
namespace Go.Proofs.Ytokkankfaofooaa
open Go.RowKit Go.Proofs.Sky
set_option linter.unusedVariables false

theorem vsub_in {x a : Int} (h : -4194304 ≤ x ∧ x ≤ 4194304) (g : -4194304 ≤ a ∧ a ≤ 4194304) : vsub x a = x - a := by
  unfold vsub sat
  (repeat' split) <;> omega
theorem sat_in {x : Int} (h : -8388608 ≤ x ∧ x ≤ 8388608) : sat x = x := by
  unfold sat
  rw [if_neg (by omega), if_neg (by omega)]
theorem mul_in {x y : Int} (hx : 0 ≤ x ∧ x ≤ 2097152) (hy : 0 ≤ y ∧ y ≤ 2097152) : 0 ≤ x * y ∧ x * y ≤ 4398046511104 := by
  have a := Int.mul_nonneg hx.1 hy.1
  have b := Int.mul_le_mul hx.2 hy.2 hy.1 (by omega)
  omega

end Go.Proofs.Ytokkankfaofooaa
