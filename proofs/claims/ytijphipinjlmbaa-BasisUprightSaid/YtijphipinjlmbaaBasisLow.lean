/- Is a number small? The contract of the statements' own low, layer 7. -/
import Derived.Test.YtijphipinjlmbaaAwake07
namespace Go.Proofs.Ytijphipinjlmbaa
open Go.RowKit Go.Proofs.Sky
set_option linter.unusedVariables false

theorem law7_low_in (n m : Int) (w : World) (hm : 0 ≤ m ∧ m ≤ 1000000) (h : -m ≤ n ∧ n ≤ m) :
    Calls Try.prog 20 #[.int .i64 n, .int .i64 m] w fun e w' => e = .returned (.bool true) ∧ Below w.heap.size w w' := by
  have e1 : IntKind.i64.wrap (-m) = -m := by rw [i64w]; omega
  have e2 : wrap64 (-m) = -m := by unfold wrap64; omega
  have t1 : decide (n ≤ m) = true := decide_eq_true h.2
  have t2 : decide (-m ≤ n) = true := decide_eq_true h.1
  clear h hm
  go_enter Try.func20, Try.ntmps20
  go_wp2
  go_ret
  exact ⟨rfl, Below.refl _ _⟩

end Go.Proofs.Ytijphipinjlmbaa
