/- The contract of num.Root. -/
import Derived.Test.YtfdolgdfadipeaaNum01
import Derived.Lib.ItoaNum
import Derived.Lib.Hide
namespace Go.Proofs.Ytfdolgdfadipeaa
open Go.RowKit Go.Proofs.Sky
set_option linter.unusedVariables false

theorem bitLen_lt (n : Nat) (h : n < 18446744073709551616) : Lib.bitLen n ≤ 64 ∧ n < 2 ^ Lib.bitLen n := by
  refine ⟨Lib.bitLen_le n 64 (Nat.le_refl _) h, ?_⟩
  by_cases h0 : n = 0
  · subst h0; decide
  · exact (Lib.bitLenAux_bounds 64 n h h0).2.2

end Go.Proofs.Ytfdolgdfadipeaa
