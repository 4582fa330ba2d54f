/- The contract of math/bits.Div64 where the upper half is less than the divisor. -/
import Derived.Test.YtgdclpbnjoampaaRoot01
import Derived.Test.YtgdclpbnjoampaaKnuth
import Derived.Deep.QuietTactic
import Derived.BigQuiet
namespace Go.Proofs.Ytgdclpbnjoampaa
open Go.RowKit Go.Proofs.Sky
set_option linter.unusedVariables false

theorem ret_two {Q Q' R' s m n : Nat} (a : Q * 4294967296 + Q' = m) (b : R' / 2 ^ s = n) :
    Ending.returned (.tuple #[.int .u64 ((Q : Int) * 4294967296 + (Q' : Int)), .int .u64 ((R' : Int) / 2 ^ s)]) = .returned (.tuple #[.int .u64 (m : Int), .int .u64 (n : Int)]) := by
  subst a; subst b; simp

end Go.Proofs.Ytgdclpbnjoampaa
