/- Contracts of package frac (all but Least). -/
import Derived.Test.YtfdolgdfadipeaaWide01
import Derived.Test.YtfdolgdfadipeaaMath03
import Derived.Test.YtfdolgdfadipeaaMem02
namespace Go.Proofs.Ytfdolgdfadipeaa
open Go.RowKit Go.Proofs.Sky
set_option linter.unusedVariables false
attribute [local go_sem ↓] Go.wp_at_zero Go.wp_at_succ

end Go.Proofs.Ytfdolgdfadipeaa
