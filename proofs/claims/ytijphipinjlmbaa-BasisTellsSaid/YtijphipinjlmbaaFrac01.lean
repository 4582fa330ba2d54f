/- Contracts of package frac (all but Least). -/
import Derived.Test.YtijphipinjlmbaaWide01
import Derived.Test.YtijphipinjlmbaaMath03
import Derived.Test.YtijphipinjlmbaaMem02
namespace Go.Proofs.Ytijphipinjlmbaa
open Go.RowKit Go.Proofs.Sky
set_option linter.unusedVariables false
attribute [local go_sem ↓] Go.wp_at_zero Go.wp_at_succ

end Go.Proofs.Ytijphipinjlmbaa
