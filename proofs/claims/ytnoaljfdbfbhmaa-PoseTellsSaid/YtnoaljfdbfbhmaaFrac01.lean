/- Contracts of package frac (all but Least). -/
import Derived.Test.YtnoaljfdbfbhmaaWide01
import Derived.Test.YtnoaljfdbfbhmaaMath03
import Derived.Test.YtnoaljfdbfbhmaaMem02
namespace Go.Proofs.Ytnoaljfdbfbhmaa
open Go.RowKit Go.Proofs.Sky
set_option linter.unusedVariables false
attribute [local go_sem ↓] Go.wp_at_zero Go.wp_at_succ

end Go.Proofs.Ytnoaljfdbfbhmaa
