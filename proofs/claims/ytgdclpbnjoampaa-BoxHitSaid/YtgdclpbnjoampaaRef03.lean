/- Contracts of the document's own answers of layer 3 (skylightref03), over the same plain mathematics. -/
import Derived.Test.YtgdclpbnjoampaaRef01
import Derived.Test.YtgdclpbnjoampaaMath03
import Derived.Test.YtgdclpbnjoampaaMathc03
import Derived.Test.YtgdclpbnjoampaaMem02
import Derived.Test.YtgdclpbnjoampaaBw
import Derived.Deep.DeepCutAuto
import Derived.Deep.QuietTactic
import Derived.BigQuiet
namespace Go.Proofs.Ytgdclpbnjoampaa
open Go.RowKit Go.Proofs.Sky
set_option linter.unusedVariables false

end Go.Proofs.Ytgdclpbnjoampaa
