/- Contracts of the document's own answers of layer 2 (skylightref02), over the same plain mathematics. -/
import Derived.Test.YtdmfmdekcojjbaaGreatRoot01
import Derived.Test.YtdmfmdekcojjbaaGreatMem02
import Derived.Handy
import Derived.Deep.RegionHeld3
import Derived.Deep.QuietTactic
import Derived.BigQuiet
import Derived.Deep.Draws
import Derived.Deep.DrawnRows
import Derived.Deep.DeepCutAuto
namespace Go.Proofs.YtdmfmdekcojjbaaGreat
open Go.RowKit Go.Proofs.Sky
set_option linter.unusedVariables false
attribute [local go_sem ↓] Go.wp_at_zero Go.wp_at_succ

end Go.Proofs.YtdmfmdekcojjbaaGreat
