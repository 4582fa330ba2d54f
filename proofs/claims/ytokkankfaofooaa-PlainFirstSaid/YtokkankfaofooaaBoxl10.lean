/- Contracts of package box, below: lowest, highest, later, earlier, shared, empty, between, intervals, held. -/
import Derived.Test.YtokkankfaofooaaNum01
import Derived.Test.YtokkankfaofooaaFrac01
import Derived.Test.YtokkankfaofooaaVec06
import Derived.Test.YtokkankfaofooaaMath10
import Derived.Test.YtokkankfaofooaaMem06
import Derived.Test.YtokkankfaofooaaMem08
import Derived.Test.YtokkankfaofooaaBw
import Derived.Lib.MinMax
import Derived.Deep.DeepCutAuto
namespace Go.Proofs.Ytokkankfaofooaa
open Go.RowKit Go.Proofs.Sky
set_option linter.unusedVariables false

end Go.Proofs.Ytokkankfaofooaa
