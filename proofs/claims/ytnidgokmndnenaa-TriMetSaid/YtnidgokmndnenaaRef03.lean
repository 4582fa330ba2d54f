/- Contracts of the document's own answers of layer 3 (skylightref03), over the same plain mathematics. -/
import Derived.Test.YtnidgokmndnenaaRef01
import Derived.Test.YtnidgokmndnenaaMath03
import Derived.Test.YtnidgokmndnenaaMathc03
import Derived.Test.YtnidgokmndnenaaMem02
import Derived.Test.YtnidgokmndnenaaBw
import Derived.Deep.DeepCutAuto
import Derived.Deep.QuietTactic
import Derived.BigQuiet
namespace Go.Proofs.Ytnidgokmndnenaa
open Go.RowKit Go.Proofs.Sky
set_option linter.unusedVariables false

end Go.Proofs.Ytnidgokmndnenaa
