/- Contracts of the document's own answers of layer 3 (skylightref03), over the same plain mathematics. -/
import Derived.Test.YtijphipinjlmbaaRef01
import Derived.Test.YtijphipinjlmbaaMath03
import Derived.Test.YtijphipinjlmbaaMathc03
import Derived.Test.YtijphipinjlmbaaMem02
import Derived.Test.YtijphipinjlmbaaBw
import Derived.Deep.DeepCutAuto
import Derived.Deep.QuietTactic
import Derived.BigQuiet
namespace Go.Proofs.Ytijphipinjlmbaa
open Go.RowKit Go.Proofs.Sky
set_option linter.unusedVariables false

end Go.Proofs.Ytijphipinjlmbaa
