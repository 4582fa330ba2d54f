/- Contracts of the document's own answers of layer 3 (skylightref03), over the same plain mathematics. -/
import Derived.Test.YtnoaljfdbfbhmaaRef01
import Derived.Test.YtnoaljfdbfbhmaaMath03
import Derived.Test.YtnoaljfdbfbhmaaMathc03
import Derived.Test.YtnoaljfdbfbhmaaMem02
import Derived.Test.YtnoaljfdbfbhmaaBw
import Derived.Deep.DeepCutAuto
import Derived.Deep.QuietTactic
import Derived.BigQuiet
namespace Go.Proofs.Ytnoaljfdbfbhmaa
open Go.RowKit Go.Proofs.Sky
set_option linter.unusedVariables false

end Go.Proofs.Ytnoaljfdbfbhmaa
