/- Contract of the document's own Steps (layer 5). -/
import Derived.Test.YtnoaljfdbfbhmaaRef05
import Derived.Laws.AppendOwn
import Derived.RangeFuncBox
namespace Go.Proofs.Ytnoaljfdbfbhmaa
open Go.RowKit Go.Proofs.Sky
set_option linter.unusedVariables false

end Go.Proofs.Ytnoaljfdbfbhmaa
