/- Contracts of package box, below: lowest, highest, later, earlier, shared, empty, between, intervals, held. -/
import Derived.Test.YtokkankfaofooaaGreatNum01
import Derived.Test.YtokkankfaofooaaGreatFrac01
import Derived.Test.YtokkankfaofooaaGreatVec06
import Derived.Test.YtokkankfaofooaaGreatMath10
import Derived.Test.YtokkankfaofooaaGreatMem06
import Derived.Test.YtokkankfaofooaaGreatMem08
import Derived.Test.YtokkankfaofooaaGreatBw
import Derived.Lib.MinMax
import Derived.Deep.DeepCutAuto
namespace Go.Proofs.YtokkankfaofooaaGreat
open Go.RowKit Go.Proofs.Sky
set_option linter.unusedVariables false

end Go.Proofs.YtokkankfaofooaaGreat
