/- Contracts of the document's own answers of layer 3 (skylightref03), over the same plain mathematics. -/
import Derived.Test.YtppfemaolaigoaaRef01
import Derived.Test.YtppfemaolaigoaaMath03
import Derived.Test.YtppfemaolaigoaaMathc03
import Derived.Test.YtppfemaolaigoaaMem02
import Derived.Test.YtppfemaolaigoaaBw
import Derived.Deep.DeepCutAuto
import Derived.Deep.QuietTactic
import Derived.BigQuiet
namespace Go.Proofs.Ytppfemaolaigoaa
open Go.RowKit Go.Proofs.Sky
set_option linter.unusedVariables false

theorem ref3_Right (n d : Int) (w : World) :
    Calls Try.prog 34 #[.agg #[.int .i64 n, .int .i64 d]] w fun e w' => e = .returned (.bool (decide (1 ≤ d))) ∧ Below w.heap.size w w' := by
  go_enter Try.func34, Try.ntmps34
  go_wp2
  go_ret
  exact ⟨rfl, by go_grown⟩

end Go.Proofs.Ytppfemaolaigoaa
