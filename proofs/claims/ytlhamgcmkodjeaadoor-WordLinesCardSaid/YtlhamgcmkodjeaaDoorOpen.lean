/- Slices that came in, opened. -/
import Derived.Test.YtlhamgcmkodjeaaDoorBw
import Derived.Test.YtlhamgcmkodjeaaDoorMath01
import Derived.Test.YtlhamgcmkodjeaaDoorRecs
import Derived.Test.YtlhamgcmkodjeaaDoorProg
import Derived.ChangeSlices
import Derived.WideShapes
import Derived.DataReads
namespace Go.Proofs.YtlhamgcmkodjeaaDoor
open Go.RowKit Go.Proofs.Sky
set_option linter.unusedVariables false

theorem bw_callp {P : Program} {f : FuncId} {args : Array Value} {v : Value} {wb : World} (h : ∀ p : BW wb, Calls P f args p.w fun e w' => e = .returned v ∧ Below p.w.heap.size p.w w') (p : BW wb) :
    Calls P f args p.w fun e w' => e = .returned v ∧ ∃ q : BW wb, w' = q.w :=
  (h p).mono fun e w' ⟨he, hb⟩ => ⟨he, p.next w' hb, rfl⟩

end Go.Proofs.YtlhamgcmkodjeaaDoor
