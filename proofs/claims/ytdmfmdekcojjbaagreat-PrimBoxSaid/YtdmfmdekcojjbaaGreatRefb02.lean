/- Contracts of the document's sums and differences (skylightref02). -/
import Derived.Test.YtdmfmdekcojjbaaGreatRef02
namespace Go.Proofs.YtdmfmdekcojjbaaGreat
open Go.RowKit Go.Proofs.Sky
set_option linter.unusedVariables false
set_option linter.unusedSimpArgs false
attribute [local go_sem ↓] Go.wp_at_zero Go.wp_at_succ

end Go.Proofs.YtdmfmdekcojjbaaGreat
