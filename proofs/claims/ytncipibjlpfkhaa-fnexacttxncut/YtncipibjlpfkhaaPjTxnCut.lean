/- The closed facts of the row of FnExactTxnCut. -/
import Derived.Test.YtncipibjlpfkhaaRows
import Derived.WalkKit
import Derived.ProofKit
import Derived.OpenShut
namespace Go.Proofs.Ytncipibjlpfkhaa.fnExactTxnCut
open Go.ChangeShapes Go.WideShapes Go.ChangeAt Go.RowKit

set_option maxRecDepth 100000 in
theorem closed : joinedFacts Try.pinned.checked.prog 10 Try.f10 Rows.fnExactTxnCutSpec Rows.fnExactTxnCutRow = true := by kernel_rfl
end Go.Proofs.Ytncipibjlpfkhaa.fnExactTxnCut
