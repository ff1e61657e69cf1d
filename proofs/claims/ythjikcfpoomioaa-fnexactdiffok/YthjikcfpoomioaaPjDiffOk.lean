/- The closed facts of the row of FnExactDiffOk. -/
import Derived.Test.YthjikcfpoomioaaRows
import Derived.WalkKit
import Derived.ProofKit
import Derived.OpenShut
namespace Go.Proofs.Ythjikcfpoomioaa.fnExactDiffOk
open Go.ChangeShapes Go.WideShapes Go.ChangeAt Go.RowKit

set_option maxRecDepth 100000 in
theorem closed : joinedFacts Try.pinned.checked.prog 4 Try.f4 Rows.fnExactDiffOkSpec Rows.fnExactDiffOkRow = true := by kernel_rfl
end Go.Proofs.Ythjikcfpoomioaa.fnExactDiffOk
