/- The closed facts of the row of FnExactViewOk. -/
import Derived.Test.YthjikcfpoomioaaRows
import Derived.WalkKit
import Derived.ProofKit
import Derived.OpenShut
namespace Go.Proofs.Ythjikcfpoomioaa.fnExactViewOk
open Go.ChangeShapes Go.WideShapes Go.ChangeAt Go.RowKit

set_option maxRecDepth 100000 in
theorem closed : joinedFacts Try.pinned.checked.prog 3 Try.f3 Rows.fnExactViewOkSpec Rows.fnExactViewOkRow = true := by kernel_rfl
end Go.Proofs.Ythjikcfpoomioaa.fnExactViewOk
