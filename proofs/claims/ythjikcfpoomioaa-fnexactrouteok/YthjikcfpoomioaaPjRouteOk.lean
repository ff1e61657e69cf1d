/- The closed facts of the row of FnExactRouteOk. -/
import Derived.Test.YthjikcfpoomioaaRows
import Derived.WalkKit
import Derived.ProofKit
import Derived.OpenShut
namespace Go.Proofs.Ythjikcfpoomioaa.fnExactRouteOk
open Go.ChangeShapes Go.WideShapes Go.ChangeAt Go.RowKit

set_option maxRecDepth 100000 in
theorem closed : joinedFacts Try.pinned.checked.prog 6 Try.f6 Rows.fnExactRouteOkSpec Rows.fnExactRouteOkRow = true := by kernel_rfl
end Go.Proofs.Ythjikcfpoomioaa.fnExactRouteOk
