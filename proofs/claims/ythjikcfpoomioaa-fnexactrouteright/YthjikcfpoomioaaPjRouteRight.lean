/- The closed facts of the row of FnExactRouteRight. -/
import Derived.Test.YthjikcfpoomioaaRows
import Derived.WalkKit
import Derived.ProofKit
import Derived.OpenShut
namespace Go.Proofs.Ythjikcfpoomioaa.fnExactRouteRight
open Go.ChangeShapes Go.WideShapes Go.ChangeAt Go.RowKit

set_option maxRecDepth 100000 in
theorem closed : joinedFacts Try.pinned.checked.prog 9 Try.f9 Rows.fnExactRouteRightSpec Rows.fnExactRouteRightRow = true := by kernel_rfl
end Go.Proofs.Ythjikcfpoomioaa.fnExactRouteRight
