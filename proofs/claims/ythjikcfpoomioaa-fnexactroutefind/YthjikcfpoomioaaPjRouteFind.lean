/- The closed facts of the row of FnExactRouteFind. -/
import Derived.Test.YthjikcfpoomioaaRows
import Derived.WalkKit
import Derived.ProofKit
import Derived.OpenShut
namespace Go.Proofs.Ythjikcfpoomioaa.fnExactRouteFind
open Go.ChangeShapes Go.WideShapes Go.ChangeAt Go.RowKit

set_option maxRecDepth 100000 in
theorem closed : joinedFacts Try.pinned.checked.prog 7 Try.f7 Rows.fnExactRouteFindSpec Rows.fnExactRouteFindRow = true := by kernel_rfl
end Go.Proofs.Ythjikcfpoomioaa.fnExactRouteFind
