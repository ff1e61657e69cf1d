/- The closed facts of the row of FnExactRouteAll. -/
import Derived.Test.YthjikcfpoomioaaRows
import Derived.WalkKit
import Derived.ProofKit
import Derived.OpenShut
namespace Go.Proofs.Ythjikcfpoomioaa.fnExactRouteAll
open Go.ChangeShapes Go.WideShapes Go.ChangeAt Go.RowKit

set_option maxRecDepth 100000 in
theorem closed : joinedFacts Try.pinned.checked.prog 8 Try.f8 Rows.fnExactRouteAllSpec Rows.fnExactRouteAllRow = true := by kernel_rfl
end Go.Proofs.Ythjikcfpoomioaa.fnExactRouteAll
