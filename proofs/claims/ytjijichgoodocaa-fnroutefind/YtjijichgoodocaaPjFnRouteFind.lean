/- The closed facts of the row of FnRouteFind. -/
import Derived.Test.YtjijichgoodocaaRows
import Derived.WalkKit
import Derived.ProofKit
import Derived.OpenShut
namespace Go.Proofs.Ytjijichgoodocaa.fnRouteFind
open Go.ChangeShapes Go.WideShapes Go.ChangeAt Go.RowKit

set_option maxRecDepth 100000 in
theorem closed : joinedFacts Try.pinned.checked.prog 11 Try.f11 Rows.fnRouteFindSpec Rows.fnRouteFindRow = true := by kernel_rfl
end Go.Proofs.Ytjijichgoodocaa.fnRouteFind
