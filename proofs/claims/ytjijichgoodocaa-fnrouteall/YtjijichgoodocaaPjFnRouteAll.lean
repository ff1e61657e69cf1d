/- The closed facts of the row of FnRouteAll. -/
import Derived.Test.YtjijichgoodocaaRows
import Derived.WalkKit
import Derived.ProofKit
import Derived.OpenShut
namespace Go.Proofs.Ytjijichgoodocaa.fnRouteAll
open Go.ChangeShapes Go.WideShapes Go.ChangeAt Go.RowKit

set_option maxRecDepth 100000 in
theorem closed : joinedFacts Try.pinned.checked.prog 12 Try.f12 Rows.fnRouteAllSpec Rows.fnRouteAllRow = true := by kernel_rfl
end Go.Proofs.Ytjijichgoodocaa.fnRouteAll
