/- The closed facts of the row of FnExactRouteLearn. -/
import Derived.Test.YthjikcfpoomioaaRows
import Derived.WalkKit
import Derived.ProofKit
import Derived.OpenShut
namespace Go.Proofs.Ythjikcfpoomioaa.fnExactRouteLearn
open Go.ChangeShapes Go.WideShapes Go.ChangeAt Go.RowKit

set_option maxRecDepth 100000 in
theorem closed : joinedFacts Try.pinned.checked.prog 10 Try.f10 Rows.fnExactRouteLearnSpec Rows.fnExactRouteLearnRow = true := by kernel_rfl
end Go.Proofs.Ythjikcfpoomioaa.fnExactRouteLearn
