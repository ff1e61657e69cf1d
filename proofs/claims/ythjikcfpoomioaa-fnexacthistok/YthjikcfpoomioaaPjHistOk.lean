/- The closed facts of the row of FnExactHistOk. -/
import Derived.Test.YthjikcfpoomioaaRows
import Derived.WalkKit
import Derived.ProofKit
import Derived.OpenShut
namespace Go.Proofs.Ythjikcfpoomioaa.fnExactHistOk
open Go.ChangeShapes Go.WideShapes Go.ChangeAt Go.RowKit

set_option maxRecDepth 100000 in
theorem closed : joinedFacts Try.pinned.checked.prog 11 Try.f11 Rows.fnExactHistOkSpec Rows.fnExactHistOkRow = true := by kernel_rfl
end Go.Proofs.Ythjikcfpoomioaa.fnExactHistOk
