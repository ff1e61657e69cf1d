/- The closed facts of the row of FnExactDiffBack. -/
import Derived.Test.YthjikcfpoomioaaRows
import Derived.WalkKit
import Derived.ProofKit
import Derived.OpenShut
namespace Go.Proofs.Ythjikcfpoomioaa.fnExactDiffBack
open Go.ChangeShapes Go.WideShapes Go.ChangeAt Go.RowKit

set_option maxRecDepth 100000 in
theorem closed : joinedFacts Try.pinned.checked.prog 5 Try.f5 Rows.fnExactDiffBackSpec Rows.fnExactDiffBackRow = true := by kernel_rfl
end Go.Proofs.Ythjikcfpoomioaa.fnExactDiffBack
