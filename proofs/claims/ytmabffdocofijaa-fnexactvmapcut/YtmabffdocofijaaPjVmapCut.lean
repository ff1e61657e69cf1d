/- The closed facts of the row of FnExactVmapCut. -/
import Derived.Test.YtmabffdocofijaaRows
import Derived.WalkKit
import Derived.ProofKit
import Derived.OpenShut
namespace Go.Proofs.Ytmabffdocofijaa.fnExactVmapCut
open Go.ChangeShapes Go.WideShapes Go.ChangeAt Go.RowKit

set_option maxRecDepth 100000 in
theorem closed : joinedFacts Try.pinned.checked.prog 3 Try.f3 Rows.fnExactVmapCutSpec Rows.fnExactVmapCutRow = true := by kernel_rfl
end Go.Proofs.Ytmabffdocofijaa.fnExactVmapCut
