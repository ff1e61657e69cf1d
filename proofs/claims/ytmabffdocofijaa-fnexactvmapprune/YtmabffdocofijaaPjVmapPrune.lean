/- The closed facts of the row of FnExactVmapPrune. -/
import Derived.Test.YtmabffdocofijaaRows
import Derived.WalkKit
import Derived.ProofKit
import Derived.OpenShut
namespace Go.Proofs.Ytmabffdocofijaa.fnExactVmapPrune
open Go.ChangeShapes Go.WideShapes Go.ChangeAt Go.RowKit

set_option maxRecDepth 100000 in
theorem closed : joinedFacts Try.pinned.checked.prog 5 Try.f5 Rows.fnExactVmapPruneSpec Rows.fnExactVmapPruneRow = true := by kernel_rfl
end Go.Proofs.Ytmabffdocofijaa.fnExactVmapPrune
