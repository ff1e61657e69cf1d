/- The closed facts of the row of FnVmapCut. -/
import Derived.Test.YtjijichgoodocaaRows
import Derived.WalkKit
import Derived.ProofKit
import Derived.OpenShut
namespace Go.Proofs.Ytjijichgoodocaa.fnVmapCut
open Go.ChangeShapes Go.WideShapes Go.ChangeAt Go.RowKit

set_option maxRecDepth 100000 in
theorem closed : joinedFacts Try.pinned.checked.prog 6 Try.f6 Rows.fnVmapCutSpec Rows.fnVmapCutRow = true := by kernel_rfl
end Go.Proofs.Ytjijichgoodocaa.fnVmapCut
