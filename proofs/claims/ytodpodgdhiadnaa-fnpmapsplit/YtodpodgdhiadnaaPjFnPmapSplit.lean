/- The closed facts of the row of FnPmapSplit. -/
import Derived.Test.YtodpodgdhiadnaaRows
import Derived.WalkKit
import Derived.ProofKit
import Derived.OpenShut
namespace Go.Proofs.Ytodpodgdhiadnaa.fnPmapSplit
open Go.ChangeShapes Go.WideShapes Go.ChangeAt Go.RowKit

set_option maxRecDepth 100000 in
theorem closed : joinedFacts Try.pinned.checked.prog 12 Try.f12 Rows.fnPmapSplitSpec Rows.fnPmapSplitRow = true := by kernel_rfl
end Go.Proofs.Ytodpodgdhiadnaa.fnPmapSplit
