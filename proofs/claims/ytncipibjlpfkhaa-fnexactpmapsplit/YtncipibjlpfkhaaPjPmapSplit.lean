/- The closed facts of the row of FnExactPmapSplit. -/
import Derived.Test.YtncipibjlpfkhaaRows
import Derived.WalkKit
import Derived.ProofKit
import Derived.OpenShut
namespace Go.Proofs.Ytncipibjlpfkhaa.fnExactPmapSplit
open Go.ChangeShapes Go.WideShapes Go.ChangeAt Go.RowKit

set_option maxRecDepth 100000 in
theorem closed : joinedFacts Try.pinned.checked.prog 8 Try.f8 Rows.fnExactPmapSplitSpec Rows.fnExactPmapSplitRow = true := by kernel_rfl
end Go.Proofs.Ytncipibjlpfkhaa.fnExactPmapSplit
