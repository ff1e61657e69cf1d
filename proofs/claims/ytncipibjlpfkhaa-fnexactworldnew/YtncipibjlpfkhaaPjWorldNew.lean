/- The closed facts of the row of FnExactWorldNew. -/
import Derived.Test.YtncipibjlpfkhaaRows
import Derived.WalkKit
import Derived.ProofKit
import Derived.OpenShut
namespace Go.Proofs.Ytncipibjlpfkhaa.fnExactWorldNew
open Go.ChangeShapes Go.WideShapes Go.ChangeAt Go.RowKit

set_option maxRecDepth 100000 in
theorem closed : joinedFacts Try.pinned.checked.prog 5 Try.f5 Rows.fnExactWorldNewSpec Rows.fnExactWorldNewRow = true := by kernel_rfl
end Go.Proofs.Ytncipibjlpfkhaa.fnExactWorldNew
