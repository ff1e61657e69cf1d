/- The closed facts of the row of FnExactNoteOk. -/
import Derived.Test.YtncipibjlpfkhaaRows
import Derived.WalkKit
import Derived.ProofKit
import Derived.OpenShut
namespace Go.Proofs.Ytncipibjlpfkhaa.fnExactNoteOk
open Go.ChangeShapes Go.WideShapes Go.ChangeAt Go.RowKit

set_option maxRecDepth 100000 in
theorem closed : joinedFacts Try.pinned.checked.prog 6 Try.f6 Rows.fnExactNoteOkSpec Rows.fnExactNoteOkRow = true := by kernel_rfl
end Go.Proofs.Ytncipibjlpfkhaa.fnExactNoteOk
