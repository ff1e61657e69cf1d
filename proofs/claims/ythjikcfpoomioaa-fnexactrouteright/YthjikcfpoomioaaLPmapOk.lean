/- The law of PmapOk, walked. -/
import Derived.Test.YthjikcfpoomioaaPmapI
import Derived.Test.YthjikcfpoomioaaPm
import Derived.Test.YthjikcfpoomioaaLVmapOk
namespace Go.Proofs.Ythjikcfpoomioaa
open Go.RowKit

theorem pmOk_both {ep : Int} {vs : List RowD} {b c : Bool} (h : b = true ↔ PmapOkP ep vs) (k : c = true ↔ PmapOkP ep vs) : b = c := by rw [Bool.eq_iff_iff, h, k]
end Go.Proofs.Ythjikcfpoomioaa
