/- When a question of a listing is ok: the model and the program say the same; its size and its copy. -/
import Derived.Test.YthjikcfpoomioaaVmSpec
namespace Go.Proofs.Ythjikcfpoomioaa
open Go.RowKit

theorem bcell {W w1 : World} (hb : Below W.heap.size W w1) : (∀ b o, b < W.heap.size → w1.cell? ⟨b, o, none⟩ = W.cell? ⟨b, o, none⟩) ∧ (∀ b o, b < W.heap.size → w1.frozen? ⟨b, o, none⟩ = W.frozen? ⟨b, o, none⟩) :=
  ⟨fun b o h => hb.cell (p := ⟨b, o, none⟩) h, fun b o h => hb.frozen (p := ⟨b, o, none⟩) h⟩
def askOkB (h a : ByteArray) (m : Int) : Bool := okB keyB 6 h && (okB keyB 6 a && inB m 1 5)
end Go.Proofs.Ythjikcfpoomioaa
