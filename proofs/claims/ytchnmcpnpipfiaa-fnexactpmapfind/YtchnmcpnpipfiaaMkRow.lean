/- Slices of Row: their marks. -/
import Derived.Test.YtchnmcpnpipfiaaFlRow
import Derived.Test.YtchnmcpnpipfiaaMkSt
namespace Go.Proofs.Ytchnmcpnpipfiaa
open Go.RowKit

def Rowmf (k i : Nat) : Value := if i % 2 = 0 then .string (mtext (k + i)) else .int .i64 ((k + i : Nat) : Int)

theorem Rowmf_0 (k i : Nat) : Rowmf k (i * 2) = .string (mtext (k + i * 2)) := by
  unfold Rowmf
  simp only [show (i * 2) % 2 = 0 by omega, if_true, if_false, Nat.reduceEqDiff, Nat.add_assoc]
theorem Rowmf_1 (k i : Nat) : Rowmf k (i * 2 + 1) = .int .i64 ((k + i * 2 + 1 : Nat) : Int) := by
  unfold Rowmf
  simp only [show (i * 2 + 1) % 2 = 1 by omega, if_true, if_false, Nat.reduceEqDiff, Nat.add_assoc]
theorem RowsIn.of_marks {S : Nat → Prop} {w u : World} {b off n k : Nat} (h : MkSt (Rowmf k) S w b off (n * 2) (n * 2) u) : RowsIn u (some ⟨b, off, none⟩) (Rowmarks k n) := by
  refine .inr ⟨b, off, rfl, h.lt, fun i hi => ?_⟩
  have hi' : i < n := by rw [Rowmarks_length] at hi; exact hi
  simp only [Rowmarks_at]
  have h0 := h.done (i * 2) (by omega)
  rw [Rowmf_0] at h0
  have h1 := h.done (i * 2 + 1) (by omega)
  rw [Rowmf_1] at h1
  simp only [← Nat.add_assoc] at h0 h1 ⊢
  exact ⟨h0, h1⟩
end Go.Proofs.Ytchnmcpnpipfiaa
