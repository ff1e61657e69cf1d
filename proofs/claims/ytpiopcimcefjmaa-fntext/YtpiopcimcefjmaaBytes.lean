/- What a slice of bytes that came in is to the walk of a law. -/
import Derived.Test.YtpiopcimcefjmaaDrawOpen
import Derived.OpenShut
namespace Go.Proofs.Ytpiopcimcefjmaa
open Go.RowKit
theorem bytesIn_of {w : World} {a : Option Addr} {len cap : Nat} {zs : List Int}
    (h : (a = none ∧ len = 0 ∧ cap = 0 ∧ zs = []) ∨ ∃ x, a = some x ∧ len ≤ cap ∧ cap ≤ maxLen ∧ zs.length = cap ∧ (∀ i, i < zs.length → w.cell? (x.add i) = some (.int .u8 (zs.getD i 0))) ∧ ∀ n ∈ zs, (Lit.int .u8 n).wf = true) :
    BytesIn w a len cap := by
  rcases h with ⟨rfl, rfl, rfl, rfl⟩ | ⟨x, rfl, hl, hc, hz, hcell, hw⟩
  · exact ⟨Nat.le_refl _, Nat.zero_le _, .inl rfl⟩
  · refine ⟨hl, hc, ?_⟩
    by_cases h0 : len = 0
    · exact .inl h0
    · obtain ⟨b, off, rfl, hb⟩ := ints_at hcell (by omega)
      have hlt := World.block_lt_of_cell? w _ (hb 0 (by omega))
      refine .inr ⟨b, off, zs, rfl, hlt, fun i hi => ⟨hb i (by omega), ?_⟩⟩
      have := range_u8 hw i
      simpa using this
end Go.Proofs.Ytpiopcimcefjmaa
