/- Lists whose elements are ok and whose neighbours fit. -/
import Derived.Test.YthjikcfpoomioaaLst
namespace Go.Proofs.Ythjikcfpoomioaa
open Go.RowKit

def SepBy {α : Type} (bad : α → α → Bool) (vs : List α) (k : Nat) : Prop := ∀ i (h : i < vs.length), i < k → ∀ j (hj : j < vs.length), j + 1 = i → bad vs[j] vs[i] = false
def SepOk {α : Type} (ok : α → Bool) (bad : α → α → Bool) (vs : List α) (k : Nat) : Prop := OkBy ok vs k ∧ SepBy bad vs k
theorem SepOk.zero {α : Type} (ok : α → Bool) (bad : α → α → Bool) (vs : List α) : SepOk ok bad vs 0 := ⟨OkBy.zero _ _, fun _ _ h => absurd h (by omega)⟩
theorem SepOk.one {α : Type} {ok : α → Bool} {bad : α → α → Bool} {vs : List α} (hk : 0 < vs.length) (ho : ok vs[0] = true) : SepOk ok bad vs (0 + 1) := ⟨(OkBy.zero _ _).succ hk ho, fun i _ h j _ e => by omega⟩
theorem SepOk.succ {α : Type} {ok : α → Bool} {bad : α → α → Bool} {vs : List α} {k : Nat} (h : SepOk ok bad vs (k + 1)) (hk : k + 1 < vs.length) (ho : ok vs[k + 1] = true) (hu : bad vs[k] vs[k + 1] = false) : SepOk ok bad vs (k + 1 + 1) := ⟨h.1.succ hk ho, fun i hi hik j hj e => by
  by_cases q : i = k + 1
  · subst q; obtain rfl : j = k := (by omega); exact hu
  · exact h.2 i hi (by omega) j hj e⟩
theorem SepOk.not_ok {α : Type} {ok : α → Bool} {bad : α → α → Bool} {vs : List α} {k : Nat} (hk : k < vs.length) (ho : ok vs[k] = false) : ¬ SepOk ok bad vs vs.length := fun h => OkBy.not hk ho h.1
theorem SepOk.not_sep {α : Type} {ok : α → Bool} {bad : α → α → Bool} {vs : List α} {k : Nat} (hk : k + 1 < vs.length) (hu : bad vs[k] vs[k + 1] = true) : ¬ SepOk ok bad vs vs.length := fun h => by
  have := h.2 (k + 1) hk hk k (by omega) rfl
  rw [hu] at this; cases this
end Go.Proofs.Ythjikcfpoomioaa
