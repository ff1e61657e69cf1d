/- Lists whose elements are ok and whose keys ascend. -/
import Derived.Test.YthjikcfpoomioaaVmOk
import Derived.Test.YthjikcfpoomioaaLess
namespace Go.Proofs.Ythjikcfpoomioaa
open Go.RowKit

def UpBy {α : Type} (key : α → ByteArray) (vs : List α) (k : Nat) : Prop := ∀ i (h : i < vs.length), i < k → ∀ j (hj : j < vs.length), j + 1 = i → (Op.bytesLess (key vs[i]).toList (key vs[j]).toList || (key vs[i]).toList == (key vs[j]).toList) = false
def OkBy {α : Type} (ok : α → Bool) (vs : List α) (k : Nat) : Prop := ∀ i (h : i < vs.length), i < k → ok vs[i] = true
def LstOk {α : Type} (ok : α → Bool) (key : α → ByteArray) (vs : List α) (k : Nat) : Prop := OkBy ok vs k ∧ UpBy key vs k
theorem UpBy.zero {α : Type} (key : α → ByteArray) (vs : List α) : UpBy key vs 0 := fun _ _ h => absurd h (by omega)
theorem UpBy.one {α : Type} (key : α → ByteArray) (vs : List α) : UpBy key vs 1 := fun i _ h j _ e => by omega
theorem UpBy.succ {α : Type} {key : α → ByteArray} {vs : List α} {k : Nat} (h : UpBy key vs (k + 1)) (hk : k + 1 < vs.length) (ho : (Op.bytesLess (key vs[k + 1]).toList (key vs[k]).toList || (key vs[k + 1]).toList == (key vs[k]).toList) = false) : UpBy key vs (k + 1 + 1) := fun i hi hik j hj e => by
  by_cases q : i = k + 1
  · subst q; obtain rfl : j = k := (by omega); exact ho
  · exact h i hi (by omega) j hj e
theorem OkBy.zero {α : Type} (ok : α → Bool) (vs : List α) : OkBy ok vs 0 := fun _ _ h => absurd h (by omega)
theorem OkBy.succ {α : Type} {ok : α → Bool} {vs : List α} {k : Nat} (h : OkBy ok vs k) (hk : k < vs.length) (ho : ok vs[k] = true) : OkBy ok vs (k + 1) := fun i hi hik => by
  by_cases q : i = k
  · subst q; exact ho
  · exact h i hi (by omega)
theorem OkBy.not {α : Type} {ok : α → Bool} {vs : List α} {k : Nat} (hk : k < vs.length) (ho : ok vs[k] = false) : ¬ OkBy ok vs vs.length := fun h => by rw [h k hk hk] at ho; cases ho
theorem LstOk.zero {α : Type} (ok : α → Bool) (key : α → ByteArray) (vs : List α) : LstOk ok key vs 0 := ⟨OkBy.zero _ _, UpBy.zero _ _⟩
theorem LstOk.one {α : Type} {ok : α → Bool} {key : α → ByteArray} {vs : List α} (hk : 0 < vs.length) (ho : ok vs[0] = true) : LstOk ok key vs (0 + 1) := ⟨(OkBy.zero _ _).succ hk ho, UpBy.one _ _⟩
theorem LstOk.succ {α : Type} {ok : α → Bool} {key : α → ByteArray} {vs : List α} {k : Nat} (h : LstOk ok key vs (k + 1)) (hk : k + 1 < vs.length) (ho : ok vs[k + 1] = true) (hu : (Op.bytesLess (key vs[k + 1]).toList (key vs[k]).toList || (key vs[k + 1]).toList == (key vs[k]).toList) = false) : LstOk ok key vs (k + 1 + 1) := ⟨h.1.succ hk ho, h.2.succ hk hu⟩
theorem LstOk.not_ok {α : Type} {ok : α → Bool} {key : α → ByteArray} {vs : List α} {k : Nat} (hk : k < vs.length) (ho : ok vs[k] = false) : ¬ LstOk ok key vs vs.length := fun h => OkBy.not hk ho h.1
theorem LstOk.not_up {α : Type} {ok : α → Bool} {key : α → ByteArray} {vs : List α} {k : Nat} (hk : k + 1 < vs.length) (hu : (Op.bytesLess (key vs[k + 1]).toList (key vs[k]).toList || (key vs[k + 1]).toList == (key vs[k]).toList) = true) : ¬ LstOk ok key vs vs.length := fun h => by
  have := h.2 (k + 1) hk hk k (by omega) rfl
  rw [hu] at this; cases this
theorem l1Text_is {s : ByteArray} {b : Bool} (h : okB textB 8 s = b) (hs : s.size ≤ maxLen) (w : World) :
    Calls Try.prog 135 #[.string s] w fun e w' => e = .returned (.bool b) ∧ w' = w := (h ▸ l1Text_any s w hs).mono fun _ _ ⟨a, b⟩ => ⟨a, b.symm⟩
theorem not_both {P : Prop} {b c : Bool} (h : b = true ↔ P) (k : c = true ↔ P) : b = c := by rw [Bool.eq_iff_iff, h, k]
theorem regrown_step {B : Nat} {w W : World} (hB : Below B w W) {u : World} (h : Below W.heap.size W u) (hs : B ≤ W.heap.size) : Below B w u := hB.trans (h.mono hs)

end Go.Proofs.Ythjikcfpoomioaa

/- Lists whose elements are ok and whose neighbours fit. -/
namespace Go.Proofs.Ythjikcfpoomioaa
open Go.RowKit

def SepBy {α : Type} (bad : α → α → Bool) (vs : List α) (k : Nat) : Prop := ∀ i (h : i < vs.length), i < k → ∀ j (hj : j < vs.length), j + 1 = i → bad vs[j] vs[i] = false
def SepOk {α : Type} (ok : α → Bool) (bad : α → α → Bool) (vs : List α) (k : Nat) : Prop := OkBy ok vs k ∧ SepBy bad vs k
theorem SepOk.zero {α : Type} (ok : α → Bool) (bad : α → α → Bool) (vs : List α) : SepOk ok bad vs 0 := ⟨OkBy.zero _ _, fun _ _ h => absurd h (by omega)⟩
theorem SepOk.one {α : Type} {ok : α → Bool} {bad : α → α → Bool} {vs : List α} (hk : 0 < vs.length) (ho : ok vs[0] = true) : SepOk ok bad vs (0 + 1) := ⟨(OkBy.zero _ _).succ hk ho, fun i _ h j _ e => by omega⟩
theorem SepOk.succ {α : Type} {ok : α → Bool} {bad : α → α → Bool} {vs : List α} {k : Nat} (h : SepOk ok bad vs (k + 1)) (hk : k + 1 < vs.length) (ho : ok vs[k + 1] = true) (hu : bad vs[k] vs[k + 1] = false) : SepOk ok bad vs (k + 1 + 1) := ⟨h.1.succ hk ho, fun i hi hik j hj e => by
  by_cases q : i = k + 1
  · subst q; obtain rfl : j = k := (by omega); exact hu
  · exact h.2 i hi (by omega) j hj e⟩
theorem SepOk.not_ok {α : Type} {ok : α → Bool} {bad : α → α → Bool} {vs : List α} {k : Nat} (hk : k < vs.length) (ho : ok vs[k] = false) : ¬ SepOk ok bad vs vs.length := fun h => OkBy.not hk ho h.1
theorem SepOk.not_sep {α : Type} {ok : α → Bool} {bad : α → α → Bool} {vs : List α} {k : Nat} (hk : k + 1 < vs.length) (hu : bad vs[k] vs[k + 1] = true) : ¬ SepOk ok bad vs vs.length := fun h => by
  have := h.2 (k + 1) hk hk k (by omega) rfl
  rw [hu] at this; cases this
end Go.Proofs.Ythjikcfpoomioaa
