/- The order of strings, byte by byte: it is List's own. -/
import Derived.Test.YtncipibjlpfkhaaRows
import Derived.WalkKit
import Derived.Test.YtncipibjlpfkhaaOrd
namespace Go.Proofs.Ytncipibjlpfkhaa
open Go.RowKit

theorem bytesLess_eq : ∀ (x y : List UInt8), Op.bytesLess x y = decide (x < y)
  | [], [] => by simp [Op.bytesLess]
  | _ :: _, [] => by simp [Op.bytesLess]
  | [], _ :: _ => by simp [Op.bytesLess]
  | a :: x, b :: y => by
    rw [Op.bytesLess, bytesLess_eq x y]
    simp only [List.cons_lt_cons_iff]
    by_cases h1 : a < b <;> by_cases h2 : a = b <;> by_cases h3 : x < y <;> simp [h1, h2, h3]

theorem bytesLess_le (x y : List UInt8) : (Op.bytesLess x y || x == y) = !(Op.bytesLess y x) := by
  rw [bytesLess_eq, bytesLess_eq, Bool.eq_iff_iff]
  simp only [Bool.or_eq_true, decide_eq_true_eq, beq_iff_eq, Bool.not_eq_true', decide_eq_false_iff_not]
  constructor
  · rintro (h | rfl)
    · exact List.lt_asymm h
    · exact List.lt_irrefl _
  · intro h
    by_cases e : x = y
    · exact .inr e
    · exact .inl (Decidable.byContradiction fun k => e (List.le_antisymm (List.not_lt.1 h) (List.not_lt.1 k)))
end Go.Proofs.Ytncipibjlpfkhaa

/- Whether the keys of objects ascend, as the program asks it. -/
namespace Go.Proofs.Ytncipibjlpfkhaa
open Go.RowKit

def ObjsUp (os : List ObjD) (k : Nat) : Prop := ∀ i (h : i < os.length), i < k → ∀ j (hj : j < os.length), j + 1 = i → (Op.bytesLess os[i].key.toList os[j].key.toList || os[i].key.toList == os[j].key.toList) = false
end Go.Proofs.Ytncipibjlpfkhaa

/- The search for a place in an ordered map. -/
namespace Go.Proofs.Ytncipibjlpfkhaa
open Go.RowKit

/-- Where a search ends: what is ahead says no, what is there says yes. -/
def Cut (p : Nat → Bool) (n r : Nat) : Prop := r ≤ n ∧ (∀ k, k + 1 = r → p k = false) ∧ (r < n → p r = true)
def CutPost (p : Nat → Bool) (n : Nat) (w : World) (e : Ending) (w' : World) : Prop := ∃ r : Nat, e = .returned (.int .i64 r) ∧ Cut p n r ∧ Below w.heap.size w w'
/-- The closure answers so, in every later world. -/
def Says (c : Nat) (x y : Value) (p : Nat → Bool) (n : Nat) (w : World) : Prop :=
  ∀ i, i < n → ∀ u, Below w.heap.size w u → Calls Try.prog c #[.int .i64 (i : Int), x, y] u fun e u' => e = .returned (.bool (p i)) ∧ Below u.heap.size u u'
end Go.Proofs.Ytncipibjlpfkhaa

/- How many versions, or objects, have at most that rank. -/
namespace Go.Proofs.Ytncipibjlpfkhaa
open Go.RowKit

def verP (vs : List VerD) (id : Int) (i : Nat) : Bool := if h : i < vs.length then decide (id < vs[i].id) else true
theorem verP_at {vs : List VerD} {id : Int} {i : Nat} (h : i < vs.length) : verP vs id i = decide (id < vs[i].id) := by simp [verP, h]
def objP (os : List ObjD) (key : ByteArray) (i : Nat) : Bool := if h : i < os.length then Op.bytesLess key.toList os[i].key.toList else true
theorem objP_at {os : List ObjD} {key : ByteArray} {i : Nat} (h : i < os.length) : objP os key i = Op.bytesLess key.toList os[i].key.toList := by simp [objP, h]
end Go.Proofs.Ytncipibjlpfkhaa
