/- The search for a place in an ordered map. -/
import Derived.Test.YthjikcfpoomioaaIter
import Derived.Test.YthjikcfpoomioaaMapOk
namespace Go.Proofs.Ythjikcfpoomioaa
open Go.RowKit

/-- Where a search ends: what is ahead says no, what is there says yes. -/
def Cut (p : Nat → Bool) (n r : Nat) : Prop := r ≤ n ∧ (∀ k, k + 1 = r → p k = false) ∧ (r < n → p r = true)
def CutPost (p : Nat → Bool) (n : Nat) (w : World) (e : Ending) (w' : World) : Prop := ∃ r : Nat, e = .returned (.int .i64 r) ∧ Cut p n r ∧ Below w.heap.size w w'
/-- The closure answers so, in every later world. -/
def Says (c : Nat) (x y : Value) (p : Nat → Bool) (n : Nat) (w : World) : Prop :=
  ∀ i, i < n → ∀ u, Below w.heap.size w u → Calls Try.prog c #[.int .i64 (i : Int), x, y] u fun e u' => e = .returned (.bool (p i)) ∧ Below u.heap.size u u'
end Go.Proofs.Ythjikcfpoomioaa

/- How many versions, or objects, have at most that rank. -/
namespace Go.Proofs.Ythjikcfpoomioaa
open Go.RowKit

def verP (vs : List VerD) (id : Int) (i : Nat) : Bool := if h : i < vs.length then decide (id < vs[i].id) else true
theorem verP_at {vs : List VerD} {id : Int} {i : Nat} (h : i < vs.length) : verP vs id i = decide (id < vs[i].id) := by simp [verP, h]
def objP (os : List ObjD) (key : ByteArray) (i : Nat) : Bool := if h : i < os.length then Op.bytesLess key.toList os[i].key.toList else true
theorem objP_at {os : List ObjD} {key : ByteArray} {i : Nat} (h : i < os.length) : objP os key i = Op.bytesLess key.toList os[i].key.toList := by simp [objP, h]
end Go.Proofs.Ythjikcfpoomioaa

/- What is seen of a key, as the program finds it. -/
namespace Go.Proofs.Ythjikcfpoomioaa
open Go.RowKit

def verRes : Option VerD → Value
  | none => .tuple #[.agg #[.int .i64 0, .string ⟨#[]⟩, .bool false], .bool false]
  | some v => .tuple #[.agg #[.int .i64 v.id, .string v.text, .bool v.gone], .bool true]
def objRes : Option ObjD → Value
  | none => .tuple #[.agg #[.string ⟨#[]⟩, .slice none 0 0], .bool false]
  | some o => .tuple #[.agg #[.string o.key, .slice o.at_ o.vers.length o.cap], .bool true]
def lastAt {α : Type} (xs : List α) (r : Nat) : Option α := if r = 0 then none else xs[r - 1]?
theorem lastAt_zero {α : Type} (xs : List α) : lastAt xs 0 = none := rfl
theorem lastAt_succ {α : Type} (xs : List α) (q : Nat) (h : q < xs.length) : lastAt xs (q + 1) = some xs[q] := by simp [lastAt, h]

def VerLatest (vs : List VerD) (id : Int) (w : World) (e : Ending) (w' : World) : Prop := ∃ r : Nat, Cut (verP vs id) vs.length r ∧ e = .returned (verRes (lastAt vs r)) ∧ Below w.heap.size w w'
def ObjLatest (os : List ObjD) (key : ByteArray) (w : World) (e : Ending) (w' : World) : Prop := ∃ r : Nat, Cut (objP os key) os.length r ∧ e = .returned (objRes (lastAt os r)) ∧ Below w.heap.size w w'

/-- What is seen of these versions as of r of them. -/
def seenAt (vs : List VerD) (r : Nat) : Option VerD := (lastAt vs r).bind fun v => if v.gone then none else some v
def VisPost (vs : List VerD) (id : Int) (w : World) (e : Ending) (w' : World) : Prop := ∃ r : Nat, Cut (verP vs id) vs.length r ∧ e = .returned (verRes (seenAt vs r)) ∧ Below w.heap.size w w'

/-- The object of that key, if r of them have at most that rank. -/
def foundAt (os : List ObjD) (key : ByteArray) (r : Nat) : Option ObjD := (lastAt os r).bind fun o => if o.key.toList == key.toList then some o else none
def GetPost (os : List ObjD) (key : ByteArray) (w : World) (e : Ending) (w' : World) : Prop := ∃ r : Nat, Cut (objP os key) os.length r ∧ e = .returned (objRes (foundAt os key r)) ∧ Below w.heap.size w w'

theorem found_no {os : List ObjD} {key : ByteArray} {q : Nat} (hq : q < os.length) (h : (os[q].key.toList == key.toList) = false) : foundAt os key (q + 1) = none := by
  rw [foundAt, lastAt_succ os q hq]; simp only [Option.bind_some]; rw [h]; rfl
theorem found_yes {os : List ObjD} {key : ByteArray} {q : Nat} (hq : q < os.length) (h : (os[q].key.toList == key.toList) = true) : foundAt os key (q + 1) = some os[q] := by
  rw [foundAt, lastAt_succ os q hq]; simp only [Option.bind_some]; rw [h]; rfl
end Go.Proofs.Ythjikcfpoomioaa
