/- What is seen of a key, as the program finds it. -/
import Derived.Test.YthjikcfpoomioaaUpTo
import Derived.Test.YthjikcfpoomioaaMapOk
namespace Go.Proofs.Ythjikcfpoomioaa
open Go.RowKit

def verRes : Option VerD → Value
  | none => .tuple #[.agg #[.int .i64 0, .string ⟨#[]⟩, .bool false], .bool false]
  | some v => .tuple #[.agg #[.int .i64 v.id, .string v.text, .bool v.gone], .bool true]
def objRes : Option ObjD → Value
  | none => .tuple #[.agg #[.string ⟨#[]⟩, .slice none 0 0], .bool false]
  | some o => .tuple #[.agg #[.string o.key, .slice o.at_ o.vers.length o.cap], .bool true]
def lastAt {α : Type} (xs : List α) (r : Nat) : Option α := if r = 0 then none else xs[r - 1]?
theorem lastAt_zero {α : Type} (xs : List α) : lastAt xs 0 = none := rfl
theorem lastAt_succ {α : Type} (xs : List α) (q : Nat) (h : q < xs.length) : lastAt xs (q + 1) = some xs[q] := by simp [lastAt, h]

def VerLatest (vs : List VerD) (id : Int) (w : World) (e : Ending) (w' : World) : Prop := ∃ r : Nat, Cut (verP vs id) vs.length r ∧ e = .returned (verRes (lastAt vs r)) ∧ Below w.heap.size w w'
def ObjLatest (os : List ObjD) (key : ByteArray) (w : World) (e : Ending) (w' : World) : Prop := ∃ r : Nat, Cut (objP os key) os.length r ∧ e = .returned (objRes (lastAt os r)) ∧ Below w.heap.size w w'

/-- What is seen of these versions as of r of them. -/
def seenAt (vs : List VerD) (r : Nat) : Option VerD := (lastAt vs r).bind fun v => if v.gone then none else some v
def VisPost (vs : List VerD) (id : Int) (w : World) (e : Ending) (w' : World) : Prop := ∃ r : Nat, Cut (verP vs id) vs.length r ∧ e = .returned (verRes (seenAt vs r)) ∧ Below w.heap.size w w'

/-- The object of that key, if r of them have at most that rank. -/
def foundAt (os : List ObjD) (key : ByteArray) (r : Nat) : Option ObjD := (lastAt os r).bind fun o => if o.key.toList == key.toList then some o else none
def GetPost (os : List ObjD) (key : ByteArray) (w : World) (e : Ending) (w' : World) : Prop := ∃ r : Nat, Cut (objP os key) os.length r ∧ e = .returned (objRes (foundAt os key r)) ∧ Below w.heap.size w w'

theorem found_no {os : List ObjD} {key : ByteArray} {q : Nat} (hq : q < os.length) (h : (os[q].key.toList == key.toList) = false) : foundAt os key (q + 1) = none := by
  rw [foundAt, lastAt_succ os q hq]; simp only [Option.bind_some]; rw [h]; rfl
theorem found_yes {os : List ObjD} {key : ByteArray} {q : Nat} (hq : q < os.length) (h : (os[q].key.toList == key.toList) = true) : foundAt os key (q + 1) = some os[q] := by
  rw [foundAt, lastAt_succ os q hq]; simp only [Option.bind_some]; rw [h]; rfl
end Go.Proofs.Ythjikcfpoomioaa
