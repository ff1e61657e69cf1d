/- How versions and objects lie in memory; the sizes that the laws reckon of them. -/
import Derived.Test.YthjikcfpoomioaaRows
import Derived.WalkKit
import Derived.WalkSpells
import Derived.WalkLawsBesides
import Derived.Lib.Hide
import Derived.Deep.RegionHeld3
import Derived.Deep.QuietTactic
import Derived.BigQuiet
import Derived.IntWalk
namespace Go.Proofs.Ythjikcfpoomioaa
open Go.RowKit

structure VerD where
  id : Int
  text : ByteArray
  gone : Bool

def VerD.val (v : VerD) : Value := .agg #[.int .i64 v.id, .string v.text, .bool v.gone]

/-- A slice of versions, as it reads in u. -/
def VersIn (u : World) (a : Option Addr) (vs : List VerD) : Prop :=
  vs = [] ∨ ∃ b off, a = some ⟨b, off, none⟩ ∧ b < u.heap.size ∧ ∀ i (h : i < vs.length), u.cell? ⟨b, off + i * 3, none⟩ = some (.int .i64 vs[i].id) ∧ u.cell? ⟨b, off + i * 3 + 1, none⟩ = some (.string vs[i].text) ∧ u.cell? ⟨b, off + i * 3 + 2, none⟩ = some (.bool vs[i].gone)

theorem VersIn.below {u v : World} {a : Option Addr} {vs : List VerD} (h : VersIn u a vs) (hb : Below u.heap.size u v) : VersIn v a vs := by
  rcases h with h | ⟨b, off, e, hlt, hc⟩
  · exact .inl h
  · refine .inr ⟨b, off, e, Nat.lt_of_lt_of_le hlt hb.size, fun i hi => ?_⟩
    rw [hb.cell (p := ⟨b, off + i * 3, none⟩) hlt, hb.cell (p := ⟨b, off + i * 3 + 1, none⟩) hlt, hb.cell (p := ⟨b, off + i * 3 + 2, none⟩) hlt]
    exact hc i hi

/-- What a size function hands back: -1, or what is left. -/
def SzPost (left : Int) (total : Nat) (w : World) (e : Ending) (w' : World) : Prop :=
  ∃ z : Int, e = .returned (.int .i64 z) ∧ (z = -1 ∨ 0 ≤ z ∧ z + total = left) ∧ Below w.heap.size w w'

def textsTo (vs : List VerD) (k : Nat) : Nat := ((vs.take k).map fun v => v.text.size).sum
theorem textsTo_zero (vs : List VerD) : textsTo vs 0 = 0 := by simp [textsTo]
theorem textsTo_succ (vs : List VerD) (k : Nat) (h : k < vs.length) : textsTo vs (k + 1) = textsTo vs k + vs[k].text.size := by
  unfold textsTo
  rw [List.take_succ_eq_append_getElem h, List.map_append, List.sum_append]
  simp
def versSize (vs : List VerD) : Nat := vs.length + textsTo vs vs.length

structure ObjD where
  key : ByteArray
  at_ : Option Addr
  cap : Nat
  vers : List VerD

/-- A slice of objects, as it reads in u. -/
def ObjsIn (u : World) (a : Option Addr) (os : List ObjD) : Prop :=
  os = [] ∨ ∃ b off, a = some ⟨b, off, none⟩ ∧ b < u.heap.size ∧ ∀ i (h : i < os.length), u.cell? ⟨b, off + i * 2, none⟩ = some (.string os[i].key) ∧ u.cell? ⟨b, off + i * 2 + 1, none⟩ = some (.slice os[i].at_ os[i].vers.length os[i].cap) ∧ VersIn u os[i].at_ os[i].vers

theorem ObjsIn.below {u v : World} {a : Option Addr} {os : List ObjD} (h : ObjsIn u a os) (hb : Below u.heap.size u v) : ObjsIn v a os := by
  rcases h with h | ⟨b, off, e, hlt, hc⟩
  · exact .inl h
  · refine .inr ⟨b, off, e, Nat.lt_of_lt_of_le hlt hb.size, fun i hi => ?_⟩
    obtain ⟨c0, c1, c2⟩ := hc i hi
    rw [hb.cell (p := ⟨b, off + i * 2, none⟩) hlt, hb.cell (p := ⟨b, off + i * 2 + 1, none⟩) hlt]
    exact ⟨c0, c1, c2.below hb⟩

/-- What fits of an object, whatever it holds. -/
def ObjD.fits (o : ObjD) : Prop := o.key.size ≤ maxLen ∧ o.vers.length ≤ maxLen ∧ ∀ v ∈ o.vers, v.text.size ≤ maxLen

def objsTo (os : List ObjD) (k : Nat) : Nat := ((os.take k).map fun o => o.key.size + versSize o.vers).sum
theorem objsTo_zero (os : List ObjD) : objsTo os 0 = 0 := by simp [objsTo]
theorem objsTo_succ (os : List ObjD) (k : Nat) (h : k < os.length) : objsTo os (k + 1) = objsTo os k + (os[k].key.size + versSize os[k].vers) := by
  unfold objsTo
  rw [List.take_succ_eq_append_getElem h, List.map_append, List.sum_append]
  simp
def mapSize (os : List ObjD) : Nat := os.length + objsTo os os.length
end Go.Proofs.Ythjikcfpoomioaa
