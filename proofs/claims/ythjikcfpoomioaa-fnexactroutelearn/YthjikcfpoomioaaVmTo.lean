/- How versions and objects lie in memory; the sizes that the laws reckon of them. -/
import Derived.Test.YthjikcfpoomioaaRows
import Derived.WalkKit
import Derived.WalkSpells
import Derived.WalkLawsBesides
import Derived.Lib.Hide
import Derived.Deep.RegionHeld3
import Derived.Deep.QuietTactic
import Derived.BigQuiet
import Derived.IntWalk
namespace Go.Proofs.Ythjikcfpoomioaa
open Go.RowKit

structure VerD where
  id : Int
  text : ByteArray
  gone : Bool

def VerD.val (v : VerD) : Value := .agg #[.int .i64 v.id, .string v.text, .bool v.gone]

/-- A slice of versions, as it reads in u. -/
def VersIn (u : World) (a : Option Addr) (vs : List VerD) : Prop :=
  vs = [] ∨ ∃ b off, a = some ⟨b, off, none⟩ ∧ b < u.heap.size ∧ ∀ i (h : i < vs.length), u.cell? ⟨b, off + i * 3, none⟩ = some (.int .i64 vs[i].id) ∧ u.cell? ⟨b, off + i * 3 + 1, none⟩ = some (.string vs[i].text) ∧ u.cell? ⟨b, off + i * 3 + 2, none⟩ = some (.bool vs[i].gone)

theorem VersIn.below {u v : World} {a : Option Addr} {vs : List VerD} (h : VersIn u a vs) (hb : Below u.heap.size u v) : VersIn v a vs := by
  rcases h with h | ⟨b, off, e, hlt, hc⟩
  · exact .inl h
  · refine .inr ⟨b, off, e, Nat.lt_of_lt_of_le hlt hb.size, fun i hi => ?_⟩
    rw [hb.cell (p := ⟨b, off + i * 3, none⟩) hlt, hb.cell (p := ⟨b, off + i * 3 + 1, none⟩) hlt, hb.cell (p := ⟨b, off + i * 3 + 2, none⟩) hlt]
    exact hc i hi

/-- What a size function hands back: -1, or what is left. -/
def SzPost (left : Int) (total : Nat) (w : World) (e : Ending) (w' : World) : Prop :=
  ∃ z : Int, e = .returned (.int .i64 z) ∧ (z = -1 ∨ 0 ≤ z ∧ z + total = left) ∧ Below w.heap.size w w'

def textsTo (vs : List VerD) (k : Nat) : Nat := ((vs.take k).map fun v => v.text.size).sum
theorem textsTo_zero (vs : List VerD) : textsTo vs 0 = 0 := by simp [textsTo]
theorem textsTo_succ (vs : List VerD) (k : Nat) (h : k < vs.length) : textsTo vs (k + 1) = textsTo vs k + vs[k].text.size := by
  unfold textsTo
  rw [List.take_succ_eq_append_getElem h, List.map_append, List.sum_append]
  simp
def versSize (vs : List VerD) : Nat := vs.length + textsTo vs vs.length

structure ObjD where
  key : ByteArray
  at_ : Option Addr
  cap : Nat
  vers : List VerD

/-- A slice of objects, as it reads in u. -/
def ObjsIn (u : World) (a : Option Addr) (os : List ObjD) : Prop :=
  os = [] ∨ ∃ b off, a = some ⟨b, off, none⟩ ∧ b < u.heap.size ∧ ∀ i (h : i < os.length), u.cell? ⟨b, off + i * 2, none⟩ = some (.string os[i].key) ∧ u.cell? ⟨b, off + i * 2 + 1, none⟩ = some (.slice os[i].at_ os[i].vers.length os[i].cap) ∧ VersIn u os[i].at_ os[i].vers

theorem ObjsIn.below {u v : World} {a : Option Addr} {os : List ObjD} (h : ObjsIn u a os) (hb : Below u.heap.size u v) : ObjsIn v a os := by
  rcases h with h | ⟨b, off, e, hlt, hc⟩
  · exact .inl h
  · refine .inr ⟨b, off, e, Nat.lt_of_lt_of_le hlt hb.size, fun i hi => ?_⟩
    obtain ⟨c0, c1, c2⟩ := hc i hi
    rw [hb.cell (p := ⟨b, off + i * 2, none⟩) hlt, hb.cell (p := ⟨b, off + i * 2 + 1, none⟩) hlt]
    exact ⟨c0, c1, c2.below hb⟩

/-- What fits of an object, whatever it holds. -/
def ObjD.fits (o : ObjD) : Prop := o.key.size ≤ maxLen ∧ o.vers.length ≤ maxLen ∧ ∀ v ∈ o.vers, v.text.size ≤ maxLen

def objsTo (os : List ObjD) (k : Nat) : Nat := ((os.take k).map fun o => o.key.size + versSize o.vers).sum
theorem objsTo_zero (os : List ObjD) : objsTo os 0 = 0 := by simp [objsTo]
theorem objsTo_succ (os : List ObjD) (k : Nat) (h : k < os.length) : objsTo os (k + 1) = objsTo os k + (os[k].key.size + versSize os[k].vers) := by
  unfold objsTo
  rw [List.take_succ_eq_append_getElem h, List.map_append, List.sum_append]
  simp
def mapSize (os : List ObjD) : Nat := os.length + objsTo os os.length
end Go.Proofs.Ythjikcfpoomioaa

/- Maps that read the same compare as equal. -/
namespace Go.Proofs.Ythjikcfpoomioaa
open Go.RowKit

/-- Two lists of objects hold the same, wherever their versions lie. -/
def SameObjs (xs ys : List ObjD) : Prop := xs.length = ys.length ∧ ∀ i (h : i < xs.length) (k : i < ys.length), xs[i].key = ys[i].key ∧ xs[i].vers = ys[i].vers
end Go.Proofs.Ythjikcfpoomioaa

/- The copies that the laws make of maps: new memory that reads the same. -/
namespace Go.Proofs.Ythjikcfpoomioaa
open Go.RowKit

/-- Block g of u is a row of m cells that may be written. -/
def Row (g m : Nat) (u : World) : Prop := g < u.heap.size ∧ ∀ j, j < m → (∃ v, u.cell? ⟨g, j, none⟩ = some v) ∧ u.frozen? ⟨g, j, none⟩ = false
theorem Row.below {g m : Nat} {u v : World} (h : Row g m u) (hb : Below u.heap.size u v) : Row g m v :=
  ⟨Nat.lt_of_lt_of_le h.1 hb.size, fun j hj => ⟨by obtain ⟨x, hx⟩ := (h.2 j hj).1; exact ⟨x, by rw [hb.cell (p := ⟨g, j, none⟩) h.1, hx]⟩, by rw [hb.frozen (p := ⟨g, j, none⟩) h.1]; exact (h.2 j hj).2⟩⟩
theorem Row.set {g m o : Nat} {u : World} {x : Value} (h : Row g m u) : Row g m (u.setCell ⟨g, o, none⟩ x) :=
  ⟨Nat.lt_of_lt_of_le h.1 (by simp [World.setCell]), fun j hj => ⟨by obtain ⟨y, hy⟩ := (h.2 j hj).1; exact cell?_setCell_some hy, by rw [World.frozen?_setCell]; exact (h.2 j hj).2⟩⟩
theorem Row.made (z : Array Value) (m : Nat) (t : TypeId) (w : World) : Row w.heap.size m (w.alloc (.cells (madeCells z m) t)) := by
  refine ⟨by simp, fun j hj => ⟨?_, by simp⟩⟩
  rw [World.cell?_alloc_new]
  have : j < (madeCells z m).size := by rw [size_madeCells]; exact hj
  exact ⟨(madeCells z m)[j], Array.getElem?_eq_getElem this⟩
theorem cell_off {u : World} {g o o' : Nat} {x : Value} (h : o ≠ o') : (u.setCell ⟨g, o, none⟩ x).cell? ⟨g, o', none⟩ = u.cell? ⟨g, o', none⟩ :=
  World.cell?_setCell_other _ _ _ _ (fun e => h (congrArg Addr.off e))

/-- The first k versions have been copied into block g. -/
def VerRow (g : Nat) (vs : List VerD) (k : Nat) (u : World) : Prop :=
  ∀ i (h : i < vs.length), i < k → u.cell? ⟨g, i * 3, none⟩ = some (.int .i64 vs[i].id) ∧ u.cell? ⟨g, i * 3 + 1, none⟩ = some (.string vs[i].text) ∧ u.cell? ⟨g, i * 3 + 2, none⟩ = some (.bool vs[i].gone)
theorem VerRow.below {g : Nat} {vs : List VerD} {k : Nat} {u v : World} (h : VerRow g vs k u) (hg : g < u.heap.size) (hb : Below u.heap.size u v) : VerRow g vs k v := fun i hi hk => by
  rw [hb.cell (p := ⟨g, i * 3, none⟩) hg, hb.cell (p := ⟨g, i * 3 + 1, none⟩) hg, hb.cell (p := ⟨g, i * 3 + 2, none⟩) hg]
  exact h i hi hk
theorem VerRow.step {g : Nat} {vs : List VerD} {k : Nat} {u : World} (h : VerRow g vs k u) (hr : Row g (vs.length * 3) u) (hk : k < vs.length) :
    VerRow g vs (k + 1) (((u.setCell ⟨g, k * 3, none⟩ (.int .i64 vs[k].id)).setCell ⟨g, k * 3 + 1, none⟩ (.string vs[k].text)).setCell ⟨g, k * 3 + 2, none⟩ (.bool vs[k].gone)) := by
  intro i hi hik
  by_cases e : i = k
  · subst e
    obtain ⟨v0, h0⟩ := (hr.2 (i * 3) (by omega)).1
    obtain ⟨v1, h1⟩ := (hr.2 (i * 3 + 1) (by omega)).1
    obtain ⟨v2, h2⟩ := (hr.2 (i * 3 + 2) (by omega)).1
    refine ⟨?_, ?_, ?_⟩
    · rw [cell_off (by omega), cell_off (by omega)]; exact World.cell?_setCell_same _ _ _ h0
    · rw [cell_off (by omega)]; exact World.cell?_setCell_same _ _ _ (u := v1) (by rw [cell_off (by omega)]; exact h1)
    · exact World.cell?_setCell_same _ _ _ (u := v2) (by rw [cell_off (by omega), cell_off (by omega)]; exact h2)
  · obtain ⟨c0, c1, c2⟩ := h i hi (by omega)
    refine ⟨?_, ?_, ?_⟩
    · rw [cell_off (by omega), cell_off (by omega), cell_off (by omega)]; exact c0
    · rw [cell_off (by omega), cell_off (by omega), cell_off (by omega)]; exact c1
    · rw [cell_off (by omega), cell_off (by omega), cell_off (by omega)]; exact c2

def ToVers (vs : List VerD) (w : World) (e : Ending) (w' : World) : Prop :=
  e = .returned (.slice (some ⟨w.heap.size, 0, none⟩) vs.length vs.length) ∧ VersIn w' (some ⟨w.heap.size, 0, none⟩) vs ∧ Below w.heap.size w w'
end Go.Proofs.Ythjikcfpoomioaa
