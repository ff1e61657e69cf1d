/- The copies that the laws make of objects and of maps. -/
import Derived.Test.YthjikcfpoomioaaVmTo
namespace Go.Proofs.Ythjikcfpoomioaa
open Go.RowKit

theorem VersIn.set {u : World} {b : Nat} {vs : List VerD} {g o : Nat} {x : Value} (h : VersIn u (some ⟨b, 0, none⟩) vs) (hg : g ≠ b) : VersIn (u.setCell ⟨g, o, none⟩ x) (some ⟨b, 0, none⟩) vs := by
  rcases h with h | ⟨b1, off, e, hlt, hc⟩
  · exact .inl h
  · obtain ⟨rfl, rfl⟩ : b = b1 ∧ 0 = off := by simpa using e
    refine .inr ⟨b, 0, rfl, by simpa using hlt, fun i hi => ?_⟩
    rw [World.cell?_setCell_other _ _ _ _ (fun e => hg (congrArg Addr.block e)), World.cell?_setCell_other _ _ _ _ (fun e => hg (congrArg Addr.block e)), World.cell?_setCell_other _ _ _ _ (fun e => hg (congrArg Addr.block e))]
    exact hc i hi

/-- Object i of block g is a copy of o. -/
def CopyIn (u : World) (g i : Nat) (o : ObjD) : Prop :=
  ∃ b, g < b ∧ u.cell? ⟨g, i * 2, none⟩ = some (.string o.key) ∧ u.cell? ⟨g, i * 2 + 1, none⟩ = some (.slice (some ⟨b, 0, none⟩) o.vers.length o.vers.length) ∧ VersIn u (some ⟨b, 0, none⟩) o.vers
def ObjRow (g : Nat) (os : List ObjD) (k : Nat) (u : World) : Prop := ∀ i (h : i < os.length), i < k → CopyIn u g i os[i]
theorem ObjRow.below {g : Nat} {os : List ObjD} {k : Nat} {u v : World} (h : ObjRow g os k u) (hg : g < u.heap.size) (hb : Below u.heap.size u v) : ObjRow g os k v := fun i hi hk => by
  obtain ⟨b, h1, h3, h4, h5⟩ := h i hi hk
  refine ⟨b, h1, ?_, ?_, h5.below hb⟩
  · rw [hb.cell (p := ⟨g, i * 2, none⟩) hg]; exact h3
  · rw [hb.cell (p := ⟨g, i * 2 + 1, none⟩) hg]; exact h4
theorem ObjRow.step {g b : Nat} {os : List ObjD} {k : Nat} {u : World} (h : ObjRow g os k u) (hr : Row g (os.length * 2) u) (hk : k < os.length) (hg : g < b) (hv : VersIn u (some ⟨b, 0, none⟩) os[k].vers) :
    ObjRow g os (k + 1) ((u.setCell ⟨g, k * 2, none⟩ (.string os[k].key)).setCell ⟨g, k * 2 + 1, none⟩ (.slice (some ⟨b, 0, none⟩) os[k].vers.length os[k].vers.length)) := by
  intro i hi hik
  by_cases e : i = k
  · subst e
    obtain ⟨v0, h0⟩ := (hr.2 (i * 2) (by omega)).1
    obtain ⟨v1, h1⟩ := (hr.2 (i * 2 + 1) (by omega)).1
    refine ⟨b, hg, ?_, ?_, (hv.set (by omega)).set (by omega)⟩
    · rw [cell_off (by omega)]; exact World.cell?_setCell_same _ _ _ h0
    · exact World.cell?_setCell_same _ _ _ (u := v1) (by rw [cell_off (by omega)]; exact h1)
  · obtain ⟨b', q1, c0, c1, q5⟩ := h i hi (by omega)
    refine ⟨b', q1, ?_, ?_, (q5.set (by omega)).set (by omega)⟩
    · rw [cell_off (by omega), cell_off (by omega)]; exact c0
    · rw [cell_off (by omega), cell_off (by omega)]; exact c1
/-- The versions of these objects lie above block g. -/
def Above (g : Nat) (cs : List ObjD) : Prop := ∀ i (h : i < cs.length), ∃ b, g < b ∧ cs[i].at_ = some ⟨b, 0, none⟩
theorem ObjsIn.set {u : World} {g g' o : Nat} {cs : List ObjD} {x : Value} (h : ObjsIn u (some ⟨g, 0, none⟩) cs) (ha : Above g cs) (hg : g' < g) : ObjsIn (u.setCell ⟨g', o, none⟩ x) (some ⟨g, 0, none⟩) cs := by
  rcases h with h | ⟨b1, off, e, hlt, hc⟩
  · exact .inl h
  · obtain ⟨rfl, rfl⟩ : g = b1 ∧ 0 = off := by simpa using e
    refine .inr ⟨g, 0, rfl, by simpa using hlt, fun i hi => ?_⟩
    rw [World.cell?_setCell_other _ _ _ _ (fun e => absurd (congrArg Addr.block e) (Nat.ne_of_lt hg)), World.cell?_setCell_other _ _ _ _ (fun e => absurd (congrArg Addr.block e) (Nat.ne_of_lt hg))]
    obtain ⟨c0, c1, c2⟩ := hc i hi
    obtain ⟨b, hb, e⟩ := ha i hi
    rw [e] at c2
    refine ⟨c0, c1, ?_⟩
    rw [e]
    exact c2.set (by omega)
/-- A full row of copies is a slice of objects that are the same. -/
theorem ObjRow.out {g : Nat} {os : List ObjD} {u : World} (h : ObjRow g os os.length u) (hg : g < u.heap.size) :
    ∃ cs : List ObjD, SameObjs os cs ∧ cs.length = os.length ∧ Above g cs ∧ ObjsIn u (some ⟨g, 0, none⟩) cs := by
  have hc : ∀ i : Fin os.length, ∃ b, g < b ∧ u.cell? ⟨g, i * 2, none⟩ = some (.string os[i].key) ∧ u.cell? ⟨g, i * 2 + 1, none⟩ = some (.slice (some ⟨b, 0, none⟩) os[i].vers.length os[i].vers.length) ∧ VersIn u (some ⟨b, 0, none⟩) os[i].vers := fun i => h i.1 i.2 i.2
  let cs : List ObjD := List.ofFn fun i : Fin os.length => (⟨os[i].key, some ⟨(hc i).choose, 0, none⟩, os[i].vers.length, os[i].vers⟩ : ObjD)
  refine ⟨cs, ⟨by simp [cs], fun i hi hk => by simp [cs]⟩, by simp [cs], fun i hi => ?_, .inr ⟨g, 0, rfl, hg, fun i hi => ?_⟩⟩
  · have hi' : i < os.length := by simpa [cs] using hi
    exact ⟨(hc ⟨i, hi'⟩).choose, (hc ⟨i, hi'⟩).choose_spec.1, by simp [cs]⟩
  have hi' : i < os.length := by simpa [cs] using hi
  have := (hc ⟨i, hi'⟩).choose_spec
  simp only [cs, List.getElem_ofFn, Nat.zero_add]
  exact ⟨this.2.1, this.2.2.1, this.2.2.2⟩

def ToObj (o : ObjD) (w : World) (e : Ending) (w' : World) : Prop :=
  ∃ b, w.heap.size ≤ b ∧ e = .returned (.agg #[.string o.key, .slice (some ⟨b, 0, none⟩) o.vers.length o.vers.length]) ∧ VersIn w' (some ⟨b, 0, none⟩) o.vers ∧ Below w.heap.size w w'

def ToObjs (os : List ObjD) (w : World) (e : Ending) (w' : World) : Prop :=
  ∃ cs : List ObjD, SameObjs os cs ∧ cs.length = os.length ∧ Above w.heap.size cs ∧ e = .returned (.slice (some ⟨w.heap.size, 0, none⟩) os.length os.length) ∧ ObjsIn w' (some ⟨w.heap.size, 0, none⟩) cs ∧ Below w.heap.size w w'

def ToMap (os : List ObjD) (w : World) (e : Ending) (w' : World) : Prop :=
  ∃ (g : Nat) (cs : List ObjD), SameObjs os cs ∧ cs.length = os.length ∧ e = .returned (.agg #[.slice (some ⟨g, 0, none⟩) os.length os.length]) ∧ ObjsIn w' (some ⟨g, 0, none⟩) cs ∧ Below w.heap.size w w'
end Go.Proofs.Ythjikcfpoomioaa
