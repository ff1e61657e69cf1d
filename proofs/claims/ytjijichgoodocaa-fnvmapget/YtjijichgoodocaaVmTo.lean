/- The copies that the laws make of maps: new memory that reads the same. -/
import Derived.Test.YtjijichgoodocaaVmEq
namespace Go.Proofs.Ytjijichgoodocaa
open Go.RowKit

theorem info27 : (Try.prog.info? 27).map (fun i => (i.zero, i.size, i.bytes)) = some (some (.agg #[.int .i64 0, .string ⟨#[]⟩, .bool false]), 3, 32) := by kernel_rfl
theorem info45 : (Try.prog.info? 45).map (fun i => (i.zero, i.size, i.bytes)) = some (some (.agg #[.string ⟨#[]⟩, .slice none 0 0]), 2, 40) := by kernel_rfl

theorem run_make_vers (n : Nat) (hn : n ≤ 1048576) (w : World) :
    (Instr.makeSlice 43 (.int .i64 (n : Int)) (.int .i64 (n : Int))).run Try.prog w = .ok (.slice (some ⟨w.heap.size, 0, none⟩) n n) (w.alloc (.cells (madeCells #[.int .i64 0, .string ⟨#[]⟩, .bool false] (n * 3)) 27)) := by
  obtain ⟨i, hi, hzz⟩ := Option.map_eq_some_iff.1 info27
  simp only [Prod.mk.injEq] at hzz
  obtain ⟨hz, hs, hb⟩ := hzz
  have := run_make (w := w) (P := Try.prog) 43 27 i _ Try.underlying43 hi hz .i64 .i64 (n : Int) (n : Int) (by omega) (Int.le_refl _) (by rw [hb]; omega) (by omega)
  rw [hs] at this
  simpa [Value.cells] using this
theorem run_make_objs (n : Nat) (hn : n ≤ 1048576) (w : World) :
    (Instr.makeSlice 23 (.int .i64 (n : Int)) (.int .i64 (n : Int))).run Try.prog w = .ok (.slice (some ⟨w.heap.size, 0, none⟩) n n) (w.alloc (.cells (madeCells #[.string ⟨#[]⟩, .slice none 0 0] (n * 2)) 45)) := by
  obtain ⟨i, hi, hzz⟩ := Option.map_eq_some_iff.1 info45
  simp only [Prod.mk.injEq] at hzz
  obtain ⟨hz, hs, hb⟩ := hzz
  have := run_make (w := w) (P := Try.prog) 23 45 i _ Try.underlying23 hi hz .i64 .i64 (n : Int) (n : Int) (by omega) (Int.le_refl _) (by rw [hb]; omega) (by omega)
  rw [hs] at this
  simpa [Value.cells] using this

/-- Block g of u is a row of m cells that may be written. -/
def Row (g m : Nat) (u : World) : Prop := g < u.heap.size ∧ ∀ j, j < m → (∃ v, u.cell? ⟨g, j, none⟩ = some v) ∧ u.frozen? ⟨g, j, none⟩ = false
theorem Row.below {g m : Nat} {u v : World} (h : Row g m u) (hb : Below u.heap.size u v) : Row g m v :=
  ⟨Nat.lt_of_lt_of_le h.1 hb.size, fun j hj => ⟨by obtain ⟨x, hx⟩ := (h.2 j hj).1; exact ⟨x, by rw [hb.cell (p := ⟨g, j, none⟩) h.1, hx]⟩, by rw [hb.frozen (p := ⟨g, j, none⟩) h.1]; exact (h.2 j hj).2⟩⟩
theorem Row.set {g m o : Nat} {u : World} {x : Value} (h : Row g m u) : Row g m (u.setCell ⟨g, o, none⟩ x) :=
  ⟨Nat.lt_of_lt_of_le h.1 (by simp [World.setCell]), fun j hj => ⟨by obtain ⟨y, hy⟩ := (h.2 j hj).1; exact cell?_setCell_some hy, by rw [World.frozen?_setCell]; exact (h.2 j hj).2⟩⟩
theorem Row.made (z : Array Value) (m : Nat) (t : TypeId) (w : World) : Row w.heap.size m (w.alloc (.cells (madeCells z m) t)) := by
  refine ⟨by simp, fun j hj => ⟨?_, by simp⟩⟩
  rw [World.cell?_alloc_new]
  have : j < (madeCells z m).size := by rw [size_madeCells]; exact hj
  exact ⟨(madeCells z m)[j], Array.getElem?_eq_getElem this⟩
theorem cell_off {u : World} {g o o' : Nat} {x : Value} (h : o ≠ o') : (u.setCell ⟨g, o, none⟩ x).cell? ⟨g, o', none⟩ = u.cell? ⟨g, o', none⟩ :=
  World.cell?_setCell_other _ _ _ _ (fun e => h (congrArg Addr.off e))

/-- The first k versions have been copied into block g. -/
def VerRow (g : Nat) (vs : List VerD) (k : Nat) (u : World) : Prop :=
  ∀ i (h : i < vs.length), i < k → u.cell? ⟨g, i * 3, none⟩ = some (.int .i64 vs[i].id) ∧ u.cell? ⟨g, i * 3 + 1, none⟩ = some (.string vs[i].text) ∧ u.cell? ⟨g, i * 3 + 2, none⟩ = some (.bool vs[i].gone)
theorem VerRow.below {g : Nat} {vs : List VerD} {k : Nat} {u v : World} (h : VerRow g vs k u) (hg : g < u.heap.size) (hb : Below u.heap.size u v) : VerRow g vs k v := fun i hi hk => by
  rw [hb.cell (p := ⟨g, i * 3, none⟩) hg, hb.cell (p := ⟨g, i * 3 + 1, none⟩) hg, hb.cell (p := ⟨g, i * 3 + 2, none⟩) hg]
  exact h i hi hk
theorem VerRow.step {g : Nat} {vs : List VerD} {k : Nat} {u : World} (h : VerRow g vs k u) (hr : Row g (vs.length * 3) u) (hk : k < vs.length) :
    VerRow g vs (k + 1) (((u.setCell ⟨g, k * 3, none⟩ (.int .i64 vs[k].id)).setCell ⟨g, k * 3 + 1, none⟩ (.string vs[k].text)).setCell ⟨g, k * 3 + 2, none⟩ (.bool vs[k].gone)) := by
  intro i hi hik
  by_cases e : i = k
  · subst e
    obtain ⟨v0, h0⟩ := (hr.2 (i * 3) (by omega)).1
    obtain ⟨v1, h1⟩ := (hr.2 (i * 3 + 1) (by omega)).1
    obtain ⟨v2, h2⟩ := (hr.2 (i * 3 + 2) (by omega)).1
    refine ⟨?_, ?_, ?_⟩
    · rw [cell_off (by omega), cell_off (by omega)]; exact World.cell?_setCell_same _ _ _ h0
    · rw [cell_off (by omega)]; exact World.cell?_setCell_same _ _ _ (u := v1) (by rw [cell_off (by omega)]; exact h1)
    · exact World.cell?_setCell_same _ _ _ (u := v2) (by rw [cell_off (by omega), cell_off (by omega)]; exact h2)
  · obtain ⟨c0, c1, c2⟩ := h i hi (by omega)
    refine ⟨?_, ?_, ?_⟩
    · rw [cell_off (by omega), cell_off (by omega), cell_off (by omega)]; exact c0
    · rw [cell_off (by omega), cell_off (by omega), cell_off (by omega)]; exact c1
    · rw [cell_off (by omega), cell_off (by omega), cell_off (by omega)]; exact c2

set_option maxHeartbeats 1000000 in
theorem toVer_any (i : Int) (s : ByteArray) (g : Bool) (w : World) :
    Calls Try.prog 66 #[.agg #[.int .i64 i, .string s, .bool g]] w fun e w' => e = .returned (.agg #[.int .i64 i, .string s, .bool g]) ∧ Below w.heap.size w w' := by
  go_enter Try.func66, Try.ntmps66
  go_wp2
  exact bodyPost_ret (v := .agg #[.int .i64 i, .string s, .bool g]) (by simp [results, Try.results66, go_sem]) rfl ⟨rfl, (((Below.refl _ _).alloc (Nat.le_refl _) _).alloc (by simp) _).alloc (by simp; omega) _⟩

def ToVers (vs : List VerD) (w : World) (e : Ending) (w' : World) : Prop :=
  e = .returned (.slice (some ⟨w.heap.size, 0, none⟩) vs.length vs.length) ∧ VersIn w' (some ⟨w.heap.size, 0, none⟩) vs ∧ Below w.heap.size w w'

set_option maxHeartbeats 2000000 in
theorem toVerS_any (a : Option Addr) (vs : List VerD) (cap : Nat) (w : World) (hv : VersIn w a vs) (hn : vs.length ≤ 1048576) :
    Calls Try.prog 191 #[.slice a vs.length cap] w (ToVers vs w) := by
  have HV := Lib.hid hv
  clear hv
  have hmk := run_make_vers vs.length hn
  go_enter Try.func191, Try.ntmps191
  go_wp2_with fail
  go_loopw [4] (fun i wr => ∃ k : Nat, k ≤ vs.length ∧ i = .int .i64 k ∧ Below w.heap.size w wr ∧ Row w.heap.size (vs.length * 3) wr ∧ VerRow w.heap.size vs k wr) (fun i _ => vs.length - (intOf i).toNat)
  case atStart => exact ⟨0, Nat.zero_le _, rfl, (Below.refl _ _).alloc (Nat.le_refl _) _, Row.made _ _ _ w, fun _ _ h => absurd h (by omega)⟩
  case round =>
    obtain ⟨k, hk, rfl, hB, hR, hP⟩ := hrel
    have HW := Lib.hid hB
    have HR := Lib.hid hR
    have HP := Lib.hid hP
    clear hB hR hP hmk
    by_cases hlt : k < vs.length
    · rcases HV.out.below HW.out with hnil | ⟨b1, o1, rfl, hb1, hc1⟩
      · rw [hnil] at hlt; simp at hlt
      obtain ⟨c0, c1, c2⟩ := hc1 k hlt
      clear hc1
      go_wp2_with fail
      with_reducible refine (toVer_any _ _ _ _).mono ?_
      rintro e w2 ⟨rfl, hw2⟩
      have HR2 := Lib.hid (HR.out.below hw2)
      have HP2 := Lib.hid (HP.out.below HR.out.1 hw2)
      have HW2 := Lib.hid (HW.out.trans (hw2.mono HW.out.size))
      obtain ⟨v0, d0⟩ := (HR2.out.2 (k * 3) (by omega)).1
      obtain ⟨v1, d1⟩ := (HR2.out.2 (k * 3 + 1) (by omega)).1
      obtain ⟨v2, d2⟩ := (HR2.out.2 (k * 3 + 2) (by omega)).1
      have f0 := (HR2.out.2 (k * 3) (by omega)).2
      have f1 := (HR2.out.2 (k * 3 + 1) (by omega)).2
      have f2 := (HR2.out.2 (k * 3 + 2) (by omega)).2
      clear hw2 c0 c1 c2
      go_wp2_with fail
      go_roundw
      case rel => exact ⟨k + 1, by omega, by go_num, ((HW2.out.setCell (p := ⟨w.heap.size, k * 3, none⟩) (Nat.le_refl _) _).setCell (p := ⟨w.heap.size, k * 3 + 1, none⟩) (Nat.le_refl _) _).setCell (p := ⟨w.heap.size, k * 3 + 2, none⟩) (Nat.le_refl _) _, ((HR2.out.set).set).set, HP2.out.step HR2.out hlt⟩
      case measure => simp [intOf]; omega
    · go_wp2_with fail
      go_ret
      obtain rfl : k = vs.length := by omega
      refine ⟨rfl, .inr ⟨w.heap.size, 0, rfl, HR.out.1, fun i hi => ?_⟩, HW.out⟩
      have := HP.out i hi hi
      simpa using this
end Go.Proofs.Ytjijichgoodocaa
