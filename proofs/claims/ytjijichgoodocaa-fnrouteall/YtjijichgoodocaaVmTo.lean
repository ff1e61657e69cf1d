/- Maps that read the same compare as equal. -/
import Derived.Test.YtjijichgoodocaaVm
namespace Go.Proofs.Ytjijichgoodocaa
open Go.RowKit

set_option maxHeartbeats 1000000 in
theorem eqVer_same (i : Int) (s : ByteArray) (g : Bool) (w : World) :
    Calls Try.prog 210 #[.agg #[.int .i64 i, .string s, .bool g], .agg #[.int .i64 i, .string s, .bool g]] w fun e w' => e = .returned (.bool true) ∧ Below w.heap.size w w' := by
  go_enter Try.func210, Try.ntmps210
  go_wp2
  go_ret
  exact ⟨rfl, ((Below.refl _ _).alloc (Nat.le_refl _) _).alloc (by simp) _⟩

set_option maxHeartbeats 2000000 in
theorem eqVerS_same (a b : Option Addr) (vs : List VerD) (ca cb : Nat) (w : World) (ha : VersIn w a vs) (hb : VersIn w b vs) (hn : vs.length ≤ maxLen) :
    Calls Try.prog 192 #[.slice a vs.length ca, .slice b vs.length cb] w fun e w' => e = .returned (.bool true) ∧ Below w.heap.size w w' := by
  unfold maxLen at hn
  have HA := Lib.hid ha
  have HB := Lib.hid hb
  clear ha hb
  go_enter Try.func192, Try.ntmps192
  go_wp2_with fail
  go_loopw [5] (fun i wr => ∃ k : Nat, k ≤ vs.length ∧ i = .int .i64 k ∧ Below w.heap.size w wr) (fun i _ => vs.length - (intOf i).toNat)
  case atStart => exact ⟨0, Nat.zero_le _, rfl, Below.refl _ _⟩
  case round =>
    obtain ⟨k, hk, rfl, hB⟩ := hrel
    have HW := Lib.hid hB
    clear hB
    by_cases hlt : k < vs.length
    · rcases HA.out.below HW.out with hnil | ⟨b1, o1, rfl, hb1, hc1⟩
      · rw [hnil] at hlt; simp at hlt
      rcases HB.out.below HW.out with hnil | ⟨b2, o2, rfl, hb2, hc2⟩
      · rw [hnil] at hlt; simp at hlt
      obtain ⟨c0, c1, c2⟩ := hc1 k hlt
      obtain ⟨d0, d1, d2⟩ := hc2 k hlt
      clear hc1 hc2
      have i1 : (0 : Int) ≤ (k : Int) := by omega
      have i2 : (k : Int) < (vs.length : Int) := by omega
      go_wp2_with fail
      go_region_held3 (fun u => u.cell? ⟨b1, o1 + k * 3, none⟩ = some (.int .i64 vs[k].id) ∧ u.cell? ⟨b1, o1 + k * 3 + 1, none⟩ = some (.string vs[k].text) ∧ u.cell? ⟨b1, o1 + k * 3 + 2, none⟩ = some (.bool vs[k].gone) ∧ u.cell? ⟨b2, o2 + k * 3, none⟩ = some (.int .i64 vs[k].id) ∧ u.cell? ⟨b2, o2 + k * 3 + 1, none⟩ = some (.string vs[k].text) ∧ u.cell? ⟨b2, o2 + k * 3 + 2, none⟩ = some (.bool vs[k].gone))
        (first | with_reducible exact q2 | exact ⟨c0, c1, c2, d0, d1, d2⟩)
        (first
          | (go_at_call 210; (with_reducible refine (eqVer_same _ _ _ _).mono ?_); rintro e w2 ⟨rfl, hw2⟩; have hw3 := ((Below.refl wr.heap.size wr).drew).trans hw2; have q2 := (show w2.cell? ⟨b1, o1 + k * 3, none⟩ = some (.int .i64 vs[k].id) ∧ w2.cell? ⟨b1, o1 + k * 3 + 1, none⟩ = some (.string vs[k].text) ∧ w2.cell? ⟨b1, o1 + k * 3 + 2, none⟩ = some (.bool vs[k].gone) ∧ w2.cell? ⟨b2, o2 + k * 3, none⟩ = some (.int .i64 vs[k].id) ∧ w2.cell? ⟨b2, o2 + k * 3 + 1, none⟩ = some (.string vs[k].text) ∧ w2.cell? ⟨b2, o2 + k * 3 + 2, none⟩ = some (.bool vs[k].gone) from ⟨(hw3.cell (p := ⟨b1, o1 + k * 3, none⟩) hb1).trans c0, (hw3.cell (p := ⟨b1, o1 + k * 3 + 1, none⟩) hb1).trans c1, (hw3.cell (p := ⟨b1, o1 + k * 3 + 2, none⟩) hb1).trans c2, (hw3.cell (p := ⟨b2, o2 + k * 3, none⟩) hb2).trans d0, (hw3.cell (p := ⟨b2, o2 + k * 3 + 1, none⟩) hb2).trans d1, (hw3.cell (p := ⟨b2, o2 + k * 3 + 2, none⟩) hb2).trans d2⟩)))
      all_goals
        have HW3 := Lib.hid (HW.out.trans (hw3.mono HW.out.size))
        clear hw2 hw3 q2
        go_wp2_with fail
        go_roundw
        case rel => exact ⟨k + 1, by omega, by go_num, HW3.out⟩
        case measure => simp [intOf]; omega
    · go_wp2_with fail
      go_ret
      exact ⟨rfl, HW.out⟩

/-- Two lists of objects hold the same, wherever their versions lie. -/
def SameObjs (xs ys : List ObjD) : Prop := xs.length = ys.length ∧ ∀ i (h : i < xs.length) (k : i < ys.length), xs[i].key = ys[i].key ∧ xs[i].vers = ys[i].vers

set_option maxHeartbeats 1000000 in
theorem eqObj_same (s : ByteArray) (a b : Option Addr) (ca cb : Nat) (vs : List VerD) (w : World) (ha : VersIn w a vs) (hb : VersIn w b vs) (hn : vs.length ≤ maxLen) :
    Calls Try.prog 171 #[.agg #[.string s, .slice a vs.length ca], .agg #[.string s, .slice b vs.length cb]] w fun e w' => e = .returned (.bool true) ∧ Below w.heap.size w w' := by
  have HA := Lib.hid ha
  have HB := Lib.hid hb
  clear ha hb
  go_enter Try.func171, Try.ntmps171
  go_wp2_with fail
  have hb0 : Below w.heap.size w ((w.alloc (.cells #[.string s, .slice a vs.length ca] 45)).alloc (.cells #[.string s, .slice b vs.length cb] 45)) := ((Below.refl _ _).alloc (Nat.le_refl _) _).alloc (by simp) _
  with_reducible refine (eqVerS_same a b vs ca cb _ (HA.out.below hb0) (HB.out.below hb0) hn).mono ?_
  rintro e w2 ⟨rfl, hw2⟩
  have E2 := Lib.hid (hb0.trans (hw2.mono (by simp; omega)))
  clear hw2 hb0
  go_wp2_with fail
  go_ret
  exact ⟨rfl, E2.out⟩

set_option maxHeartbeats 2000000 in
theorem eqObjS_same (a b : Option Addr) (xs ys : List ObjD) (ca cb n : Nat) (w : World) (ha : ObjsIn w a xs) (hb : ObjsIn w b ys) (hs : SameObjs xs ys) (hx : xs.length = n) (hf : ∀ o ∈ xs, o.fits) (hn : n ≤ maxLen) :
    Calls Try.prog 129 #[.slice a n ca, .slice b n cb] w fun e w' => e = .returned (.bool true) ∧ Below w.heap.size w w' := by
  unfold maxLen at hn
  have HA := Lib.hid ha
  have HB := Lib.hid hb
  have HS := Lib.hid hs
  have HX := Lib.hid hx
  have HF := Lib.hid hf
  have HY := Lib.hid (hs.1.symm.trans hx)
  clear ha hb hs hx hf
  go_enter Try.func129, Try.ntmps129
  go_wp2_with fail
  go_loopw [5] (fun i wr => ∃ k : Nat, k ≤ n ∧ i = .int .i64 k ∧ Below w.heap.size w wr) (fun i _ => n - (intOf i).toNat)
  case atStart => exact ⟨0, Nat.zero_le _, rfl, Below.refl _ _⟩
  case round =>
    obtain ⟨k, hk, rfl, hB⟩ := hrel
    have HW := Lib.hid hB
    clear hB
    by_cases hlt : k < n
    · have hkx : k < xs.length := by have := HX.out; omega
      have hky : k < ys.length := by have := HY.out; omega
      rcases HA.out.below HW.out with hnil | ⟨b1, o1, rfl, hb1, hc1⟩
      · rw [hnil] at hkx; simp at hkx
      rcases HB.out.below HW.out with hnil | ⟨b2, o2, rfl, hb2, hc2⟩
      · rw [hnil] at hky; simp at hky
      obtain ⟨c0, c1, cv⟩ := hc1 k hkx
      obtain ⟨d0, d1, dv⟩ := hc2 k hky
      obtain ⟨ek, ev⟩ := HS.out.2 k hkx hky
      have hfk := (HF.out _ (List.getElem_mem hkx)).2.1
      rw [← ek] at d0
      rw [← ev] at d1 dv
      have CV := Lib.hid cv
      have DV := Lib.hid dv
      have HFK := Lib.hid hfk
      clear hc1 hc2 ek ev cv dv hfk
      generalize ys[k].at_ = yat at *
      generalize ys[k].cap = ycap at *
      generalize xs[k].at_ = xat at *
      generalize xs[k].cap = xcap at *
      generalize xs[k].key = xkey at *
      generalize xs[k].vers = xvs at *
      have i1 : (0 : Int) ≤ (k : Int) := by omega
      have i2 : (k : Int) < (n : Int) := by omega
      go_wp2_with fail
      go_region_held3 (fun u => u.cell? ⟨b1, o1 + k * 2, none⟩ = some (.string xkey) ∧ u.cell? ⟨b1, o1 + k * 2 + 1, none⟩ = some (.slice xat xvs.length xcap) ∧ u.cell? ⟨b2, o2 + k * 2, none⟩ = some (.string xkey) ∧ u.cell? ⟨b2, o2 + k * 2 + 1, none⟩ = some (.slice yat xvs.length ycap))
        (first | with_reducible exact q2 | exact ⟨c0, c1, d0, d1⟩)
        (first
          | (go_at_call 171; (with_reducible refine (eqObj_same _ _ _ _ _ _ _ (CV.out.below ((Below.refl _ _).drew)) (DV.out.below ((Below.refl _ _).drew)) HFK.out).mono ?_); rintro e w2 ⟨rfl, hw2⟩; have hw3 := ((Below.refl wr.heap.size wr).drew).trans hw2; have q2 := (show w2.cell? ⟨b1, o1 + k * 2, none⟩ = some (.string xkey) ∧ w2.cell? ⟨b1, o1 + k * 2 + 1, none⟩ = some (.slice xat xvs.length xcap) ∧ w2.cell? ⟨b2, o2 + k * 2, none⟩ = some (.string xkey) ∧ w2.cell? ⟨b2, o2 + k * 2 + 1, none⟩ = some (.slice yat xvs.length ycap) from ⟨(hw3.cell (p := ⟨b1, o1 + k * 2, none⟩) hb1).trans c0, (hw3.cell (p := ⟨b1, o1 + k * 2 + 1, none⟩) hb1).trans c1, (hw3.cell (p := ⟨b2, o2 + k * 2, none⟩) hb2).trans d0, (hw3.cell (p := ⟨b2, o2 + k * 2 + 1, none⟩) hb2).trans d1⟩)))
      all_goals
        have HW3 := Lib.hid (HW.out.trans (hw3.mono HW.out.size))
        clear hw2 hw3 q2
        go_wp2_with fail
        go_roundw
        case rel => exact ⟨k + 1, by omega, by go_num, HW3.out⟩
        case measure => simp [intOf]; omega
    · go_wp2_with fail
      go_ret
      exact ⟨rfl, HW.out⟩

set_option maxHeartbeats 1000000 in
theorem eqVmap_same (a b : Option Addr) (xs ys : List ObjD) (ca cb n : Nat) (w : World) (ha : ObjsIn w a xs) (hb : ObjsIn w b ys) (hs : SameObjs xs ys) (hx : xs.length = n) (hf : ∀ o ∈ xs, o.fits) (hn : n ≤ maxLen) :
    Calls Try.prog 67 #[.agg #[.slice a n ca], .agg #[.slice b n cb]] w fun e w' => e = .returned (.bool true) ∧ Below w.heap.size w w' := by
  have HA := Lib.hid ha
  have HB := Lib.hid hb
  have HS := Lib.hid hs
  have HX := Lib.hid hx
  have HF := Lib.hid hf
  clear ha hb hs hx hf
  go_enter Try.func67, Try.ntmps67
  go_wp2_with fail
  have hb0 : Below w.heap.size w ((w.alloc (.cells #[.slice a n ca] 25)).alloc (.cells #[.slice b n cb] 25)) := ((Below.refl _ _).alloc (Nat.le_refl _) _).alloc (by simp) _
  with_reducible refine (eqObjS_same a b xs ys ca cb n _ (HA.out.below hb0) (HB.out.below hb0) HS.out HX.out HF.out hn).mono ?_
  rintro e w2 ⟨rfl, hw2⟩
  have E2 := Lib.hid (hb0.trans (hw2.mono (by simp; omega)))
  clear hw2 hb0
  go_wp2_with fail
  go_ret
  exact ⟨rfl, E2.out⟩
end Go.Proofs.Ytjijichgoodocaa

/- The copies that the laws make of maps: new memory that reads the same. -/
namespace Go.Proofs.Ytjijichgoodocaa
open Go.RowKit

theorem info27 : (Try.prog.info? 27).map (fun i => (i.zero, i.size, i.bytes)) = some (some (.agg #[.int .i64 0, .string ⟨#[]⟩, .bool false]), 3, 32) := by kernel_rfl
theorem info45 : (Try.prog.info? 45).map (fun i => (i.zero, i.size, i.bytes)) = some (some (.agg #[.string ⟨#[]⟩, .slice none 0 0]), 2, 40) := by kernel_rfl

theorem run_make_vers (n : Nat) (hn : n ≤ 1048576) (w : World) :
    (Instr.makeSlice 43 (.int .i64 (n : Int)) (.int .i64 (n : Int))).run Try.prog w = .ok (.slice (some ⟨w.heap.size, 0, none⟩) n n) (w.alloc (.cells (madeCells #[.int .i64 0, .string ⟨#[]⟩, .bool false] (n * 3)) 27)) := by
  obtain ⟨i, hi, hzz⟩ := Option.map_eq_some_iff.1 info27
  simp only [Prod.mk.injEq] at hzz
  obtain ⟨hz, hs, hb⟩ := hzz
  have := run_make (w := w) (P := Try.prog) 43 27 i _ Try.underlying43 hi hz .i64 .i64 (n : Int) (n : Int) (by omega) (Int.le_refl _) (by rw [hb]; omega) (by omega)
  rw [hs] at this
  simpa [Value.cells] using this
theorem run_make_objs (n : Nat) (hn : n ≤ 1048576) (w : World) :
    (Instr.makeSlice 23 (.int .i64 (n : Int)) (.int .i64 (n : Int))).run Try.prog w = .ok (.slice (some ⟨w.heap.size, 0, none⟩) n n) (w.alloc (.cells (madeCells #[.string ⟨#[]⟩, .slice none 0 0] (n * 2)) 45)) := by
  obtain ⟨i, hi, hzz⟩ := Option.map_eq_some_iff.1 info45
  simp only [Prod.mk.injEq] at hzz
  obtain ⟨hz, hs, hb⟩ := hzz
  have := run_make (w := w) (P := Try.prog) 23 45 i _ Try.underlying23 hi hz .i64 .i64 (n : Int) (n : Int) (by omega) (Int.le_refl _) (by rw [hb]; omega) (by omega)
  rw [hs] at this
  simpa [Value.cells] using this

/-- Block g of u is a row of m cells that may be written. -/
def Row (g m : Nat) (u : World) : Prop := g < u.heap.size ∧ ∀ j, j < m → (∃ v, u.cell? ⟨g, j, none⟩ = some v) ∧ u.frozen? ⟨g, j, none⟩ = false
theorem Row.below {g m : Nat} {u v : World} (h : Row g m u) (hb : Below u.heap.size u v) : Row g m v :=
  ⟨Nat.lt_of_lt_of_le h.1 hb.size, fun j hj => ⟨by obtain ⟨x, hx⟩ := (h.2 j hj).1; exact ⟨x, by rw [hb.cell (p := ⟨g, j, none⟩) h.1, hx]⟩, by rw [hb.frozen (p := ⟨g, j, none⟩) h.1]; exact (h.2 j hj).2⟩⟩
theorem Row.set {g m o : Nat} {u : World} {x : Value} (h : Row g m u) : Row g m (u.setCell ⟨g, o, none⟩ x) :=
  ⟨Nat.lt_of_lt_of_le h.1 (by simp [World.setCell]), fun j hj => ⟨by obtain ⟨y, hy⟩ := (h.2 j hj).1; exact cell?_setCell_some hy, by rw [World.frozen?_setCell]; exact (h.2 j hj).2⟩⟩
theorem Row.made (z : Array Value) (m : Nat) (t : TypeId) (w : World) : Row w.heap.size m (w.alloc (.cells (madeCells z m) t)) := by
  refine ⟨by simp, fun j hj => ⟨?_, by simp⟩⟩
  rw [World.cell?_alloc_new]
  have : j < (madeCells z m).size := by rw [size_madeCells]; exact hj
  exact ⟨(madeCells z m)[j], Array.getElem?_eq_getElem this⟩
theorem cell_off {u : World} {g o o' : Nat} {x : Value} (h : o ≠ o') : (u.setCell ⟨g, o, none⟩ x).cell? ⟨g, o', none⟩ = u.cell? ⟨g, o', none⟩ :=
  World.cell?_setCell_other _ _ _ _ (fun e => h (congrArg Addr.off e))

/-- The first k versions have been copied into block g. -/
def VerRow (g : Nat) (vs : List VerD) (k : Nat) (u : World) : Prop :=
  ∀ i (h : i < vs.length), i < k → u.cell? ⟨g, i * 3, none⟩ = some (.int .i64 vs[i].id) ∧ u.cell? ⟨g, i * 3 + 1, none⟩ = some (.string vs[i].text) ∧ u.cell? ⟨g, i * 3 + 2, none⟩ = some (.bool vs[i].gone)
theorem VerRow.below {g : Nat} {vs : List VerD} {k : Nat} {u v : World} (h : VerRow g vs k u) (hg : g < u.heap.size) (hb : Below u.heap.size u v) : VerRow g vs k v := fun i hi hk => by
  rw [hb.cell (p := ⟨g, i * 3, none⟩) hg, hb.cell (p := ⟨g, i * 3 + 1, none⟩) hg, hb.cell (p := ⟨g, i * 3 + 2, none⟩) hg]
  exact h i hi hk
theorem VerRow.step {g : Nat} {vs : List VerD} {k : Nat} {u : World} (h : VerRow g vs k u) (hr : Row g (vs.length * 3) u) (hk : k < vs.length) :
    VerRow g vs (k + 1) (((u.setCell ⟨g, k * 3, none⟩ (.int .i64 vs[k].id)).setCell ⟨g, k * 3 + 1, none⟩ (.string vs[k].text)).setCell ⟨g, k * 3 + 2, none⟩ (.bool vs[k].gone)) := by
  intro i hi hik
  by_cases e : i = k
  · subst e
    obtain ⟨v0, h0⟩ := (hr.2 (i * 3) (by omega)).1
    obtain ⟨v1, h1⟩ := (hr.2 (i * 3 + 1) (by omega)).1
    obtain ⟨v2, h2⟩ := (hr.2 (i * 3 + 2) (by omega)).1
    refine ⟨?_, ?_, ?_⟩
    · rw [cell_off (by omega), cell_off (by omega)]; exact World.cell?_setCell_same _ _ _ h0
    · rw [cell_off (by omega)]; exact World.cell?_setCell_same _ _ _ (u := v1) (by rw [cell_off (by omega)]; exact h1)
    · exact World.cell?_setCell_same _ _ _ (u := v2) (by rw [cell_off (by omega), cell_off (by omega)]; exact h2)
  · obtain ⟨c0, c1, c2⟩ := h i hi (by omega)
    refine ⟨?_, ?_, ?_⟩
    · rw [cell_off (by omega), cell_off (by omega), cell_off (by omega)]; exact c0
    · rw [cell_off (by omega), cell_off (by omega), cell_off (by omega)]; exact c1
    · rw [cell_off (by omega), cell_off (by omega), cell_off (by omega)]; exact c2

set_option maxHeartbeats 1000000 in
theorem toVer_any (i : Int) (s : ByteArray) (g : Bool) (w : World) :
    Calls Try.prog 66 #[.agg #[.int .i64 i, .string s, .bool g]] w fun e w' => e = .returned (.agg #[.int .i64 i, .string s, .bool g]) ∧ Below w.heap.size w w' := by
  go_enter Try.func66, Try.ntmps66
  go_wp2
  exact bodyPost_ret (v := .agg #[.int .i64 i, .string s, .bool g]) (by simp [results, Try.results66, go_sem]) rfl ⟨rfl, (((Below.refl _ _).alloc (Nat.le_refl _) _).alloc (by simp) _).alloc (by simp; omega) _⟩

def ToVers (vs : List VerD) (w : World) (e : Ending) (w' : World) : Prop :=
  e = .returned (.slice (some ⟨w.heap.size, 0, none⟩) vs.length vs.length) ∧ VersIn w' (some ⟨w.heap.size, 0, none⟩) vs ∧ Below w.heap.size w w'

set_option maxHeartbeats 2000000 in
theorem toVerS_any (a : Option Addr) (vs : List VerD) (cap : Nat) (w : World) (hv : VersIn w a vs) (hn : vs.length ≤ 1048576) :
    Calls Try.prog 191 #[.slice a vs.length cap] w (ToVers vs w) := by
  have HV := Lib.hid hv
  clear hv
  have hmk := run_make_vers vs.length hn
  go_enter Try.func191, Try.ntmps191
  go_wp2_with fail
  go_loopw [4] (fun i wr => ∃ k : Nat, k ≤ vs.length ∧ i = .int .i64 k ∧ Below w.heap.size w wr ∧ Row w.heap.size (vs.length * 3) wr ∧ VerRow w.heap.size vs k wr) (fun i _ => vs.length - (intOf i).toNat)
  case atStart => exact ⟨0, Nat.zero_le _, rfl, (Below.refl _ _).alloc (Nat.le_refl _) _, Row.made _ _ _ w, fun _ _ h => absurd h (by omega)⟩
  case round =>
    obtain ⟨k, hk, rfl, hB, hR, hP⟩ := hrel
    have HW := Lib.hid hB
    have HR := Lib.hid hR
    have HP := Lib.hid hP
    clear hB hR hP hmk
    by_cases hlt : k < vs.length
    · rcases HV.out.below HW.out with hnil | ⟨b1, o1, rfl, hb1, hc1⟩
      · rw [hnil] at hlt; simp at hlt
      obtain ⟨c0, c1, c2⟩ := hc1 k hlt
      clear hc1
      go_wp2_with fail
      with_reducible refine (toVer_any _ _ _ _).mono ?_
      rintro e w2 ⟨rfl, hw2⟩
      have HR2 := Lib.hid (HR.out.below hw2)
      have HP2 := Lib.hid (HP.out.below HR.out.1 hw2)
      have HW2 := Lib.hid (HW.out.trans (hw2.mono HW.out.size))
      obtain ⟨v0, d0⟩ := (HR2.out.2 (k * 3) (by omega)).1
      obtain ⟨v1, d1⟩ := (HR2.out.2 (k * 3 + 1) (by omega)).1
      obtain ⟨v2, d2⟩ := (HR2.out.2 (k * 3 + 2) (by omega)).1
      have f0 := (HR2.out.2 (k * 3) (by omega)).2
      have f1 := (HR2.out.2 (k * 3 + 1) (by omega)).2
      have f2 := (HR2.out.2 (k * 3 + 2) (by omega)).2
      clear hw2 c0 c1 c2
      go_wp2_with fail
      go_roundw
      case rel => exact ⟨k + 1, by omega, by go_num, ((HW2.out.setCell (p := ⟨w.heap.size, k * 3, none⟩) (Nat.le_refl _) _).setCell (p := ⟨w.heap.size, k * 3 + 1, none⟩) (Nat.le_refl _) _).setCell (p := ⟨w.heap.size, k * 3 + 2, none⟩) (Nat.le_refl _) _, ((HR2.out.set).set).set, HP2.out.step HR2.out hlt⟩
      case measure => simp [intOf]; omega
    · go_wp2_with fail
      go_ret
      obtain rfl : k = vs.length := by omega
      refine ⟨rfl, .inr ⟨w.heap.size, 0, rfl, HR.out.1, fun i hi => ?_⟩, HW.out⟩
      have := HP.out i hi hi
      simpa using this
end Go.Proofs.Ytjijichgoodocaa
