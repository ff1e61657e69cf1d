/- Slices of Row: how they lie in memory; their sizes, equality, copies, marks, and what an argument holds. -/
import Derived.Test.YthjikcfpoomioaaStrsM
import Derived.Test.YthjikcfpoomioaaLess
import Derived.Deep.RegionHeld3
import Derived.Lib.QuietBelow
namespace Go.Proofs.Ythjikcfpoomioaa
open Go.RowKit Go.ChangeShapes Go.WideShapes Go.ChangeAt Go.Joins Go.Deep

structure RowD where
  f0 : ByteArray
  f1 : Int
def RowD.size (v : RowD) : Nat := v.f0.size
def RowD.fits (v : RowD) : Prop := v.f0.size ≤ maxLen

/-- A slice, as it reads in u. -/
def RowsIn (u : World) (a : Option Addr) (vs : List RowD) : Prop :=
  vs = [] ∨ ∃ b off, a = some ⟨b, off, none⟩ ∧ b < u.heap.size ∧ ∀ i (h : i < vs.length), u.cell? ⟨b, off + i * 2, none⟩ = some (.string vs[i].f0) ∧ u.cell? ⟨b, off + i * 2 + 1, none⟩ = some (.int .i64 vs[i].f1)
theorem RowsIn.below {u v : World} {a : Option Addr} {vs : List RowD} (h : RowsIn u a vs) (hb : Below u.heap.size u v) : RowsIn v a vs := by
  rcases h with h | ⟨b, off, e, hlt, hc⟩
  · exact .inl h
  · refine .inr ⟨b, off, e, Nat.lt_of_lt_of_le hlt hb.size, fun i hi => ?_⟩
    rw [hb.cell (p := ⟨b, off + i * 2, none⟩) hlt, hb.cell (p := ⟨b, off + i * 2 + 1, none⟩) hlt]
    exact hc i hi
theorem RowsIn.turned {S : Nat → Prop} {u v : World} {a : Option Addr} {vs : List RowD} (h : RowsIn u a vs) (ho : OffS S a) (ht : Turned S u v) : RowsIn v a vs := by
  rcases h with h | ⟨b, off, e, hlt, hc⟩
  · exact .inl h
  · refine .inr ⟨b, off, e, Nat.lt_of_lt_of_le hlt ht.size, fun i hi => ?_⟩
    rw [ht.cell (p := ⟨b, off + i * 2, none⟩) hlt (ho b off e), ht.cell (p := ⟨b, off + i * 2 + 1, none⟩) hlt (ho b off e)]
    exact hc i hi
theorem RowsIn.set {u : World} {b g o : Nat} {x : Value} {vs : List RowD} (h : RowsIn u (some ⟨b, 0, none⟩) vs) (hg : g ≠ b) : RowsIn (u.setCell ⟨g, o, none⟩ x) (some ⟨b, 0, none⟩) vs :=
  h.turned (S := fun k => k = g) (fun b' off e k => hg (by cases e; exact k.symm)) ((Turned.refl (fun k => k = g) u).setCell (p := ⟨g, o, none⟩) rfl x)

set_option maxHeartbeats 400000 in
theorem szRow_any (v : RowD) (left : Int) (w : World) (hf : v.fits) (h0 : 0 ≤ left) (hl : left ≤ 1048576) :
    Calls Try.prog 151 #[.agg #[.string v.f0, .int .i64 v.f1], .int .i64 left] w (SzPost left v.size w) := by
  have hs0 := hf; unfold RowD.fits at hs0
  unfold maxLen at hs0
  by_cases h0 : left < v.f0.size
  · go_enter Try.func151, Try.ntmps151
    go_wp2
    go_ret
    exact ⟨-1, rfl, .inl rfl, (Below.refl _ _).alloc (Nat.le_refl _) _⟩
  go_enter Try.func151, Try.ntmps151
  go_wp2
  go_ret
  exact ⟨left - v.f0.size, rfl, .inr ⟨by omega, by simp only [RowD.size]; omega⟩, (Below.refl _ _).alloc (Nat.le_refl _) _⟩

def RowTo (vs : List RowD) (k : Nat) : Nat := ((vs.take k).map RowD.size).sum
theorem RowTo_zero (vs : List RowD) : RowTo vs 0 = 0 := by simp [RowTo]
theorem RowTo_succ (vs : List RowD) (k : Nat) (h : k < vs.length) : RowTo vs (k + 1) = RowTo vs k + vs[k].size := by
  unfold RowTo
  rw [List.take_succ_eq_append_getElem h, List.map_append, List.sum_append]
  simp
def RowsSize (vs : List RowD) : Nat := vs.length + RowTo vs vs.length
theorem RowsSize_len (vs : List RowD) : vs.length ≤ RowsSize vs := Nat.le_add_right _ _

set_option maxHeartbeats 1000000 in
theorem szRowS_any (a : Option Addr) (vs : List RowD) (cap : Nat) (left : Int) (w : World) (hv : RowsIn w a vs) (ht : ∀ v ∈ vs, v.fits) (hn : vs.length ≤ maxLen) (h0 : 0 ≤ left) (hl : left ≤ 1048576) :
    Calls Try.prog 91 #[.slice a vs.length cap, .int .i64 left] w (SzPost left (RowsSize vs) w) := by
  unfold maxLen at hn
  have HV := Lib.hid hv
  have HT := Lib.hid ht
  clear hv ht
  by_cases h : left < vs.length
  · go_enter Try.func91, Try.ntmps91
    go_wp2_with fail
    go_ret
    exact ⟨-1, rfl, .inl rfl, Below.refl _ _⟩
  · go_enter Try.func91, Try.ntmps91
    go_wp2_with fail
    go_loopw [1, 5] (fun l i wr => ∃ (k : Nat) (z : Int), k ≤ vs.length ∧ i = .int .i64 k ∧ l = .int .i64 z ∧ 0 ≤ z ∧ z + vs.length + RowTo vs k = left ∧ Below w.heap.size w wr) (fun _ i _ => vs.length - (intOf i).toNat)
    case atStart => exact ⟨0, left - vs.length, Nat.zero_le _, rfl, rfl, by omega, by rw [RowTo_zero]; omega, Below.refl _ _⟩
    case round =>
      obtain ⟨k, z, hk, rfl, rfl, hz0, hz, hB⟩ := hrel
      have HZ := Lib.hid hz
      have HB := Lib.hid hB
      clear hz hB
      by_cases hlt : k < vs.length
      · rcases HV.out.below HB.out with hnil | ⟨b, off, rfl, hb, hc⟩
        · rw [hnil] at hlt; simp at hlt
        · obtain ⟨c0, c1⟩ := hc k hlt
          clear hc
          go_wp2_with fail
          with_reducible refine (szRow_any vs[k] _ _ (HT.out _ (List.getElem_mem hlt)) hz0 (by have := HZ.out; omega)).mono ?_
          rintro e w2 ⟨z2, rfl, hz2, hb2⟩
          have HB2 := Lib.hid (HB.out.trans (hb2.mono HB.out.size))
          clear hb2
          rcases hz2 with rfl | ⟨hp, hsum⟩
          · go_wp2_with fail
            go_ret
            exact ⟨-1, rfl, .inl rfl, HB2.out⟩
          · have HS := Lib.hid hsum
            clear hsum
            go_wp2_with fail
            go_roundw
            case rel => exact ⟨k + 1, z2, by omega, by go_num, rfl, hp, by rw [RowTo_succ vs k hlt]; have := HZ.out; have := HS.out; omega, HB2.out⟩
            case measure => simp [intOf]; omega
      · go_wp2_with fail
        go_ret
        obtain rfl : k = vs.length := by omega
        exact ⟨z, rfl, .inr ⟨hz0, by unfold RowsSize; have := HZ.out; omega⟩, HB.out⟩

set_option maxHeartbeats 1000000 in
theorem eqRow_same (v : RowD) (w : World) :
    Calls Try.prog 157 #[.agg #[.string v.f0, .int .i64 v.f1], .agg #[.string v.f0, .int .i64 v.f1]] w fun e w' => e = .returned (.bool true) ∧ Below w.heap.size w w' := by
  go_enter Try.func157, Try.ntmps157
  go_wp2
  go_ret
  exact ⟨rfl, ((Below.refl _ _).alloc (Nat.le_refl _) _).alloc (by simp) _⟩

set_option maxHeartbeats 2000000 in
theorem eqRowS_same (a b : Option Addr) (vs : List RowD) (ca cb : Nat) (w : World) (ha : RowsIn w a vs) (hb : RowsIn w b vs) (hn : vs.length ≤ maxLen) :
    Calls Try.prog 97 #[.slice a vs.length ca, .slice b vs.length cb] w fun e w' => e = .returned (.bool true) ∧ Below w.heap.size w w' := by
  unfold maxLen at hn
  have HA := Lib.hid ha
  have HB := Lib.hid hb
  clear ha hb
  go_enter Try.func97, Try.ntmps97
  go_wp2_with fail
  go_loopw [5] (fun i wr => ∃ k : Nat, k ≤ vs.length ∧ i = .int .i64 k ∧ Below w.heap.size w wr) (fun i _ => vs.length - (intOf i).toNat)
  case atStart => exact ⟨0, Nat.zero_le _, rfl, Below.refl _ _⟩
  case round =>
    obtain ⟨k, hk, rfl, hB⟩ := hrel
    have HW := Lib.hid hB
    clear hB
    by_cases hlt : k < vs.length
    · rcases HA.out.below HW.out with hnil | ⟨b1, o1, rfl, hb1, hc1⟩
      · rw [hnil] at hlt; simp at hlt
      rcases HB.out.below HW.out with hnil | ⟨b2, o2, rfl, hb2, hc2⟩
      · rw [hnil] at hlt; simp at hlt
      obtain ⟨c0, c1⟩ := hc1 k hlt
      obtain ⟨d0, d1⟩ := hc2 k hlt
      clear hc1 hc2
      have i1 : (0 : Int) ≤ (k : Int) := by omega
      have i2 : (k : Int) < (vs.length : Int) := by omega
      go_wp2_with fail
      go_region_held3 (fun u => u.cell? ⟨b1, o1 + k * 2, none⟩ = some (.string vs[k].f0) ∧ u.cell? ⟨b1, o1 + k * 2 + 1, none⟩ = some (.int .i64 vs[k].f1) ∧ u.cell? ⟨b2, o2 + k * 2, none⟩ = some (.string vs[k].f0) ∧ u.cell? ⟨b2, o2 + k * 2 + 1, none⟩ = some (.int .i64 vs[k].f1))
        (first | with_reducible exact q2 | exact ⟨c0, c1, d0, d1⟩)
        (first
          | (go_at_call 157; (with_reducible refine (eqRow_same vs[k] _).mono ?_); rintro e w2 ⟨rfl, hw2⟩; have hw3 := ((Below.refl wr.heap.size wr).drew).trans hw2; have q2 := (show w2.cell? ⟨b1, o1 + k * 2, none⟩ = some (.string vs[k].f0) ∧ w2.cell? ⟨b1, o1 + k * 2 + 1, none⟩ = some (.int .i64 vs[k].f1) ∧ w2.cell? ⟨b2, o2 + k * 2, none⟩ = some (.string vs[k].f0) ∧ w2.cell? ⟨b2, o2 + k * 2 + 1, none⟩ = some (.int .i64 vs[k].f1) from ⟨(hw3.cell (p := ⟨b1, o1 + k * 2, none⟩) hb1).trans c0, (hw3.cell (p := ⟨b1, o1 + k * 2 + 1, none⟩) hb1).trans c1, (hw3.cell (p := ⟨b2, o2 + k * 2, none⟩) hb2).trans d0, (hw3.cell (p := ⟨b2, o2 + k * 2 + 1, none⟩) hb2).trans d1⟩)))
      all_goals
        have HW3 := Lib.hid (HW.out.trans (hw3.mono HW.out.size))
        clear hw2 hw3 q2
        go_wp2_with fail
        go_roundw
        case rel => exact ⟨k + 1, by omega, by go_num, HW3.out⟩
        case measure => simp [intOf]; omega
    · go_wp2_with fail
      go_ret
      exact ⟨rfl, HW.out⟩

theorem infoRow : (Try.prog.info? 134).map (fun i => (i.zero, i.size, i.bytes)) = some (some (.agg #[.string ⟨#[]⟩, .int .i64 0]), 2, 24) := by kernel_rfl
theorem run_makeRow (n : Nat) (hn : n ≤ 1048576) (w : World) :
    (Instr.makeSlice 58 (.int .i64 (n : Int)) (.int .i64 (n : Int))).run Try.prog w = .ok (.slice (some ⟨w.heap.size, 0, none⟩) n n) (w.alloc (.cells (madeCells #[.string ⟨#[]⟩, .int .i64 0] (n * 2)) 134)) := by
  obtain ⟨i, hi, hzz⟩ := Option.map_eq_some_iff.1 infoRow
  simp only [Prod.mk.injEq] at hzz
  obtain ⟨hz, hs, hb⟩ := hzz
  have := run_make (w := w) (P := Try.prog) 58 134 i _ Try.underlying58 hi hz .i64 .i64 (n : Int) (n : Int) (by omega) (Int.le_refl _) (by rw [hb]; omega) (by omega)
  rw [hs] at this
  simpa [Value.cells] using this
/-- The first k have been copied into block g. -/
def RowRow (g : Nat) (vs : List RowD) (k : Nat) (u : World) : Prop :=
  ∀ i (h : i < vs.length), i < k → u.cell? ⟨g, i * 2, none⟩ = some (.string vs[i].f0) ∧ u.cell? ⟨g, i * 2 + 1, none⟩ = some (.int .i64 vs[i].f1)
theorem RowRow.below {g : Nat} {vs : List RowD} {k : Nat} {u v : World} (h : RowRow g vs k u) (hg : g < u.heap.size) (hb : Below u.heap.size u v) : RowRow g vs k v := fun i hi hk => by
  rw [hb.cell (p := ⟨g, i * 2, none⟩) hg, hb.cell (p := ⟨g, i * 2 + 1, none⟩) hg]
  exact h i hi hk
theorem RowRow.step {g : Nat} {vs : List RowD} {k : Nat} {u : World} (h : RowRow g vs k u) (hr : Row g (vs.length * 2) u) (hk : k < vs.length) :
    RowRow g vs (k + 1) ((u.setCell ⟨g, k * 2, none⟩ (.string vs[k].f0)).setCell ⟨g, k * 2 + 1, none⟩ (.int .i64 vs[k].f1)) := by
  intro i hi hik
  by_cases e : i = k
  · subst e
    obtain ⟨v0, h0⟩ := (hr.2 (i * 2) (by omega)).1
    obtain ⟨v1, h1⟩ := (hr.2 (i * 2 + 1) (by omega)).1
    refine ⟨?_, ?_⟩
    · rw [cell_off (by omega)]; exact World.cell?_setCell_same _ _ _ (u := v0) h0
    · exact World.cell?_setCell_same _ _ _ (u := v1) (by rw [cell_off (by omega)]; exact h1)
  · obtain ⟨c0, c1⟩ := h i hi (by omega)
    refine ⟨?_, ?_⟩
    · rw [cell_off (by omega), cell_off (by omega)]; exact c0
    · rw [cell_off (by omega), cell_off (by omega)]; exact c1

set_option maxHeartbeats 1000000 in
theorem toRow_any (v : RowD) (w : World) :
    Calls Try.prog 152 #[.agg #[.string v.f0, .int .i64 v.f1]] w fun e w' => e = .returned (.agg #[.string v.f0, .int .i64 v.f1]) ∧ Below w.heap.size w w' := by
  go_enter Try.func152, Try.ntmps152
  go_wp2
  exact bodyPost_ret (v := .agg #[.string v.f0, .int .i64 v.f1]) (by simp [results, Try.results152, go_sem]) rfl ⟨rfl, (((Below.refl _ _).alloc (Nat.le_refl _) _).alloc (by simp) _).alloc (by simp; omega) _⟩

def ToRows (vs : List RowD) (w : World) (e : Ending) (w' : World) : Prop :=
  e = .returned (.slice (some ⟨w.heap.size, 0, none⟩) vs.length vs.length) ∧ RowsIn w' (some ⟨w.heap.size, 0, none⟩) vs ∧ Free w' (some ⟨w.heap.size, 0, none⟩) (vs.length * 2) ∧ Below w.heap.size w w' ∧ w.heap.size < w'.heap.size

set_option maxHeartbeats 2000000 in
theorem toRowS_any (a : Option Addr) (vs : List RowD) (cap : Nat) (w : World) (hv : RowsIn w a vs) (hn : vs.length ≤ 1048576) :
    Calls Try.prog 94 #[.slice a vs.length cap] w (ToRows vs w) := by
  have HV := Lib.hid hv
  clear hv
  have hmk := run_makeRow vs.length hn
  go_enter Try.func94, Try.ntmps94
  go_wp2_with fail
  go_loopw [4] (fun i wr => ∃ k : Nat, k ≤ vs.length ∧ i = .int .i64 k ∧ Below w.heap.size w wr ∧ Row w.heap.size (vs.length * 2) wr ∧ RowRow w.heap.size vs k wr) (fun i _ => vs.length - (intOf i).toNat)
  case atStart => exact ⟨0, Nat.zero_le _, rfl, (Below.refl _ _).alloc (Nat.le_refl _) _, Row.made _ _ _ w, fun _ _ h => absurd h (by omega)⟩
  case round =>
    obtain ⟨k, hk, rfl, hB, hR, hP⟩ := hrel
    have HW := Lib.hid hB
    have HR := Lib.hid hR
    have HP := Lib.hid hP
    clear hB hR hP hmk
    by_cases hlt : k < vs.length
    · rcases HV.out.below HW.out with hnil | ⟨b1, o1, rfl, hb1, hc1⟩
      · rw [hnil] at hlt; simp at hlt
      obtain ⟨c0, c1⟩ := hc1 k hlt
      clear hc1
      go_wp2_with fail
      with_reducible refine (toRow_any vs[k] _).mono ?_
      rintro e w2 ⟨rfl, hw2⟩
      have HR2 := Lib.hid (HR.out.below hw2)
      have HP2 := Lib.hid (HP.out.below HR.out.1 hw2)
      have HW2 := Lib.hid (HW.out.trans (hw2.mono HW.out.size))
      obtain ⟨v0, d0⟩ := (HR2.out.2 (k * 2) (by omega)).1
      obtain ⟨v1, d1⟩ := (HR2.out.2 (k * 2 + 1) (by omega)).1
      have f0 := (HR2.out.2 (k * 2) (by omega)).2
      have f1 := (HR2.out.2 (k * 2 + 1) (by omega)).2
      clear hw2 c0 c1
      go_wp2_with fail
      go_roundw
      case rel => exact ⟨k + 1, by omega, by go_num, (HW2.out.setCell (p := ⟨w.heap.size, k * 2, none⟩) (Nat.le_refl _) _).setCell (p := ⟨w.heap.size, k * 2 + 1, none⟩) (Nat.le_refl _) _, ((HR2.out.set).set), HP2.out.step HR2.out hlt⟩
      case measure => simp [intOf]; omega
    · go_wp2_with fail
      go_ret
      obtain rfl : k = vs.length := by omega
      refine ⟨rfl, .inr ⟨w.heap.size, 0, rfl, HR.out.1, fun i hi => ?_⟩, .inr ⟨w.heap.size, 0, rfl, HR.out.1, fun i hi => ?_⟩, HW.out, HR.out.1⟩
      · have := HP.out i hi hi
        simpa using this
      · have := HR.out.2 i hi
        simpa using this

def Rowmarks (k n : Nat) : List RowD := (List.range n).map fun i => ⟨mtext (k + i * 2), (((k + i * 2 + 1 : Nat)) : Int)⟩
theorem Rowmarks_length (k n : Nat) : (Rowmarks k n).length = n := by simp [Rowmarks]
theorem Rowmarks_at (k n i : Nat) (h : i < (Rowmarks k n).length) : (Rowmarks k n)[i] = ⟨mtext (k + i * 2), (((k + i * 2 + 1 : Nat)) : Int)⟩ := by simp [Rowmarks]

def MarkedRows (S : Nat → Prop) (a : Option Addr) (k n : Nat) (w : World) (e : Ending) (w' : World) : Prop :=
  e = .returned (.int .i64 ((k + n * 2 : Nat) : Int)) ∧ RowsIn w' a (Rowmarks k n) ∧ Free w' a (n * 2) ∧ Turned S w w'
end Go.Proofs.Ythjikcfpoomioaa
