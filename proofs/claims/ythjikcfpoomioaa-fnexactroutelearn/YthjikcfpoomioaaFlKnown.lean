/- Slices of Known: how they lie in memory; their sizes, equality, copies, marks, and what an argument holds. -/
import Derived.Test.YthjikcfpoomioaaStrsM
import Derived.Test.YthjikcfpoomioaaLess
import Derived.Test.YthjikcfpoomioaaSpanB
import Derived.Deep.RegionHeld3
import Derived.Lib.QuietBelow
namespace Go.Proofs.Ythjikcfpoomioaa
open Go.RowKit Go.ChangeShapes Go.WideShapes Go.ChangeAt Go.Joins Go.Deep

structure KnownD where
  f0 : ByteArray
  f1 : ByteArray
  f2 : Int
  f3 : Int
def KnownD.size (v : KnownD) : Nat := v.f0.size + v.f1.size
def KnownD.fits (v : KnownD) : Prop := v.f0.size ≤ maxLen ∧ v.f1.size ≤ maxLen

/-- A slice, as it reads in u. -/
def KnownsIn (u : World) (a : Option Addr) (vs : List KnownD) : Prop :=
  vs = [] ∨ ∃ b off, a = some ⟨b, off, none⟩ ∧ b < u.heap.size ∧ ∀ i (h : i < vs.length), u.cell? ⟨b, off + i * 4, none⟩ = some (.string vs[i].f0) ∧ u.cell? ⟨b, off + i * 4 + 1, none⟩ = some (.string vs[i].f1) ∧ u.cell? ⟨b, off + i * 4 + 2, none⟩ = some (.int .i64 vs[i].f2) ∧ u.cell? ⟨b, off + i * 4 + 3, none⟩ = some (.int .i64 vs[i].f3)
theorem KnownsIn.below {u v : World} {a : Option Addr} {vs : List KnownD} (h : KnownsIn u a vs) (hb : Below u.heap.size u v) : KnownsIn v a vs := by
  rcases h with h | ⟨b, off, e, hlt, hc⟩
  · exact .inl h
  · refine .inr ⟨b, off, e, Nat.lt_of_lt_of_le hlt hb.size, fun i hi => ?_⟩
    rw [hb.cell (p := ⟨b, off + i * 4, none⟩) hlt, hb.cell (p := ⟨b, off + i * 4 + 1, none⟩) hlt, hb.cell (p := ⟨b, off + i * 4 + 2, none⟩) hlt, hb.cell (p := ⟨b, off + i * 4 + 3, none⟩) hlt]
    exact hc i hi
theorem KnownsIn.turned {S : Nat → Prop} {u v : World} {a : Option Addr} {vs : List KnownD} (h : KnownsIn u a vs) (ho : OffS S a) (ht : Turned S u v) : KnownsIn v a vs := by
  rcases h with h | ⟨b, off, e, hlt, hc⟩
  · exact .inl h
  · refine .inr ⟨b, off, e, Nat.lt_of_lt_of_le hlt ht.size, fun i hi => ?_⟩
    rw [ht.cell (p := ⟨b, off + i * 4, none⟩) hlt (ho b off e), ht.cell (p := ⟨b, off + i * 4 + 1, none⟩) hlt (ho b off e), ht.cell (p := ⟨b, off + i * 4 + 2, none⟩) hlt (ho b off e), ht.cell (p := ⟨b, off + i * 4 + 3, none⟩) hlt (ho b off e)]
    exact hc i hi
theorem KnownsIn.set {u : World} {b g o : Nat} {x : Value} {vs : List KnownD} (h : KnownsIn u (some ⟨b, 0, none⟩) vs) (hg : g ≠ b) : KnownsIn (u.setCell ⟨g, o, none⟩ x) (some ⟨b, 0, none⟩) vs :=
  h.turned (S := fun k => k = g) (fun b' off e k => hg (by cases e; exact k.symm)) ((Turned.refl (fun k => k = g) u).setCell (p := ⟨g, o, none⟩) rfl x)

set_option maxHeartbeats 400000 in
theorem szKnown_any (v : KnownD) (left : Int) (w : World) (hf : v.fits) (h0 : 0 ≤ left) (hl : left ≤ 1048576) :
    Calls Try.prog 47 #[.agg #[.string v.f0, .string v.f1, .int .i64 v.f2, .int .i64 v.f3], .int .i64 left] w (SzPost left v.size w) := by
  obtain ⟨hs0, hs1⟩ := hf
  have hb0 : Below w.heap.size w (w.alloc (.cells #[.string v.f0, .string v.f1, .int .i64 v.f2, .int .i64 v.f3] 70)) := (Below.refl _ _).alloc (Nat.le_refl _) _
  go_enter Try.func47, Try.ntmps47
  go_wp2_with fail
  refine (szSpan_any v.f0 v.f1 left _ hs0 hs1 h0 hl).mono ?_
  rintro e w2 ⟨rfl, hb2⟩
  have HB2 := Lib.hid (hb0.trans (hb2.mono (by simp)))
  clear hb2 hb0
  by_cases h1 : left < v.f0.size + v.f1.size
  · have hz : szSpanZ v.f0 v.f1 left = -1 := by unfold szSpanZ; split <;> simp <;> omega
    rw [hz]
    go_wp2_with fail
    go_ret
    exact ⟨-1, rfl, .inl rfl, HB2.out⟩
  · have hz : szSpanZ v.f0 v.f1 left = left - v.f0.size - v.f1.size := by unfold szSpanZ; rw [if_neg (by omega), if_neg (by omega)]
    rw [hz]
    go_wp2_with fail
    go_ret
    exact ⟨_, rfl, .inr ⟨by omega, by simp only [KnownD.size]; omega⟩, HB2.out⟩

def KnownTo (vs : List KnownD) (k : Nat) : Nat := ((vs.take k).map KnownD.size).sum
theorem KnownTo_zero (vs : List KnownD) : KnownTo vs 0 = 0 := by simp [KnownTo]
theorem KnownTo_succ (vs : List KnownD) (k : Nat) (h : k < vs.length) : KnownTo vs (k + 1) = KnownTo vs k + vs[k].size := by
  unfold KnownTo
  rw [List.take_succ_eq_append_getElem h, List.map_append, List.sum_append]
  simp
def KnownsSize (vs : List KnownD) : Nat := vs.length + KnownTo vs vs.length
theorem KnownsSize_len (vs : List KnownD) : vs.length ≤ KnownsSize vs := Nat.le_add_right _ _

set_option maxHeartbeats 1000000 in
theorem szKnownS_any (a : Option Addr) (vs : List KnownD) (cap : Nat) (left : Int) (w : World) (hv : KnownsIn w a vs) (ht : ∀ v ∈ vs, v.fits) (hn : vs.length ≤ maxLen) (h0 : 0 ≤ left) (hl : left ≤ 1048576) :
    Calls Try.prog 29 #[.slice a vs.length cap, .int .i64 left] w (SzPost left (KnownsSize vs) w) := by
  unfold maxLen at hn
  have HV := Lib.hid hv
  have HT := Lib.hid ht
  clear hv ht
  by_cases h : left < vs.length
  · go_enter Try.func29, Try.ntmps29
    go_wp2_with fail
    go_ret
    exact ⟨-1, rfl, .inl rfl, Below.refl _ _⟩
  · go_enter Try.func29, Try.ntmps29
    go_wp2_with fail
    go_loopw [1, 5] (fun l i wr => ∃ (k : Nat) (z : Int), k ≤ vs.length ∧ i = .int .i64 k ∧ l = .int .i64 z ∧ 0 ≤ z ∧ z + vs.length + KnownTo vs k = left ∧ Below w.heap.size w wr) (fun _ i _ => vs.length - (intOf i).toNat)
    case atStart => exact ⟨0, left - vs.length, Nat.zero_le _, rfl, rfl, by omega, by rw [KnownTo_zero]; omega, Below.refl _ _⟩
    case round =>
      obtain ⟨k, z, hk, rfl, rfl, hz0, hz, hB⟩ := hrel
      have HZ := Lib.hid hz
      have HB := Lib.hid hB
      clear hz hB
      by_cases hlt : k < vs.length
      · rcases HV.out.below HB.out with hnil | ⟨b, off, rfl, hb, hc⟩
        · rw [hnil] at hlt; simp at hlt
        · obtain ⟨c0, c1, c2, c3⟩ := hc k hlt
          clear hc
          go_wp2_with fail
          with_reducible refine (szKnown_any vs[k] _ _ (HT.out _ (List.getElem_mem hlt)) hz0 (by have := HZ.out; omega)).mono ?_
          rintro e w2 ⟨z2, rfl, hz2, hb2⟩
          have HB2 := Lib.hid (HB.out.trans (hb2.mono HB.out.size))
          clear hb2
          rcases hz2 with rfl | ⟨hp, hsum⟩
          · go_wp2_with fail
            go_ret
            exact ⟨-1, rfl, .inl rfl, HB2.out⟩
          · have HS := Lib.hid hsum
            clear hsum
            go_wp2_with fail
            go_roundw
            case rel => exact ⟨k + 1, z2, by omega, by go_num, rfl, hp, by rw [KnownTo_succ vs k hlt]; have := HZ.out; have := HS.out; omega, HB2.out⟩
            case measure => simp [intOf]; omega
      · go_wp2_with fail
        go_ret
        obtain rfl : k = vs.length := by omega
        exact ⟨z, rfl, .inr ⟨hz0, by unfold KnownsSize; have := HZ.out; omega⟩, HB.out⟩

set_option maxHeartbeats 1000000 in
theorem eqKnown_same (v : KnownD) (w : World) :
    Calls Try.prog 36 #[.agg #[.string v.f0, .string v.f1, .int .i64 v.f2, .int .i64 v.f3], .agg #[.string v.f0, .string v.f1, .int .i64 v.f2, .int .i64 v.f3]] w fun e w' => e = .returned (.bool true) ∧ Below w.heap.size w w' := by
  obtain ⟨W1, hW1⟩ : ∃ W1, (w.alloc (.cells #[.string v.f0, .string v.f1, .int .i64 v.f2, .int .i64 v.f3] 48)).alloc (.cells #[.string v.f0, .string v.f1, .int .i64 v.f2, .int .i64 v.f3] 48) = W1 := ⟨_, rfl⟩
  have B1 : Below w.heap.size w W1 := by rw [← hW1]; exact ((Below.refl _ _).alloc (Nat.le_refl _) _).alloc (by simp) _
  have z1 : W1.heap.size = w.heap.size + 2 := by rw [← hW1]; simp
  have a0 : W1.cell? ⟨w.heap.size, 0, none⟩ = some (.string v.f0) := by rw [← hW1]; simp [go_sem]
  have a1 : W1.cell? ⟨w.heap.size, 1, none⟩ = some (.string v.f1) := by rw [← hW1]; simp [go_sem]
  have a2 : W1.cell? ⟨w.heap.size, 2, none⟩ = some (.int .i64 v.f2) := by rw [← hW1]; simp [go_sem]
  have a3 : W1.cell? ⟨w.heap.size, 3, none⟩ = some (.int .i64 v.f3) := by rw [← hW1]; simp [go_sem]
  have b0 : W1.cell? ⟨w.heap.size + 1, 0, none⟩ = some (.string v.f0) := by rw [← hW1]; simp [go_sem]
  have b1 : W1.cell? ⟨w.heap.size + 1, 1, none⟩ = some (.string v.f1) := by rw [← hW1]; simp [go_sem]
  have b2 : W1.cell? ⟨w.heap.size + 1, 2, none⟩ = some (.int .i64 v.f2) := by rw [← hW1]; simp [go_sem]
  have b3 : W1.cell? ⟨w.heap.size + 1, 3, none⟩ = some (.int .i64 v.f3) := by rw [← hW1]; simp [go_sem]
  go_enter Try.func36, Try.ntmps36
  go_wp2_with fail
  clear hW1
  refine (eqSpan_same _ _ _).mono ?_
  rintro e w2 ⟨rfl, hb2⟩
  have a2x := (hb2.cell (p := ⟨w.heap.size, 2, none⟩) (show w.heap.size < W1.heap.size by omega)).trans a2
  have a3x := (hb2.cell (p := ⟨w.heap.size, 3, none⟩) (show w.heap.size < W1.heap.size by omega)).trans a3
  have b2x := (hb2.cell (p := ⟨w.heap.size + 1, 2, none⟩) (show w.heap.size + 1 < W1.heap.size by omega)).trans b2
  have b3x := (hb2.cell (p := ⟨w.heap.size + 1, 3, none⟩) (show w.heap.size + 1 < W1.heap.size by omega)).trans b3
  have E2 := Lib.hid (B1.trans (hb2.mono (by omega)))
  clear hb2 B1 a0 a1 a2 a3 b0 b1 b2 b3
  go_wp2_with fail
  go_ret
  exact ⟨rfl, E2.out⟩

set_option maxHeartbeats 2000000 in
theorem eqKnownS_same (a b : Option Addr) (vs : List KnownD) (ca cb : Nat) (w : World) (ha : KnownsIn w a vs) (hb : KnownsIn w b vs) (hn : vs.length ≤ maxLen) :
    Calls Try.prog 33 #[.slice a vs.length ca, .slice b vs.length cb] w fun e w' => e = .returned (.bool true) ∧ Below w.heap.size w w' := by
  unfold maxLen at hn
  have HA := Lib.hid ha
  have HB := Lib.hid hb
  clear ha hb
  go_enter Try.func33, Try.ntmps33
  go_wp2_with fail
  go_loopw [5] (fun i wr => ∃ k : Nat, k ≤ vs.length ∧ i = .int .i64 k ∧ Below w.heap.size w wr) (fun i _ => vs.length - (intOf i).toNat)
  case atStart => exact ⟨0, Nat.zero_le _, rfl, Below.refl _ _⟩
  case round =>
    obtain ⟨k, hk, rfl, hB⟩ := hrel
    have HW := Lib.hid hB
    clear hB
    by_cases hlt : k < vs.length
    · rcases HA.out.below HW.out with hnil | ⟨b1, o1, rfl, hb1, hc1⟩
      · rw [hnil] at hlt; simp at hlt
      rcases HB.out.below HW.out with hnil | ⟨b2, o2, rfl, hb2, hc2⟩
      · rw [hnil] at hlt; simp at hlt
      obtain ⟨c0, c1, c2, c3⟩ := hc1 k hlt
      obtain ⟨d0, d1, d2, d3⟩ := hc2 k hlt
      clear hc1 hc2
      have i1 : (0 : Int) ≤ (k : Int) := by omega
      have i2 : (k : Int) < (vs.length : Int) := by omega
      go_wp2_with fail
      go_region_held3 (fun u => u.cell? ⟨b1, o1 + k * 4, none⟩ = some (.string vs[k].f0) ∧ u.cell? ⟨b1, o1 + k * 4 + 1, none⟩ = some (.string vs[k].f1) ∧ u.cell? ⟨b1, o1 + k * 4 + 2, none⟩ = some (.int .i64 vs[k].f2) ∧ u.cell? ⟨b1, o1 + k * 4 + 3, none⟩ = some (.int .i64 vs[k].f3) ∧ u.cell? ⟨b2, o2 + k * 4, none⟩ = some (.string vs[k].f0) ∧ u.cell? ⟨b2, o2 + k * 4 + 1, none⟩ = some (.string vs[k].f1) ∧ u.cell? ⟨b2, o2 + k * 4 + 2, none⟩ = some (.int .i64 vs[k].f2) ∧ u.cell? ⟨b2, o2 + k * 4 + 3, none⟩ = some (.int .i64 vs[k].f3))
        (first | with_reducible exact q2 | exact ⟨c0, c1, c2, c3, d0, d1, d2, d3⟩)
        (first
          | (go_at_call 36; (with_reducible refine (eqKnown_same vs[k] _).mono ?_); rintro e w2 ⟨rfl, hw2⟩; have hw3 := ((Below.refl wr.heap.size wr).drew).trans hw2; have q2 := (show w2.cell? ⟨b1, o1 + k * 4, none⟩ = some (.string vs[k].f0) ∧ w2.cell? ⟨b1, o1 + k * 4 + 1, none⟩ = some (.string vs[k].f1) ∧ w2.cell? ⟨b1, o1 + k * 4 + 2, none⟩ = some (.int .i64 vs[k].f2) ∧ w2.cell? ⟨b1, o1 + k * 4 + 3, none⟩ = some (.int .i64 vs[k].f3) ∧ w2.cell? ⟨b2, o2 + k * 4, none⟩ = some (.string vs[k].f0) ∧ w2.cell? ⟨b2, o2 + k * 4 + 1, none⟩ = some (.string vs[k].f1) ∧ w2.cell? ⟨b2, o2 + k * 4 + 2, none⟩ = some (.int .i64 vs[k].f2) ∧ w2.cell? ⟨b2, o2 + k * 4 + 3, none⟩ = some (.int .i64 vs[k].f3) from ⟨(hw3.cell (p := ⟨b1, o1 + k * 4, none⟩) hb1).trans c0, (hw3.cell (p := ⟨b1, o1 + k * 4 + 1, none⟩) hb1).trans c1, (hw3.cell (p := ⟨b1, o1 + k * 4 + 2, none⟩) hb1).trans c2, (hw3.cell (p := ⟨b1, o1 + k * 4 + 3, none⟩) hb1).trans c3, (hw3.cell (p := ⟨b2, o2 + k * 4, none⟩) hb2).trans d0, (hw3.cell (p := ⟨b2, o2 + k * 4 + 1, none⟩) hb2).trans d1, (hw3.cell (p := ⟨b2, o2 + k * 4 + 2, none⟩) hb2).trans d2, (hw3.cell (p := ⟨b2, o2 + k * 4 + 3, none⟩) hb2).trans d3⟩)))
      all_goals
        have HW3 := Lib.hid (HW.out.trans (hw3.mono HW.out.size))
        clear hw2 hw3 q2
        go_wp2_with fail
        go_roundw
        case rel => exact ⟨k + 1, by omega, by go_num, HW3.out⟩
        case measure => simp [intOf]; omega
    · go_wp2_with fail
      go_ret
      exact ⟨rfl, HW.out⟩

theorem infoKnown : (Try.prog.info? 48).map (fun i => (i.zero, i.size, i.bytes)) = some (some (.agg #[.string ⟨#[]⟩, .string ⟨#[]⟩, .int .i64 0, .int .i64 0]), 4, 48) := by kernel_rfl
theorem run_makeKnown (n : Nat) (hn : n ≤ 1048576) (w : World) :
    (Instr.makeSlice 41 (.int .i64 (n : Int)) (.int .i64 (n : Int))).run Try.prog w = .ok (.slice (some ⟨w.heap.size, 0, none⟩) n n) (w.alloc (.cells (madeCells #[.string ⟨#[]⟩, .string ⟨#[]⟩, .int .i64 0, .int .i64 0] (n * 4)) 48)) := by
  obtain ⟨i, hi, hzz⟩ := Option.map_eq_some_iff.1 infoKnown
  simp only [Prod.mk.injEq] at hzz
  obtain ⟨hz, hs, hb⟩ := hzz
  have := run_make (w := w) (P := Try.prog) 41 48 i _ Try.underlying41 hi hz .i64 .i64 (n : Int) (n : Int) (by omega) (Int.le_refl _) (by rw [hb]; omega) (by omega)
  rw [hs] at this
  simpa [Value.cells] using this
/-- The first k have been copied into block g. -/
def KnownRow (g : Nat) (vs : List KnownD) (k : Nat) (u : World) : Prop :=
  ∀ i (h : i < vs.length), i < k → u.cell? ⟨g, i * 4, none⟩ = some (.string vs[i].f0) ∧ u.cell? ⟨g, i * 4 + 1, none⟩ = some (.string vs[i].f1) ∧ u.cell? ⟨g, i * 4 + 2, none⟩ = some (.int .i64 vs[i].f2) ∧ u.cell? ⟨g, i * 4 + 3, none⟩ = some (.int .i64 vs[i].f3)
theorem KnownRow.below {g : Nat} {vs : List KnownD} {k : Nat} {u v : World} (h : KnownRow g vs k u) (hg : g < u.heap.size) (hb : Below u.heap.size u v) : KnownRow g vs k v := fun i hi hk => by
  rw [hb.cell (p := ⟨g, i * 4, none⟩) hg, hb.cell (p := ⟨g, i * 4 + 1, none⟩) hg, hb.cell (p := ⟨g, i * 4 + 2, none⟩) hg, hb.cell (p := ⟨g, i * 4 + 3, none⟩) hg]
  exact h i hi hk
theorem KnownRow.step {g : Nat} {vs : List KnownD} {k : Nat} {u : World} (h : KnownRow g vs k u) (hr : Row g (vs.length * 4) u) (hk : k < vs.length) :
    KnownRow g vs (k + 1) ((((u.setCell ⟨g, k * 4, none⟩ (.string vs[k].f0)).setCell ⟨g, k * 4 + 1, none⟩ (.string vs[k].f1)).setCell ⟨g, k * 4 + 2, none⟩ (.int .i64 vs[k].f2)).setCell ⟨g, k * 4 + 3, none⟩ (.int .i64 vs[k].f3)) := by
  intro i hi hik
  by_cases e : i = k
  · subst e
    obtain ⟨v0, h0⟩ := (hr.2 (i * 4) (by omega)).1
    obtain ⟨v1, h1⟩ := (hr.2 (i * 4 + 1) (by omega)).1
    obtain ⟨v2, h2⟩ := (hr.2 (i * 4 + 2) (by omega)).1
    obtain ⟨v3, h3⟩ := (hr.2 (i * 4 + 3) (by omega)).1
    refine ⟨?_, ?_, ?_, ?_⟩
    · rw [cell_off (by omega), cell_off (by omega), cell_off (by omega)]; exact World.cell?_setCell_same _ _ _ (u := v0) h0
    · rw [cell_off (by omega), cell_off (by omega)]; exact World.cell?_setCell_same _ _ _ (u := v1) (by rw [cell_off (by omega)]; exact h1)
    · rw [cell_off (by omega)]; exact World.cell?_setCell_same _ _ _ (u := v2) (by rw [cell_off (by omega), cell_off (by omega)]; exact h2)
    · exact World.cell?_setCell_same _ _ _ (u := v3) (by rw [cell_off (by omega), cell_off (by omega), cell_off (by omega)]; exact h3)
  · obtain ⟨c0, c1, c2, c3⟩ := h i hi (by omega)
    refine ⟨?_, ?_, ?_, ?_⟩
    · rw [cell_off (by omega), cell_off (by omega), cell_off (by omega), cell_off (by omega)]; exact c0
    · rw [cell_off (by omega), cell_off (by omega), cell_off (by omega), cell_off (by omega)]; exact c1
    · rw [cell_off (by omega), cell_off (by omega), cell_off (by omega), cell_off (by omega)]; exact c2
    · rw [cell_off (by omega), cell_off (by omega), cell_off (by omega), cell_off (by omega)]; exact c3

set_option maxHeartbeats 2000000 in
theorem toKnown_any (v : KnownD) (w : World) :
    Calls Try.prog 49 #[.agg #[.string v.f0, .string v.f1, .int .i64 v.f2, .int .i64 v.f3]] w fun e w' => e = .returned (.agg #[.string v.f0, .string v.f1, .int .i64 v.f2, .int .i64 v.f3]) ∧ Below w.heap.size w w' := by
  obtain ⟨W1, hW1⟩ : ∃ W1, ((w.alloc (.cells #[.string v.f0, .string v.f1, .int .i64 v.f2, .int .i64 v.f3] 70)).alloc (.cells #[.string ⟨#[]⟩, .string ⟨#[]⟩, .int .i64 0, .int .i64 0] 48)).alloc (.cells #[.string ⟨#[]⟩, .string ⟨#[]⟩, .int .i64 0, .int .i64 0] 48) = W1 := ⟨_, rfl⟩
  have B1 : Below w.heap.size w W1 := by rw [← hW1]; exact (((Below.refl _ _).alloc (Nat.le_refl _) _).alloc (by simp) _).alloc (by simp <;> omega) _
  have z1 : W1.heap.size = w.heap.size + 3 := by rw [← hW1]; simp
  have a0 : W1.cell? ⟨w.heap.size, 0, none⟩ = some (.string v.f0) := by rw [← hW1]; simp [go_sem]
  have a1 : W1.cell? ⟨w.heap.size, 1, none⟩ = some (.string v.f1) := by rw [← hW1]; simp [go_sem]
  have a2 : W1.cell? ⟨w.heap.size, 2, none⟩ = some (.int .i64 v.f2) := by rw [← hW1]; simp [go_sem]
  have a3 : W1.cell? ⟨w.heap.size, 3, none⟩ = some (.int .i64 v.f3) := by rw [← hW1]; simp [go_sem]
  have p0 : W1.cell? ⟨w.heap.size + 1, 0, none⟩ = some (.string ⟨#[]⟩) := by rw [← hW1]; simp [go_sem]
  have p1 : W1.cell? ⟨w.heap.size + 1, 1, none⟩ = some (.string ⟨#[]⟩) := by rw [← hW1]; simp [go_sem]
  have p2 : W1.cell? ⟨w.heap.size + 1, 2, none⟩ = some (.int .i64 0) := by rw [← hW1]; simp [go_sem]
  have p3 : W1.cell? ⟨w.heap.size + 1, 3, none⟩ = some (.int .i64 0) := by rw [← hW1]; simp [go_sem]
  have r0 : W1.cell? ⟨w.heap.size + 1 + 1, 0, none⟩ = some (.string ⟨#[]⟩) := by rw [← hW1]; simp [go_sem]
  have r1 : W1.cell? ⟨w.heap.size + 1 + 1, 1, none⟩ = some (.string ⟨#[]⟩) := by rw [← hW1]; simp [go_sem]
  have r2 : W1.cell? ⟨w.heap.size + 1 + 1, 2, none⟩ = some (.int .i64 0) := by rw [← hW1]; simp [go_sem]
  have r3 : W1.cell? ⟨w.heap.size + 1 + 1, 3, none⟩ = some (.int .i64 0) := by rw [← hW1]; simp [go_sem]
  have fp0 : W1.frozen? ⟨w.heap.size + 1, 0, none⟩ = false := by rw [← hW1]; simp [go_sem]
  have fp1 : W1.frozen? ⟨w.heap.size + 1, 1, none⟩ = false := by rw [← hW1]; simp [go_sem]
  have fp2 : W1.frozen? ⟨w.heap.size + 1, 2, none⟩ = false := by rw [← hW1]; simp [go_sem]
  have fp3 : W1.frozen? ⟨w.heap.size + 1, 3, none⟩ = false := by rw [← hW1]; simp [go_sem]
  have fr0 : W1.frozen? ⟨w.heap.size + 1 + 1, 0, none⟩ = false := by rw [← hW1]; simp [go_sem]
  have fr1 : W1.frozen? ⟨w.heap.size + 1 + 1, 1, none⟩ = false := by rw [← hW1]; simp [go_sem]
  have fr2 : W1.frozen? ⟨w.heap.size + 1 + 1, 2, none⟩ = false := by rw [← hW1]; simp [go_sem]
  have fr3 : W1.frozen? ⟨w.heap.size + 1 + 1, 3, none⟩ = false := by rw [← hW1]; simp [go_sem]
  go_enter Try.func49, Try.ntmps49
  go_wp2_with fail
  clear hW1
  refine (toSpan_any _ _ _).mono ?_
  rintro e w2 ⟨rfl, hb2⟩
  have a0x := (hb2.cell (p := ⟨w.heap.size, 0, none⟩) (show w.heap.size < W1.heap.size by omega)).trans a0
  have a1x := (hb2.cell (p := ⟨w.heap.size, 1, none⟩) (show w.heap.size < W1.heap.size by omega)).trans a1
  have a2x := (hb2.cell (p := ⟨w.heap.size, 2, none⟩) (show w.heap.size < W1.heap.size by omega)).trans a2
  have a3x := (hb2.cell (p := ⟨w.heap.size, 3, none⟩) (show w.heap.size < W1.heap.size by omega)).trans a3
  have p0x := (hb2.cell (p := ⟨w.heap.size + 1, 0, none⟩) (show w.heap.size + 1 < W1.heap.size by omega)).trans p0
  have p1x := (hb2.cell (p := ⟨w.heap.size + 1, 1, none⟩) (show w.heap.size + 1 < W1.heap.size by omega)).trans p1
  have p2x := (hb2.cell (p := ⟨w.heap.size + 1, 2, none⟩) (show w.heap.size + 1 < W1.heap.size by omega)).trans p2
  have p3x := (hb2.cell (p := ⟨w.heap.size + 1, 3, none⟩) (show w.heap.size + 1 < W1.heap.size by omega)).trans p3
  have r0x := (hb2.cell (p := ⟨w.heap.size + 1 + 1, 0, none⟩) (show w.heap.size + 1 + 1 < W1.heap.size by omega)).trans r0
  have r1x := (hb2.cell (p := ⟨w.heap.size + 1 + 1, 1, none⟩) (show w.heap.size + 1 + 1 < W1.heap.size by omega)).trans r1
  have r2x := (hb2.cell (p := ⟨w.heap.size + 1 + 1, 2, none⟩) (show w.heap.size + 1 + 1 < W1.heap.size by omega)).trans r2
  have r3x := (hb2.cell (p := ⟨w.heap.size + 1 + 1, 3, none⟩) (show w.heap.size + 1 + 1 < W1.heap.size by omega)).trans r3
  have fp0x := (hb2.frozen (p := ⟨w.heap.size + 1, 0, none⟩) (show w.heap.size + 1 < W1.heap.size by omega)).trans fp0
  have fp1x := (hb2.frozen (p := ⟨w.heap.size + 1, 1, none⟩) (show w.heap.size + 1 < W1.heap.size by omega)).trans fp1
  have fp2x := (hb2.frozen (p := ⟨w.heap.size + 1, 2, none⟩) (show w.heap.size + 1 < W1.heap.size by omega)).trans fp2
  have fp3x := (hb2.frozen (p := ⟨w.heap.size + 1, 3, none⟩) (show w.heap.size + 1 < W1.heap.size by omega)).trans fp3
  have fr0x := (hb2.frozen (p := ⟨w.heap.size + 1 + 1, 0, none⟩) (show w.heap.size + 1 + 1 < W1.heap.size by omega)).trans fr0
  have fr1x := (hb2.frozen (p := ⟨w.heap.size + 1 + 1, 1, none⟩) (show w.heap.size + 1 + 1 < W1.heap.size by omega)).trans fr1
  have fr2x := (hb2.frozen (p := ⟨w.heap.size + 1 + 1, 2, none⟩) (show w.heap.size + 1 + 1 < W1.heap.size by omega)).trans fr2
  have fr3x := (hb2.frozen (p := ⟨w.heap.size + 1 + 1, 3, none⟩) (show w.heap.size + 1 + 1 < W1.heap.size by omega)).trans fr3
  have z2 : w.heap.size + 1 + 1 < w2.heap.size := by have := hb2.size; omega
  have z3 : w.heap.size + 1 < w2.heap.size := by omega
  have z4 : w.heap.size < w2.heap.size := by omega
  have E2 := Lib.hid (B1.trans (hb2.mono (by omega)))
  clear hb2 B1 z1 a0 a1 a2 a3 p0 p1 p2 p3 r0 r1 r2 r3 fp0 fp1 fp2 fp3 fr0 fr1 fr2 fr3
  go_wp2_with fail
  exact bodyPost_ret (v := .agg #[.string v.f0, .string v.f1, .int .i64 v.f2, .int .i64 v.f3]) (by simp [results, Try.results49, go_sem, *]) rfl ⟨rfl, ((((((((E2.out.setCell (p := ⟨w.heap.size + 1 + 1, 0, none⟩) (by simp <;> omega) _).setCell (p := ⟨w.heap.size + 1 + 1, 1, none⟩) (by simp <;> omega) _).setCell (p := ⟨w.heap.size + 1 + 1, 2, none⟩) (by simp <;> omega) _).setCell (p := ⟨w.heap.size + 1 + 1, 3, none⟩) (by simp <;> omega) _).setCell (p := ⟨w.heap.size + 1, 0, none⟩) (by simp <;> omega) _).setCell (p := ⟨w.heap.size + 1, 1, none⟩) (by simp <;> omega) _).setCell (p := ⟨w.heap.size + 1, 2, none⟩) (by simp <;> omega) _).setCell (p := ⟨w.heap.size + 1, 3, none⟩) (by simp <;> omega) _)⟩

def ToKnowns (vs : List KnownD) (w : World) (e : Ending) (w' : World) : Prop :=
  e = .returned (.slice (some ⟨w.heap.size, 0, none⟩) vs.length vs.length) ∧ KnownsIn w' (some ⟨w.heap.size, 0, none⟩) vs ∧ Free w' (some ⟨w.heap.size, 0, none⟩) (vs.length * 4) ∧ Below w.heap.size w w' ∧ w.heap.size < w'.heap.size

set_option maxHeartbeats 2000000 in
theorem toKnownS_any (a : Option Addr) (vs : List KnownD) (cap : Nat) (w : World) (hv : KnownsIn w a vs) (hn : vs.length ≤ 1048576) :
    Calls Try.prog 31 #[.slice a vs.length cap] w (ToKnowns vs w) := by
  have HV := Lib.hid hv
  clear hv
  have hmk := run_makeKnown vs.length hn
  go_enter Try.func31, Try.ntmps31
  go_wp2_with fail
  go_loopw [4] (fun i wr => ∃ k : Nat, k ≤ vs.length ∧ i = .int .i64 k ∧ Below w.heap.size w wr ∧ Row w.heap.size (vs.length * 4) wr ∧ KnownRow w.heap.size vs k wr) (fun i _ => vs.length - (intOf i).toNat)
  case atStart => exact ⟨0, Nat.zero_le _, rfl, (Below.refl _ _).alloc (Nat.le_refl _) _, Row.made _ _ _ w, fun _ _ h => absurd h (by omega)⟩
  case round =>
    obtain ⟨k, hk, rfl, hB, hR, hP⟩ := hrel
    have HW := Lib.hid hB
    have HR := Lib.hid hR
    have HP := Lib.hid hP
    clear hB hR hP hmk
    by_cases hlt : k < vs.length
    · rcases HV.out.below HW.out with hnil | ⟨b1, o1, rfl, hb1, hc1⟩
      · rw [hnil] at hlt; simp at hlt
      obtain ⟨c0, c1, c2, c3⟩ := hc1 k hlt
      clear hc1
      go_wp2_with fail
      with_reducible refine (toKnown_any vs[k] _).mono ?_
      rintro e w2 ⟨rfl, hw2⟩
      have HR2 := Lib.hid (HR.out.below hw2)
      have HP2 := Lib.hid (HP.out.below HR.out.1 hw2)
      have HW2 := Lib.hid (HW.out.trans (hw2.mono HW.out.size))
      obtain ⟨v0, d0⟩ := (HR2.out.2 (k * 4) (by omega)).1
      obtain ⟨v1, d1⟩ := (HR2.out.2 (k * 4 + 1) (by omega)).1
      obtain ⟨v2, d2⟩ := (HR2.out.2 (k * 4 + 2) (by omega)).1
      obtain ⟨v3, d3⟩ := (HR2.out.2 (k * 4 + 3) (by omega)).1
      have f0 := (HR2.out.2 (k * 4) (by omega)).2
      have f1 := (HR2.out.2 (k * 4 + 1) (by omega)).2
      have f2 := (HR2.out.2 (k * 4 + 2) (by omega)).2
      have f3 := (HR2.out.2 (k * 4 + 3) (by omega)).2
      clear hw2 c0 c1 c2 c3
      go_wp2_with fail
      go_roundw
      case rel => exact ⟨k + 1, by omega, by go_num, (((HW2.out.setCell (p := ⟨w.heap.size, k * 4, none⟩) (Nat.le_refl _) _).setCell (p := ⟨w.heap.size, k * 4 + 1, none⟩) (Nat.le_refl _) _).setCell (p := ⟨w.heap.size, k * 4 + 2, none⟩) (Nat.le_refl _) _).setCell (p := ⟨w.heap.size, k * 4 + 3, none⟩) (Nat.le_refl _) _, ((((HR2.out.set).set).set).set), HP2.out.step HR2.out hlt⟩
      case measure => simp [intOf]; omega
    · go_wp2_with fail
      go_ret
      obtain rfl : k = vs.length := by omega
      refine ⟨rfl, .inr ⟨w.heap.size, 0, rfl, HR.out.1, fun i hi => ?_⟩, .inr ⟨w.heap.size, 0, rfl, HR.out.1, fun i hi => ?_⟩, HW.out, HR.out.1⟩
      · have := HP.out i hi hi
        simpa using this
      · have := HR.out.2 i hi
        simpa using this

def Knownmarks (k n : Nat) : List KnownD := (List.range n).map fun i => ⟨mtext (k + i * 4), mtext (k + i * 4 + 1), (((k + i * 4 + 2 : Nat)) : Int), (((k + i * 4 + 3 : Nat)) : Int)⟩
theorem Knownmarks_length (k n : Nat) : (Knownmarks k n).length = n := by simp [Knownmarks]
theorem Knownmarks_at (k n i : Nat) (h : i < (Knownmarks k n).length) : (Knownmarks k n)[i] = ⟨mtext (k + i * 4), mtext (k + i * 4 + 1), (((k + i * 4 + 2 : Nat)) : Int), (((k + i * 4 + 3 : Nat)) : Int)⟩ := by simp [Knownmarks]

def MarkedKnowns (S : Nat → Prop) (a : Option Addr) (k n : Nat) (w : World) (e : Ending) (w' : World) : Prop :=
  e = .returned (.int .i64 ((k + n * 4 : Nat) : Int)) ∧ KnownsIn w' a (Knownmarks k n) ∧ Free w' a (n * 4) ∧ Turned S w w'
end Go.Proofs.Ythjikcfpoomioaa
