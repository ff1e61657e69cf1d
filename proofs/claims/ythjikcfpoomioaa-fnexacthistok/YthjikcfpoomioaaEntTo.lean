/- The copies that the laws make of lists of entries; an argument that holds one. -/
import Derived.Test.YthjikcfpoomioaaEnt
import Derived.Test.YthjikcfpoomioaaOpWant
import Derived.Test.YthjikcfpoomioaaOpWrite
namespace Go.Proofs.Ythjikcfpoomioaa
open Go.ChangeShapes Go.WideShapes Go.ChangeAt Go.RowKit Go.Joins Go.Deep

theorem infoEntry : (Try.prog.info? 157).map (fun i => (i.zero, i.size, i.bytes)) = some (some (.agg #[.int .i64 0, .int .i64 0, .slice none 0 0, .slice none 0 0]), 4, 64) := by kernel_rfl
theorem run_makeEntry (n : Nat) (hn : n ≤ 1048576) (w : World) :
    (Instr.makeSlice 79 (.int .i64 (n : Int)) (.int .i64 (n : Int))).run Try.prog w = .ok (.slice (some ⟨w.heap.size, 0, none⟩) n n) (w.alloc (.cells (madeCells #[.int .i64 0, .int .i64 0, .slice none 0 0, .slice none 0 0] (n * 4)) 157)) := by
  obtain ⟨i, hi, hzz⟩ := Option.map_eq_some_iff.1 infoEntry
  simp only [Prod.mk.injEq] at hzz
  obtain ⟨hz, hs, hb⟩ := hzz
  have := run_make (w := w) (P := Try.prog) 79 157 i _ Try.underlying79 hi hz .i64 .i64 (n : Int) (n : Int) (by omega) (Int.le_refl _) (by rw [hb]; omega) (by omega)
  rw [hs] at this
  simpa [Value.cells] using this

/-- Entry i of block g is a copy of e, its lists elsewhere. -/
def CopyE (u : World) (g i : Nat) (e : EntD) : Prop :=
  ∃ a1 a2 k1 k2, u.cell? ⟨g, i * 4, none⟩ = some (.int .i64 e.id) ∧ u.cell? ⟨g, i * 4 + 1, none⟩ = some (.int .i64 e.tid) ∧ u.cell? ⟨g, i * 4 + 2, none⟩ = some (.slice a1 e.ws.length k1) ∧ u.cell? ⟨g, i * 4 + 3, none⟩ = some (.slice a2 e.us.length k2) ∧ WantsIn u a1 e.ws ∧ WritesIn u a2 e.us ∧ OffS (fun k => k = g) a1 ∧ OffS (fun k => k = g) a2
def EntRow (g : Nat) (es : List EntD) (k : Nat) (u : World) : Prop := ∀ i (h : i < es.length), i < k → CopyE u g i es[i]
theorem EntRow.below {g : Nat} {es : List EntD} {k : Nat} {u v : World} (h : EntRow g es k u) (hg : g < u.heap.size) (hb : Below u.heap.size u v) : EntRow g es k v := fun i hi hk => by
  obtain ⟨a1, a2, k1, k2, c0, c1, c2, c3, cv, cu, o1, o2⟩ := h i hi hk
  exact ⟨a1, a2, k1, k2, (hb.cell (p := ⟨g, i * 4, none⟩) hg).trans c0, (hb.cell (p := ⟨g, i * 4 + 1, none⟩) hg).trans c1, (hb.cell (p := ⟨g, i * 4 + 2, none⟩) hg).trans c2, (hb.cell (p := ⟨g, i * 4 + 3, none⟩) hg).trans c3, cv.below hb, cu.below hb, o1, o2⟩
theorem EntRow.step {g : Nat} {es : List EntD} {k : Nat} {u : World} {b1 b2 : Option Addr} {c1 c2 : Nat} (h : EntRow g es k u) (hr : Row g (es.length * 4) u) (hk : k < es.length) (hv : WantsIn u b1 es[k].ws) (hu : WritesIn u b2 es[k].us) (o1 : OffS (fun k => k = g) b1) (o2 : OffS (fun k => k = g) b2) :
    EntRow g es (k + 1) ((((u.setCell ⟨g, k * 4, none⟩ (.int .i64 es[k].id)).setCell ⟨g, k * 4 + 1, none⟩ (.int .i64 es[k].tid)).setCell ⟨g, k * 4 + 2, none⟩ (.slice b1 es[k].ws.length c1)).setCell ⟨g, k * 4 + 3, none⟩ (.slice b2 es[k].us.length c2)) := by
  intro i hi hik
  by_cases e : i = k
  · subst e
    obtain ⟨v0, h0⟩ := (hr.2 (i * 4) (by omega)).1
    obtain ⟨v1, h1⟩ := (hr.2 (i * 4 + 1) (by omega)).1
    obtain ⟨v2, h2⟩ := (hr.2 (i * 4 + 2) (by omega)).1
    obtain ⟨v3, h3⟩ := (hr.2 (i * 4 + 3) (by omega)).1
    refine ⟨b1, b2, c1, c2, ?_, ?_, ?_, ?_, (((hv.setO o1).setO o1).setO o1).setO o1, (((hu.setO o2).setO o2).setO o2).setO o2, o1, o2⟩
    · rw [cell_off (by omega), cell_off (by omega), cell_off (by omega)]; exact World.cell?_setCell_same _ _ _ (u := v0) h0
    · rw [cell_off (by omega), cell_off (by omega)]; exact World.cell?_setCell_same _ _ _ (u := v1) (by rw [cell_off (by omega)]; exact h1)
    · rw [cell_off (by omega)]; exact World.cell?_setCell_same _ _ _ (u := v2) (by rw [cell_off (by omega), cell_off (by omega)]; exact h2)
    · exact World.cell?_setCell_same _ _ _ (u := v3) (by rw [cell_off (by omega), cell_off (by omega), cell_off (by omega)]; exact h3)
  · obtain ⟨a1, a2, k1, k2, x0, x1, x2, x3, cv, cu, p1, p2⟩ := h i hi (by omega)
    refine ⟨a1, a2, k1, k2, ?_, ?_, ?_, ?_, (((cv.setO p1).setO p1).setO p1).setO p1, (((cu.setO p2).setO p2).setO p2).setO p2, p1, p2⟩
    · rw [cell_off (by omega), cell_off (by omega), cell_off (by omega), cell_off (by omega)]; exact x0
    · rw [cell_off (by omega), cell_off (by omega), cell_off (by omega), cell_off (by omega)]; exact x1
    · rw [cell_off (by omega), cell_off (by omega), cell_off (by omega), cell_off (by omega)]; exact x2
    · rw [cell_off (by omega), cell_off (by omega), cell_off (by omega), cell_off (by omega)]; exact x3

def ToEntries (es : List EntD) (w : World) (e : Ending) (w' : World) : Prop :=
  e = .returned (.slice (some ⟨w.heap.size, 0, none⟩) es.length es.length) ∧ EntriesIn w' (some ⟨w.heap.size, 0, none⟩) es ∧ Below w.heap.size w w'

set_option maxHeartbeats 2000000 in
theorem toEntryS_any (a : Option Addr) (es : List EntD) (cap : Nat) (w : World) (hv : EntriesIn w a es) (hn : es.length ≤ 1048576) (hf : ∀ e ∈ es, e.ws.length ≤ 1048576 ∧ e.us.length ≤ 1048576) :
    Calls Try.prog 53 #[.slice a es.length cap] w (ToEntries es w) := by
  have HV := Lib.hid hv
  have HF := Lib.hid hf
  clear hv hf
  have hmk := run_makeEntry es.length hn
  go_enter Try.func53, Try.ntmps53
  go_wp2_with fail
  go_loopw [4] (fun i wr => ∃ k : Nat, k ≤ es.length ∧ i = .int .i64 k ∧ Below w.heap.size w wr ∧ Row w.heap.size (es.length * 4) wr ∧ EntRow w.heap.size es k wr) (fun i _ => es.length - (intOf i).toNat)
  case atStart => exact ⟨0, Nat.zero_le _, rfl, (Below.refl _ _).alloc (Nat.le_refl _) _, Row.made _ _ _ w, fun _ _ h => absurd h (by omega)⟩
  case round =>
    obtain ⟨k, hk, rfl, hB, hR, hP⟩ := hrel
    have HW := Lib.hid hB
    have HR := Lib.hid hR
    have HP := Lib.hid hP
    clear hB hR hP hmk
    by_cases hlt : k < es.length
    · rcases HV.out.below HW.out with hnil | ⟨b1, o1, rfl, hb1, hc1⟩
      · rw [hnil] at hlt; simp at hlt
      obtain ⟨a1, a2, k1, k2, c0, c1, c2, c3, cv, cu⟩ := hc1 k hlt
      have CV := Lib.hid cv
      have CU := Lib.hid cu
      have hff := HF.out _ (List.getElem_mem hlt)
      clear hc1 cv cu
      go_wp2_with fail
      with_reducible refine (toEntry_any es[k] a1 a2 k1 k2 _ CV.out CU.out hff.1 hff.2).mono ?_
      rintro e w2 ⟨p1, p2, x1, x2, rfl, hvs, hus, hoff, hw2⟩
      have HS := Lib.hid hvs
      have HU := Lib.hid hus
      have HO := Lib.hid (hoff _ HR.out.1)
      have HR2 := Lib.hid (HR.out.below hw2)
      have HP2 := Lib.hid (HP.out.below HR.out.1 hw2)
      have HW2 := Lib.hid (HW.out.trans (hw2.mono HW.out.size))
      obtain ⟨v0, d0⟩ := (HR2.out.2 (k * 4) (by omega)).1
      obtain ⟨v1, d1⟩ := (HR2.out.2 (k * 4 + 1) (by omega)).1
      obtain ⟨v2, d2⟩ := (HR2.out.2 (k * 4 + 2) (by omega)).1
      obtain ⟨v3, d3⟩ := (HR2.out.2 (k * 4 + 3) (by omega)).1
      have f0 := (HR2.out.2 (k * 4) (by omega)).2
      have f1 := (HR2.out.2 (k * 4 + 1) (by omega)).2
      have f2 := (HR2.out.2 (k * 4 + 2) (by omega)).2
      have f3 := (HR2.out.2 (k * 4 + 3) (by omega)).2
      clear hvs hus hoff hw2 c0 c1 c2 c3
      go_wp2_with fail
      go_roundw
      case rel => exact ⟨k + 1, by omega, by go_num, (((HW2.out.setCell (p := ⟨w.heap.size, k * 4, none⟩) (Nat.le_refl _) _).setCell (p := ⟨w.heap.size, k * 4 + 1, none⟩) (Nat.le_refl _) _).setCell (p := ⟨w.heap.size, k * 4 + 2, none⟩) (Nat.le_refl _) _).setCell (p := ⟨w.heap.size, k * 4 + 3, none⟩) (Nat.le_refl _) _, (((HR2.out.set).set).set).set, HP2.out.step HR2.out hlt HS.out HU.out HO.out.1 HO.out.2⟩
      case measure => simp [intOf]; omega
    · go_wp2_with fail
      go_ret
      obtain rfl : k = es.length := by omega
      refine ⟨rfl, .inr ⟨w.heap.size, 0, rfl, HR.out.1, fun i hi => ?_⟩, HW.out⟩
      obtain ⟨a1, a2, k1, k2, c0, c1, c2, c3, cv, cu, -, -⟩ := HP.out i hi hi
      exact ⟨a1, a2, k1, k2, by simpa using c0, by simpa using c1, by simpa using c2, by simpa using c3, cv, cu⟩

theorem cellsLTxnE : Try.prog.cellsOf 86 = 3 := by kernel_rfl
theorem cellsLIntE : Try.prog.cellsOf 3 = 1 := by kernel_rfl
theorem cellsLEntry : Try.prog.cellsOf 155 = 4 := by kernel_rfl

set_option maxRecDepth 100000 in
theorem openEntry {H : Type} {enc : TypeId × Value → H} {W : World} {fuel : Nat} {cs : List Value} {x : DataW H × List MemPlace} (h : DataW.trod enc Try.prog W 0 (fun _ => true) true fuel 155 cs = some x) :
    ∃ (e : EntD) (a1 a2 : Option Addr) (k1 k2 : Nat), cs = [.int .i64 e.id, .int .i64 e.tid, .slice a1 e.ws.length k1, .slice a2 e.us.length k2] ∧ WantsIn W a1 e.ws ∧ WritesIn W a2 e.us ∧ e.fits := by
  obtain ⟨y0, y1, n, _, hl, h0, h1⟩ := trod_struct2 Try.underlying155 h
  rw [cellsLEntry] at hl
  simp only [cellsLIntE, cellsLTxnE] at h0 h1 hl
  match cs, hl with
  | [v0, v1, v2, v3], _ =>
    simp at h0 h1
    obtain ⟨u0, u1, u2, x0, x1, x2, m, hcs, k0, k1, k2⟩ := struct_cells3 Try.underlying86 (by kernel_rfl) cellsLTxnE h1
    simp at hcs
    obtain ⟨rfl, rfl, rfl⟩ := hcs
    obtain ⟨z0, e0, _, _⟩ := DataW.trod_int Try.underlying3 h0
    obtain ⟨z1, e1, _, _⟩ := DataW.trod_int Try.underlying3 k0
    obtain ⟨a1, ws, c1, e2, hx1, hl1, ht1⟩ := openWants k1
    obtain ⟨a2, us, c2, e3, hx2, hl2, ht2⟩ := openWrites k2
    simp at e0 e1 e2 e3
    subst e0 e1 e2 e3
    exact ⟨⟨z0, z1, ws, us⟩, a1, a2, c1, c2, rfl, hx1, hx2, hl1, hl2, ht1, ht2⟩

set_option maxRecDepth 100000 in
theorem openEntries {H : Type} {enc : TypeId × Value → H} {W : World} {fuel : Nat} {cs : List Value} {x : DataW H × List MemPlace} (h : DataW.trod enc Try.prog W 0 (fun _ => true) true fuel 76 cs = some x) :
    ∃ (a : Option Addr) (es : List EntD) (cap : Nat), cs = [.slice a es.length cap] ∧ EntriesIn W a es ∧ es.length ≤ maxLen ∧ ∀ e ∈ es, e.fits := by
  rcases open_slice Try.underlying76 h with ⟨rfl, _⟩ | ⟨a, len, cap, m, n, D, Pl, rfl, _, hl, hm, hmm, _, hi⟩
  · exact ⟨none, [], 0, rfl, .inl rfl, by simp, by simp⟩
  · simp at hmm
    subst hmm
    have hv : ∀ i : Fin len, ∃ e : EntD, e.fits ∧ ∃ a1 a2 k1 k2, W.cell? (a.add (i * 4)) = some (.int .i64 e.id) ∧ W.cell? (a.add (i * 4 + 1)) = some (.int .i64 e.tid) ∧ W.cell? (a.add (i * 4 + 2)) = some (.slice a1 e.ws.length k1) ∧ W.cell? (a.add (i * 4 + 3)) = some (.slice a2 e.us.length k2) ∧ WantsIn W a1 e.ws ∧ WritesIn W a2 e.us := by
      intro i
      obtain ⟨cs', hc, ht⟩ := hi i.1 (by omega)
      rw [cellsLEntry] at hc
      obtain ⟨e, a1, a2, k1, k2, rfl, h1, h2, hf⟩ := openEntry ht
      obtain ⟨_, hat⟩ := at_cells hc
      exact ⟨e, hf, a1, a2, k1, k2, by simpa using hat 0 (by simp), by simpa using hat 1 (by simp), by simpa using hat 2 (by simp), by simpa using hat 3 (by simp), h1, h2⟩
    obtain ⟨f, hf⟩ := Classical.axiomOfChoice hv
    have hvl : (List.ofFn f).length = len := by simp
    refine ⟨some a, List.ofFn f, _, by rw [hvl], ?_, by omega, fun v hv' => ?_⟩
    · by_cases h0 : len = 0
      · exact .inl (List.eq_nil_of_length_eq_zero (by omega))
      · obtain ⟨_, _, _, _, hp, _⟩ := (hf ⟨0, by omega⟩).2
        obtain ⟨b, off, rfl, hb⟩ := plain_at (by simpa using hp)
        refine .inr ⟨b, off, rfl, hb, fun i hi' => ?_⟩
        have hi2 : i < len := by omega
        obtain ⟨a1, a2, k1, k2, q⟩ := (hf ⟨i, hi2⟩).2
        simp only [add_plain, ← Nat.add_assoc] at q
        simp only [List.getElem_ofFn]
        exact ⟨a1, a2, k1, k2, q⟩
    · obtain ⟨i, hi', rfl⟩ := List.getElem_of_mem hv'
      have hi2 : i < len := by omega
      simp only [List.getElem_ofFn]
      exact (hf ⟨i, hi2⟩).1

set_option maxRecDepth 100000 in
theorem open_entrys {H : Type} {enc : TypeId × Value → H} {W : World} {base : Nat} {v : Value} {d : DataW H} {p : List MemPlace}
    (hv : Value.okWide Try.prog W .any base 76 v) (h : DataW.Trod enc Try.prog W 0 (fun _ => true) true 76 v d p) :
    ∃ (a : Option Addr) (vs : List EntD) (cap : Nat), v = .slice a vs.length cap ∧ EntriesIn W a vs ∧ vs.length ≤ maxLen ∧ ∀ v ∈ vs, v.fits := by
  obtain ⟨a0, l0, c0, rfl⟩ := okWide_slice Try.underlying76 hv
  obtain ⟨fuel, hf⟩ := h
  obtain ⟨a, vs, cap, e, hx, hl, ht⟩ := openEntries hf
  exact ⟨a, vs, cap, by simpa [Value.cells] using e, hx, hl, ht⟩
end Go.Proofs.Ythjikcfpoomioaa
