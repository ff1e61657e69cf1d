/- Drawing: a number of a list. -/
import Derived.Test.YtjijichgoodocaaVm
import Derived.Test.YtjijichgoodocaaVmTo
import Derived.WalkKit
import Derived.ProofKit
import Derived.OpenShut
import Derived.ShutString
import Derived.Lib.SmallJoins
import Derived.Deep.Slices
import Derived.Deep.Fields
import Derived.ChangeSame
import Derived.Test.YtjijichgoodocaaMkVer
import Derived.Deep.RegionHeld3
import Derived.Lib.QuietBelow
namespace Go.Proofs.Ytjijichgoodocaa
open Go.RowKit

def SomeInt (P : Int → Prop) (rb p : Nat) (w : World) (e : Ending) (w' : World) : Prop := ∃ s : Int, P s ∧ e = .returned (.int .i64 s) ∧ RdAt rb p w' ∧ Only rb w w'

set_option maxHeartbeats 1000000 in
theorem one_any (P : Int → Prop) (rb p lb L : Nat) (w : World) (h : RdAt rb p w) (hp : p < 1000000) (hne : lb ≠ rb) (hlb : lb < w.heap.size) (hL : 1 ≤ L) (hL2 : L ≤ 1000)
    (hc : ∀ i, i < L → ∃ s : Int, w.cell? ⟨lb, i, none⟩ = some (.int .i64 s) ∧ P s) :
    Calls Try.prog 73 #[.pointer (some ⟨rb, 0, none⟩), .slice (some ⟨lb, 0, none⟩) L L] w (SomeInt P rb (p + 1) w) := by
  have HC := Lib.hid hc
  clear hc
  have H := Lib.hid h
  clear h
  go_enter Try.func73, Try.ntmps73
  go_wp2_with fail
  refine (pick_any rb p (L : Int) _ H.out hp (by omega) (by omega)).mono ?_
  rintro e w1 ⟨n, hn0, hn1, rfl, hr, ho⟩
  obtain ⟨k, rfl⟩ := Int.eq_ofNat_of_zero_le hn0
  obtain ⟨s, hs, hsz⟩ := HC.out k (by omega)
  have hs1 : w1.cell? ⟨lb, k, none⟩ = some (.int .i64 s) := (ho.cell (p := ⟨lb, k, none⟩) hlb hne).trans hs
  have hk : k < L := by omega
  have HR := Lib.hid hr
  have HO := Lib.hid ho
  clear hr ho hs
  go_wp2_with fail
  go_ret
  exact ⟨s, hsz, rfl, HR.out, HO.out⟩
end Go.Proofs.Ytjijichgoodocaa

/- An argument that is a map: what it holds, as the walks read it. -/
namespace Go.Proofs.Ytjijichgoodocaa
open Go.ChangeShapes Go.WideShapes Go.ChangeAt Go.RowKit Go.Joins Go.Deep

theorem own : ownKnob Try.prog.godebug = none := by kernel_rfl
theorem laidOut : laidOutB Try.prog = true := by kernel_rfl

section
variable {H : Type} {enc : TypeId × Value → H} {P : Program} {w : World} {base : Nat} {spare : Nat → Bool} {held : Bool}
theorem at_cells {a : Addr} {k n : Nat} {cs : List Value} (h : w.cells? base (a.add k) n = some cs) : cs.length = n ∧ ∀ j (hj : j < cs.length), w.cell? (a.add (k + j)) = some cs[j] := by
  obtain ⟨_, hcl, hat⟩ := World.cells?_some h
  refine ⟨hcl, fun j hj => ?_⟩
  have := hat j (by omega)
  rw [Go.Deep.add_add] at this
  rw [this]
  exact List.getElem?_eq_getElem hj
theorem plain_at {a : Addr} {v : Value} (h : w.cell? (a.add 0) = some v) : ∃ b off, a = ⟨b, off, none⟩ ∧ b < w.heap.size := by
  obtain ⟨b, off, spot⟩ := a
  have hspot : spot = none := by simpa [Addr.add] using World.cell?_spot h
  subst hspot
  have := World.block_lt_of_cell? w _ h
  exact ⟨b, off, rfl, by simpa [Addr.add] using this⟩
theorem struct_cells2 {fuel : Nat} {t : TypeId} {f0 f1 : Field} {cs : List Value} {x : DataW H × List MemPlace} (hs : P.underlying t = some (.struct #[f0, f1])) (hone : oneCellFields P #[f0, f1] = true) (hC : P.cellsOf t = 2) (h : DataW.trod enc P w base spare held fuel t cs = some x) :
    ∃ v0 v1 y0 y1 n, cs = [v0, v1] ∧ DataW.trod enc P w base spare held n f0.type [v0] = some y0 ∧ DataW.trod enc P w base spare held n f1.type [v1] = some y1 := by
  obtain ⟨y0, y1, n, _, hl, h0, h1⟩ := trod_struct2 hs h
  obtain ⟨o0, k0⟩ := hone_of hone 0 f0 rfl
  obtain ⟨o1, k1⟩ := hone_of hone 1 f1 rfl
  rw [hC] at hl
  match cs, hl with
  | [v0, v1], _ => exact ⟨v0, v1, y0, y1, n, rfl, by simpa [o0, k0] using h0, by simpa [o1, k1] using h1⟩
theorem struct_cells3 {fuel : Nat} {t : TypeId} {f0 f1 f2 : Field} {cs : List Value} {x : DataW H × List MemPlace} (hs : P.underlying t = some (.struct #[f0, f1, f2])) (hone : oneCellFields P #[f0, f1, f2] = true) (hC : P.cellsOf t = 3) (h : DataW.trod enc P w base spare held fuel t cs = some x) :
    ∃ v0 v1 v2 y0 y1 y2 n, cs = [v0, v1, v2] ∧ DataW.trod enc P w base spare held n f0.type [v0] = some y0 ∧ DataW.trod enc P w base spare held n f1.type [v1] = some y1 ∧ DataW.trod enc P w base spare held n f2.type [v2] = some y2 := by
  obtain ⟨y0, y1, y2, n, _, hl, h0, h1, h2⟩ := trod_struct3 hs h
  obtain ⟨o0, k0⟩ := hone_of hone 0 f0 rfl
  obtain ⟨o1, k1⟩ := hone_of hone 1 f1 rfl
  obtain ⟨o2, k2⟩ := hone_of hone 2 f2 rfl
  rw [hC] at hl
  match cs, hl with
  | [v0, v1, v2], _ => exact ⟨v0, v1, v2, y0, y1, y2, n, rfl, by simpa [o0, k0] using h0, by simpa [o1, k1] using h1, by simpa [o2, k2] using h2⟩
end

theorem cellsLVer : Try.prog.cellsOf 104 = 3 := by kernel_rfl
theorem cellsLObj : Try.prog.cellsOf 207 = 2 := by kernel_rfl
theorem cellsLVmap : Try.prog.cellsOf 103 = 1 := by kernel_rfl

set_option maxRecDepth 100000 in
theorem open_ver {H : Type} {enc : TypeId × Value → H} {W : World} {fuel : Nat} {cs : List Value} {x : DataW H × List MemPlace} (h : DataW.trod enc Try.prog W 0 (fun _ => true) true fuel 104 cs = some x) :
    ∃ v : VerD, cs = [.int .i64 v.id, .string v.text, .bool v.gone] ∧ v.text.size ≤ maxLen := by
  obtain ⟨v0, v1, v2, y0, y1, y2, n, rfl, h0, h1, h2⟩ := struct_cells3 Try.underlying104 (by kernel_rfl) cellsLVer h
  obtain ⟨z, e0, rfl, wz⟩ := DataW.trod_int Try.underlying3 h0
  obtain ⟨b, e1, rfl, wb⟩ := DataW.trod_string Try.underlying9 h1
  obtain ⟨g, e2, rfl⟩ := DataW.trod_bool Try.underlying4 h2
  simp at e0 e1 e2
  subst e0 e1 e2
  exact ⟨⟨z, b, g⟩, rfl, wb⟩

set_option maxRecDepth 100000 in
theorem open_vers {H : Type} {enc : TypeId × Value → H} {W : World} {fuel : Nat} {cs : List Value} {x : DataW H × List MemPlace} (h : DataW.trod enc Try.prog W 0 (fun _ => true) true fuel 205 cs = some x) :
    ∃ (a : Option Addr) (vs : List VerD) (cap : Nat), cs = [.slice a vs.length cap] ∧ VersIn W a vs ∧ vs.length ≤ maxLen ∧ ∀ v ∈ vs, v.text.size ≤ maxLen := by
  rcases open_slice Try.underlying205 h with ⟨rfl, _⟩ | ⟨a, len, cap, m, n, D, Pl, rfl, _, hl, hm, hmm, _, hi⟩
  · exact ⟨none, [], 0, rfl, .inl rfl, by simp, by simp⟩
  · simp at hmm
    subst hmm
    have hv : ∀ i : Fin len, ∃ v : VerD, v.text.size ≤ maxLen ∧ W.cell? (a.add (i * 3)) = some (.int .i64 v.id) ∧ W.cell? (a.add (i * 3 + 1)) = some (.string v.text) ∧ W.cell? (a.add (i * 3 + 2)) = some (.bool v.gone) := by
      intro i
      obtain ⟨cs', hc, ht⟩ := hi i.1 (by omega)
      rw [cellsLVer] at hc
      obtain ⟨v, rfl, hx⟩ := open_ver ht
      obtain ⟨_, hat⟩ := at_cells hc
      exact ⟨v, hx, by simpa using hat 0 (by simp), by simpa using hat 1 (by simp), by simpa using hat 2 (by simp)⟩
    obtain ⟨f, hf⟩ := Classical.axiomOfChoice hv
    have hvl : (List.ofFn f).length = len := by simp
    refine ⟨some a, List.ofFn f, _, by rw [hvl], ?_, by omega, fun v hv' => ?_⟩
    · by_cases h0 : len = 0
      · exact .inl (List.eq_nil_of_length_eq_zero (by omega))
      · have hp := (hf ⟨0, by omega⟩).2.1
        obtain ⟨b, off, rfl, hb⟩ := plain_at (by simpa using hp)
        refine .inr ⟨b, off, rfl, hb, fun i hi' => ?_⟩
        have hi2 : i < len := by omega
        have := hf ⟨i, hi2⟩
        simp only [add_plain, ← Nat.add_assoc] at this
        simp only [List.getElem_ofFn]
        exact ⟨this.2.1, this.2.2.1, this.2.2.2⟩
    · obtain ⟨i, hi', rfl⟩ := List.getElem_of_mem hv'
      have hi2 : i < len := by omega
      simp only [List.getElem_ofFn]
      exact (hf ⟨i, hi2⟩).1

set_option maxRecDepth 100000 in
theorem open_obj {H : Type} {enc : TypeId × Value → H} {W : World} {fuel : Nat} {cs : List Value} {x : DataW H × List MemPlace} (h : DataW.trod enc Try.prog W 0 (fun _ => true) true fuel 207 cs = some x) :
    ∃ o : ObjD, cs = [.string o.key, .slice o.at_ o.vers.length o.cap] ∧ VersIn W o.at_ o.vers ∧ o.fits := by
  obtain ⟨v0, v1, y0, y1, n, rfl, h0, h1⟩ := struct_cells2 Try.underlying207 (by kernel_rfl) cellsLObj h
  obtain ⟨b, e0, rfl, wb⟩ := DataW.trod_string Try.underlying9 h0
  obtain ⟨a, vs, cap, e1, hv, hl, ht⟩ := open_vers h1
  simp at e0 e1
  subst e0 e1
  exact ⟨⟨b, a, cap, vs⟩, rfl, hv, wb, hl, ht⟩

set_option maxRecDepth 100000 in
theorem open_objs {H : Type} {enc : TypeId × Value → H} {W : World} {fuel : Nat} {cs : List Value} {x : DataW H × List MemPlace} (h : DataW.trod enc Try.prog W 0 (fun _ => true) true fuel 101 cs = some x) :
    ∃ (a : Option Addr) (os : List ObjD) (cap : Nat), cs = [.slice a os.length cap] ∧ ObjsIn W a os ∧ os.length ≤ maxLen ∧ ∀ o ∈ os, o.fits := by
  rcases open_slice Try.underlying101 h with ⟨rfl, _⟩ | ⟨a, len, cap, m, n, D, Pl, rfl, _, hl, hm, hmm, _, hi⟩
  · exact ⟨none, [], 0, rfl, .inl rfl, by simp, by simp⟩
  · simp at hmm
    subst hmm
    have hv : ∀ i : Fin len, ∃ o : ObjD, o.fits ∧ W.cell? (a.add (i * 2)) = some (.string o.key) ∧ W.cell? (a.add (i * 2 + 1)) = some (.slice o.at_ o.vers.length o.cap) ∧ VersIn W o.at_ o.vers := by
      intro i
      obtain ⟨cs', hc, ht⟩ := hi i.1 (by omega)
      rw [cellsLObj] at hc
      obtain ⟨o, rfl, hx, hf⟩ := open_obj ht
      obtain ⟨_, hat⟩ := at_cells hc
      exact ⟨o, hf, by simpa using hat 0 (by simp), by simpa using hat 1 (by simp), hx⟩
    obtain ⟨f, hf⟩ := Classical.axiomOfChoice hv
    have hvl : (List.ofFn f).length = len := by simp
    refine ⟨some a, List.ofFn f, _, by rw [hvl], ?_, by omega, fun v hv' => ?_⟩
    · by_cases h0 : len = 0
      · exact .inl (List.eq_nil_of_length_eq_zero (by omega))
      · have hp := (hf ⟨0, by omega⟩).2.1
        obtain ⟨b, off, rfl, hb⟩ := plain_at (by simpa using hp)
        refine .inr ⟨b, off, rfl, hb, fun i hi' => ?_⟩
        have hi2 : i < len := by omega
        have := hf ⟨i, hi2⟩
        simp only [add_plain, ← Nat.add_assoc] at this
        simp only [List.getElem_ofFn]
        exact ⟨this.2.1, this.2.2.1, this.2.2.2⟩
    · obtain ⟨i, hi', rfl⟩ := List.getElem_of_mem hv'
      have hi2 : i < len := by omega
      simp only [List.getElem_ofFn]
      exact (hf ⟨i, hi2⟩).1

set_option maxRecDepth 100000 in
theorem open_vmap {H : Type} {enc : TypeId × Value → H} {W : World} {base : Nat} {v : Value} {d : DataW H} {p : List MemPlace}
    (hv : Value.okWide Try.prog W .any base 103 v) (h : DataW.Trod enc Try.prog W 0 (fun _ => true) true 103 v d p) :
    ∃ (a : Option Addr) (os : List ObjD) (cap : Nat), v = .agg #[.slice a os.length cap] ∧ ObjsIn W a os ∧ os.length ≤ maxLen ∧ ∀ o ∈ os, o.fits := by
  obtain ⟨cs, rfl, hsz⟩ := okWide_struct Try.underlying103 hv
  obtain ⟨l⟩ := cs
  obtain ⟨fuel, hf⟩ := h
  obtain ⟨xs, n, _, hx, _, hlen, hg⟩ := DataW.trod_struct Try.underlying103 hf
  match l, hsz.trans cellsLVmap with
  | [c0], _ =>
    have h0 := hg 0 _ rfl
    have hk : Try.prog.cellsOf 101 = 1 := by kernel_rfl
    match xs, hlen with
    | [y0], _ =>
      simp [Value.cells, hk] at h0
      obtain ⟨a, os, cap, e, h1, h2, h3⟩ := open_objs (x := y0) h0
      simp at e
      subst e
      exact ⟨a, os, cap, rfl, h1, h2, h3⟩
end Go.Proofs.Ytjijichgoodocaa

/- Slices of Row: how they lie in memory; their sizes, equality, copies, marks, and what an argument holds. -/
namespace Go.Proofs.Ytjijichgoodocaa
open Go.RowKit Go.ChangeShapes Go.WideShapes Go.ChangeAt Go.Joins Go.Deep

structure RowD where
  f0 : ByteArray
  f1 : Int
def RowD.size (v : RowD) : Nat := v.f0.size
def RowD.fits (v : RowD) : Prop := v.f0.size ≤ maxLen

/-- A slice, as it reads in u. -/
def RowsIn (u : World) (a : Option Addr) (vs : List RowD) : Prop :=
  vs = [] ∨ ∃ b off, a = some ⟨b, off, none⟩ ∧ b < u.heap.size ∧ ∀ i (h : i < vs.length), u.cell? ⟨b, off + i * 2, none⟩ = some (.string vs[i].f0) ∧ u.cell? ⟨b, off + i * 2 + 1, none⟩ = some (.int .i64 vs[i].f1)
theorem RowsIn.below {u v : World} {a : Option Addr} {vs : List RowD} (h : RowsIn u a vs) (hb : Below u.heap.size u v) : RowsIn v a vs := by
  rcases h with h | ⟨b, off, e, hlt, hc⟩
  · exact .inl h
  · refine .inr ⟨b, off, e, Nat.lt_of_lt_of_le hlt hb.size, fun i hi => ?_⟩
    rw [hb.cell (p := ⟨b, off + i * 2, none⟩) hlt, hb.cell (p := ⟨b, off + i * 2 + 1, none⟩) hlt]
    exact hc i hi
theorem RowsIn.turned {S : Nat → Prop} {u v : World} {a : Option Addr} {vs : List RowD} (h : RowsIn u a vs) (ho : OffS S a) (ht : Turned S u v) : RowsIn v a vs := by
  rcases h with h | ⟨b, off, e, hlt, hc⟩
  · exact .inl h
  · refine .inr ⟨b, off, e, Nat.lt_of_lt_of_le hlt ht.size, fun i hi => ?_⟩
    rw [ht.cell (p := ⟨b, off + i * 2, none⟩) hlt (ho b off e), ht.cell (p := ⟨b, off + i * 2 + 1, none⟩) hlt (ho b off e)]
    exact hc i hi
theorem RowsIn.set {u : World} {b g o : Nat} {x : Value} {vs : List RowD} (h : RowsIn u (some ⟨b, 0, none⟩) vs) (hg : g ≠ b) : RowsIn (u.setCell ⟨g, o, none⟩ x) (some ⟨b, 0, none⟩) vs :=
  h.turned (S := fun k => k = g) (fun b' off e k => hg (by cases e; exact k.symm)) ((Turned.refl (fun k => k = g) u).setCell (p := ⟨g, o, none⟩) rfl x)

def RowTo (vs : List RowD) (k : Nat) : Nat := ((vs.take k).map RowD.size).sum
theorem RowTo_zero (vs : List RowD) : RowTo vs 0 = 0 := by simp [RowTo]
theorem RowTo_succ (vs : List RowD) (k : Nat) (h : k < vs.length) : RowTo vs (k + 1) = RowTo vs k + vs[k].size := by
  unfold RowTo
  rw [List.take_succ_eq_append_getElem h, List.map_append, List.sum_append]
  simp
def RowsSize (vs : List RowD) : Nat := vs.length + RowTo vs vs.length
theorem RowsSize_len (vs : List RowD) : vs.length ≤ RowsSize vs := Nat.le_add_right _ _

theorem infoRow : (Try.prog.info? 98).map (fun i => (i.zero, i.size, i.bytes)) = some (some (.agg #[.string ⟨#[]⟩, .int .i64 0]), 2, 24) := by kernel_rfl
theorem run_makeRow (n : Nat) (hn : n ≤ 1048576) (w : World) :
    (Instr.makeSlice 88 (.int .i64 (n : Int)) (.int .i64 (n : Int))).run Try.prog w = .ok (.slice (some ⟨w.heap.size, 0, none⟩) n n) (w.alloc (.cells (madeCells #[.string ⟨#[]⟩, .int .i64 0] (n * 2)) 98)) := by
  obtain ⟨i, hi, hzz⟩ := Option.map_eq_some_iff.1 infoRow
  simp only [Prod.mk.injEq] at hzz
  obtain ⟨hz, hs, hb⟩ := hzz
  have := run_make (w := w) (P := Try.prog) 88 98 i _ Try.underlying88 hi hz .i64 .i64 (n : Int) (n : Int) (by omega) (Int.le_refl _) (by rw [hb]; omega) (by omega)
  rw [hs] at this
  simpa [Value.cells] using this
/-- The first k have been copied into block g. -/
def RowRow (g : Nat) (vs : List RowD) (k : Nat) (u : World) : Prop :=
  ∀ i (h : i < vs.length), i < k → u.cell? ⟨g, i * 2, none⟩ = some (.string vs[i].f0) ∧ u.cell? ⟨g, i * 2 + 1, none⟩ = some (.int .i64 vs[i].f1)
theorem RowRow.below {g : Nat} {vs : List RowD} {k : Nat} {u v : World} (h : RowRow g vs k u) (hg : g < u.heap.size) (hb : Below u.heap.size u v) : RowRow g vs k v := fun i hi hk => by
  rw [hb.cell (p := ⟨g, i * 2, none⟩) hg, hb.cell (p := ⟨g, i * 2 + 1, none⟩) hg]
  exact h i hi hk
theorem RowRow.step {g : Nat} {vs : List RowD} {k : Nat} {u : World} (h : RowRow g vs k u) (hr : Row g (vs.length * 2) u) (hk : k < vs.length) :
    RowRow g vs (k + 1) ((u.setCell ⟨g, k * 2, none⟩ (.string vs[k].f0)).setCell ⟨g, k * 2 + 1, none⟩ (.int .i64 vs[k].f1)) := by
  intro i hi hik
  by_cases e : i = k
  · subst e
    obtain ⟨v0, h0⟩ := (hr.2 (i * 2) (by omega)).1
    obtain ⟨v1, h1⟩ := (hr.2 (i * 2 + 1) (by omega)).1
    refine ⟨?_, ?_⟩
    · rw [cell_off (by omega)]; exact World.cell?_setCell_same _ _ _ (u := v0) h0
    · exact World.cell?_setCell_same _ _ _ (u := v1) (by rw [cell_off (by omega)]; exact h1)
  · obtain ⟨c0, c1⟩ := h i hi (by omega)
    refine ⟨?_, ?_⟩
    · rw [cell_off (by omega), cell_off (by omega)]; exact c0
    · rw [cell_off (by omega), cell_off (by omega)]; exact c1

def ToRows (vs : List RowD) (w : World) (e : Ending) (w' : World) : Prop :=
  e = .returned (.slice (some ⟨w.heap.size, 0, none⟩) vs.length vs.length) ∧ RowsIn w' (some ⟨w.heap.size, 0, none⟩) vs ∧ Free w' (some ⟨w.heap.size, 0, none⟩) (vs.length * 2) ∧ Below w.heap.size w w' ∧ w.heap.size < w'.heap.size

def Rowmarks (k n : Nat) : List RowD := (List.range n).map fun i => ⟨mtext (k + i * 2), (((k + i * 2 + 1 : Nat)) : Int)⟩
theorem Rowmarks_length (k n : Nat) : (Rowmarks k n).length = n := by simp [Rowmarks]
theorem Rowmarks_at (k n i : Nat) (h : i < (Rowmarks k n).length) : (Rowmarks k n)[i] = ⟨mtext (k + i * 2), (((k + i * 2 + 1 : Nat)) : Int)⟩ := by simp [Rowmarks]

def MarkedRows (S : Nat → Prop) (a : Option Addr) (k n : Nat) (w : World) (e : Ending) (w' : World) : Prop :=
  e = .returned (.int .i64 ((k + n * 2 : Nat) : Int)) ∧ RowsIn w' a (Rowmarks k n) ∧ Free w' a (n * 2) ∧ Turned S w w'
end Go.Proofs.Ytjijichgoodocaa

/- Slices of Row: their marks. -/
namespace Go.Proofs.Ytjijichgoodocaa
open Go.RowKit

def Rowmf (k i : Nat) : Value := if i % 2 = 0 then .string (mtext (k + i)) else .int .i64 ((k + i : Nat) : Int)

theorem Rowmf_0 (k i : Nat) : Rowmf k (i * 2) = .string (mtext (k + i * 2)) := by
  unfold Rowmf
  simp only [show (i * 2) % 2 = 0 by omega, if_true, if_false, Nat.reduceEqDiff, Nat.add_assoc]
theorem Rowmf_1 (k i : Nat) : Rowmf k (i * 2 + 1) = .int .i64 ((k + i * 2 + 1 : Nat) : Int) := by
  unfold Rowmf
  simp only [show (i * 2 + 1) % 2 = 1 by omega, if_true, if_false, Nat.reduceEqDiff, Nat.add_assoc]
theorem RowsIn.of_marks {S : Nat → Prop} {w u : World} {b off n k : Nat} (h : MkSt (Rowmf k) S w b off (n * 2) (n * 2) u) : RowsIn u (some ⟨b, off, none⟩) (Rowmarks k n) := by
  refine .inr ⟨b, off, rfl, h.lt, fun i hi => ?_⟩
  have hi' : i < n := by rw [Rowmarks_length] at hi; exact hi
  simp only [Rowmarks_at]
  have h0 := h.done (i * 2) (by omega)
  rw [Rowmf_0] at h0
  have h1 := h.done (i * 2 + 1) (by omega)
  rw [Rowmf_1] at h1
  simp only [← Nat.add_assoc] at h0 h1 ⊢
  exact ⟨h0, h1⟩
end Go.Proofs.Ytjijichgoodocaa

/- Maps of parts: their sizes, copies, equality and marks. -/
namespace Go.Proofs.Ytjijichgoodocaa
open Go.RowKit

def ToPm (ep : Int) (vs : List RowD) (w : World) (e : Ending) (w' : World) : Prop :=
  ∃ g, w.heap.size ≤ g ∧ e = .returned (.agg #[.int .i64 ep, .slice (some ⟨g, 0, none⟩) vs.length vs.length]) ∧ RowsIn w' (some ⟨g, 0, none⟩) vs ∧ Free w' (some ⟨g, 0, none⟩) (vs.length * 2) ∧ Below w.heap.size w w' ∧ g < w'.heap.size

theorem Free.set' {u : World} {b g o n : Nat} {x : Value} (h : Free u (some ⟨b, 0, none⟩) n) (hg : g ≠ b) : Free (u.setCell ⟨g, o, none⟩ x) (some ⟨b, 0, none⟩) n :=
  h.turned (S := fun k => k = g) (fun b' off e k => hg (by cases e; exact k.symm)) ((Turned.refl (fun k => k = g) u).setCell (p := ⟨g, o, none⟩) rfl x)
end Go.Proofs.Ytjijichgoodocaa

/- Maps of parts in memory that belong to a call: where they lie, copies, equality, marks. -/
namespace Go.Proofs.Ytjijichgoodocaa
open Go.RowKit

structure PmAt (w : World) (lo hi : Nat) (a : Option Addr) (vs : List RowD) : Prop where
  in1 : RowsIn w a vs
  fr1 : Free w a (vs.length * 2)
  l1 : Lies lo hi a
  le : hi ≤ w.heap.size
theorem PmAt.below {w w' : World} {lo hi : Nat} {a : Option Addr} {vs : List RowD} (h : PmAt w lo hi a vs) (hb : Below w.heap.size w w') : PmAt w' lo hi a vs := ⟨h.in1.below hb, h.fr1.below hb, h.l1, Nat.le_trans h.le hb.size⟩
theorem PmAt.turned {S : Nat → Prop} {w w' : World} {lo hi : Nat} {a : Option Addr} {vs : List RowD} (h : PmAt w lo hi a vs) (hS : ∀ b, lo ≤ b → b < hi → ¬ S b) (ht : Turned S w w') : PmAt w' lo hi a vs :=
  ⟨h.in1.turned (h.l1.off hS) ht, h.fr1.turned (h.l1.off hS) ht, h.l1, Nat.le_trans h.le ht.size⟩

theorem PmAt.drewAt {w : World} {lo hi : Nat} {a : Option Addr} {vs : List RowD} (h : PmAt w lo hi a vs) : PmAt w.drew lo hi a vs := ⟨h.in1, h.fr1, h.l1, h.le⟩

def PmOut (ep : Int) (vs : List RowD) (w : World) (e : Ending) (w' : World) : Prop :=
  ∃ a c, e = .returned (.agg #[.int .i64 ep, .slice a vs.length c]) ∧ PmAt w' w.heap.size w'.heap.size a vs ∧ Below w.heap.size w w' ∧ vs.length ≤ c ∧ c ≤ maxLen
/-- .. beside a bool. -/
def PmOutB (ep : Int) (vs : List RowD) (b : Bool) (w : World) (e : Ending) (w' : World) : Prop :=
  ∃ a c, e = .returned (.tuple #[.agg #[.int .i64 ep, .slice a vs.length c], .bool b]) ∧ PmAt w' w.heap.size w'.heap.size a vs ∧ Below w.heap.size w w'

def PmMarked (lo hi : Nat) (a : Option Addr) (k n : Nat) (w : World) (e : Ending) (w' : World) : Prop :=
  e = .returned (.int .i64 ((k + n * 2 : Nat) : Int)) ∧ PmAt w' lo hi a (Rowmarks k n) ∧ Turned (fun b => lo ≤ b ∧ b < hi) w w'

def rowCells (v : RowD) : List Value := [.string v.f0, .int .i64 v.f1]
theorem own_rows {w : World} {base : Nat} {v : Value} {vs : List RowD} (h : w.ownsRow base 98 2 v vs.length (vs.flatMap rowCells)) :
    ∃ a cap, v = .slice a vs.length cap ∧ RowsIn w a vs ∧ Free w a (vs.length * 2) ∧ Lies base w.heap.size a ∧ vs.length ≤ cap ∧ cap ≤ maxLen := by
  have hcap := h.2
  rcases Joins.ownsRow_forms h with ⟨rfl, h0⟩ | ⟨g, cap, rfl⟩
  · have : vs = [] := List.eq_nil_of_length_eq_zero h0
    subst this
    exact ⟨none, 0, rfl, .inl rfl, .inl rfl, (fun b off e => by cases e), Nat.le_refl _, Nat.zero_le _⟩
  · have hg := h.lt g rfl
    refine ⟨some ⟨g, 0, none⟩, cap, rfl, .inr ⟨g, 0, rfl, hg.2, fun i hi => ?_⟩, own_free h, (fun b off e => by cases e; exact hg), ?_⟩
    case refine_2 =>
      rcases hcap with ⟨e, _⟩ | ⟨g', c', cur, e, _, _, q1, q2, _⟩
      · cases e
      · cases e; exact ⟨q1, q2⟩
    have e0 := h.cellAt (i * 2) (by omega)
    have e1 := h.cellAt (i * 2 + 1) (by omega)
    have f0 := flat_at rowCells 2 (fun _ => rfl) vs i 0 hi (by omega)
    have f1 := flat_at rowCells 2 (fun _ => rfl) vs i 1 hi (by omega)
    rw [Nat.add_zero] at f0
    simp only [Nat.zero_add]
    exact ⟨e0.trans f0, e1.trans f1⟩
/-- The cells of a slice, as an append takes them. -/
theorem rows_news {w : World} {b off : Nat} {vs : List RowD} (hc : ∀ i (h : i < vs.length), w.cell? ⟨b, off + i * 2, none⟩ = some (.string vs[i].f0) ∧ w.cell? ⟨b, off + i * 2 + 1, none⟩ = some (.int .i64 vs[i].f1)) :
    ∀ j u, (vs.flatMap rowCells)[j]? = some u → w.cell? ((⟨b, off, none⟩ : Addr).add j) = some u := fun j u hu => by
  have hadd : (⟨b, off, none⟩ : Addr).add j = ⟨b, off + j, none⟩ := by unfold Addr.add; split <;> simp_all
  have hl := flat_len rowCells 2 (fun _ => rfl) vs
  have hj : j < vs.length * 2 := by
    rcases Nat.lt_or_ge j (vs.length * 2) with h | h
    · exact h
    · rw [List.getElem?_eq_none (by omega)] at hu; cases hu
  have hi : j / 2 < vs.length := by omega
  rw [hadd]
  have hat := flat_at rowCells 2 (fun _ => rfl) vs (j / 2) (j % 2) hi (by omega)
  rw [show j / 2 * 2 + j % 2 = j by omega, hu] at hat
  rcases Nat.mod_two_eq_zero_or_one j with h0 | h0
  · rw [h0] at hat
    have := (hc (j / 2) hi).1
    rw [show off + j / 2 * 2 = off + j by omega] at this
    rw [this]; simpa [rowCells] using hat.symm
  · rw [h0] at hat
    have := (hc (j / 2) hi).2
    rw [show off + j / 2 * 2 + 1 = off + j by omega] at this
    rw [this]; simpa [rowCells] using hat.symm
theorem rows_one (vs : List RowD) : ∀ u ∈ vs.flatMap rowCells, u.oneCell' = true := fun u hu => by
  obtain ⟨v, _, h⟩ := List.mem_flatMap.1 hu
  simp [rowCells] at h
  rcases h with rfl | rfl <;> rfl
end Go.Proofs.Ytjijichgoodocaa
