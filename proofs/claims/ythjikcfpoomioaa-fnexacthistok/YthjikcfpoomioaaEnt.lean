/- Lists of entries: how they lie in memory; sizes, copies, equality. -/
import Derived.Test.YthjikcfpoomioaaTxAt
import Derived.Test.YthjikcfpoomioaaTx
namespace Go.Proofs.Ythjikcfpoomioaa
open Go.RowKit

structure EntD where
  id : Int
  tid : Int
  ws : List WantD
  us : List WriteD
def EntD.fits (e : EntD) : Prop := e.ws.length ≤ maxLen ∧ e.us.length ≤ maxLen ∧ (∀ v ∈ e.ws, v.fits) ∧ ∀ v ∈ e.us, v.fits
def EntD.size (e : EntD) : Nat := WantsSize e.ws + WritesSize e.us
/-- An entry at o of block b, wherever its lists lie. -/
def EntAt (u : World) (b o : Nat) (e : EntD) : Prop :=
  ∃ a1 a2 k1 k2, u.cell? ⟨b, o, none⟩ = some (.int .i64 e.id) ∧ u.cell? ⟨b, o + 1, none⟩ = some (.int .i64 e.tid) ∧ u.cell? ⟨b, o + 2, none⟩ = some (.slice a1 e.ws.length k1) ∧ u.cell? ⟨b, o + 3, none⟩ = some (.slice a2 e.us.length k2) ∧ WantsIn u a1 e.ws ∧ WritesIn u a2 e.us
theorem EntAt.below {u v : World} {b o : Nat} {e : EntD} (h : EntAt u b o e) (hlt : b < u.heap.size) (hb : Below u.heap.size u v) : EntAt v b o e := by
  obtain ⟨a1, a2, k1, k2, h0, h1, h2, h3, h4, h5⟩ := h
  exact ⟨a1, a2, k1, k2, (hb.cell (p := ⟨b, o, none⟩) hlt).trans h0, (hb.cell (p := ⟨b, o + 1, none⟩) hlt).trans h1, (hb.cell (p := ⟨b, o + 2, none⟩) hlt).trans h2, (hb.cell (p := ⟨b, o + 3, none⟩) hlt).trans h3, h4.below hb, h5.below hb⟩
def EntriesIn (u : World) (a : Option Addr) (es : List EntD) : Prop :=
  es = [] ∨ ∃ b off, a = some ⟨b, off, none⟩ ∧ b < u.heap.size ∧ ∀ i (h : i < es.length), EntAt u b (off + i * 4) es[i]
theorem EntriesIn.below {u v : World} {a : Option Addr} {es : List EntD} (h : EntriesIn u a es) (hb : Below u.heap.size u v) : EntriesIn v a es := by
  rcases h with h | ⟨b, off, e, hlt, hc⟩
  · exact .inl h
  · exact .inr ⟨b, off, e, Nat.lt_of_lt_of_le hlt hb.size, fun i hi => (hc i hi).below hlt hb⟩

set_option maxHeartbeats 1000000 in
theorem szEntry_any (e : EntD) (a1 a2 : Option Addr) (k1 k2 : Nat) (left : Int) (w : World) (hv : WantsIn w a1 e.ws) (hu : WritesIn w a2 e.us) (hf : e.fits) (h0 : 0 ≤ left) (hl : left ≤ 1048576) :
    Calls Try.prog 111 #[.agg #[.int .i64 e.id, .int .i64 e.tid, .slice a1 e.ws.length k1, .slice a2 e.us.length k2], .int .i64 left] w (SzPost left e.size w) := by
  obtain ⟨hn, hm, hf1, hf2⟩ := hf
  have HV := Lib.hid hv
  have HU := Lib.hid hu
  have HF := Lib.hid hf1
  have HG := Lib.hid hf2
  have HN := Lib.hid hn
  have HM := Lib.hid hm
  clear hv hu hf1 hf2 hn hm
  have hb0 : Below w.heap.size w (w.alloc (.cells #[.int .i64 e.id, .int .i64 e.tid, .slice a1 e.ws.length k1, .slice a2 e.us.length k2] 155)) := (Below.refl _ _).alloc (Nat.le_refl _) _
  go_enter Try.func111, Try.ntmps111
  go_wp2_with fail
  refine (szTxn_any e.tid a1 a2 e.ws e.us k1 k2 left _ (HV.out.below hb0) (HU.out.below hb0) HF.out HG.out HN.out HM.out h0 hl).mono ?_
  rintro e1 w2 ⟨z2, rfl, hz2, hb2⟩
  have HB2 := Lib.hid (hb0.trans (hb2.mono (by simp)))
  clear hb2 hb0
  rcases hz2 with rfl | ⟨hp, hsum⟩
  · go_wp2_with fail
    go_ret
    exact ⟨-1, rfl, .inl rfl, HB2.out⟩
  · have HS := Lib.hid hsum
    clear hsum
    go_wp2_with fail
    go_ret
    exact ⟨z2, rfl, .inr ⟨hp, HS.out⟩, HB2.out⟩

def entsTo (es : List EntD) (k : Nat) : Nat := ((es.take k).map EntD.size).sum
theorem entsTo_zero (es : List EntD) : entsTo es 0 = 0 := by simp [entsTo]
theorem entsTo_succ (es : List EntD) (k : Nat) (h : k < es.length) : entsTo es (k + 1) = entsTo es k + es[k].size := by
  unfold entsTo
  rw [List.take_succ_eq_append_getElem h, List.map_append, List.sum_append]
  simp
theorem entsTo_mem {es : List EntD} {e : EntD} (h : e ∈ es) : e.size ≤ entsTo es es.length := by
  unfold entsTo
  rw [List.take_length]
  induction es with
  | nil => cases h
  | cons x xs ih =>
    rw [List.map_cons, List.sum_cons]
    rcases List.mem_cons.1 h with rfl | h
    · omega
    · have := ih h; omega
def EntsSize (es : List EntD) : Nat := es.length + entsTo es es.length

set_option maxHeartbeats 1000000 in
theorem szEntryS_any (a : Option Addr) (es : List EntD) (cap : Nat) (left : Int) (w : World) (hv : EntriesIn w a es) (hf : ∀ e ∈ es, e.fits) (hn : es.length ≤ maxLen) (h0 : 0 ≤ left) (hl : left ≤ 1048576) :
    Calls Try.prog 51 #[.slice a es.length cap, .int .i64 left] w (SzPost left (EntsSize es) w) := by
  unfold maxLen at hn
  have HV := Lib.hid hv
  have HT := Lib.hid hf
  clear hv hf
  by_cases h : left < es.length
  · go_enter Try.func51, Try.ntmps51
    go_wp2_with fail
    go_ret
    exact ⟨-1, rfl, .inl rfl, Below.refl _ _⟩
  · go_enter Try.func51, Try.ntmps51
    go_wp2_with fail
    go_loopw [1, 5] (fun l i wr => ∃ (k : Nat) (z : Int), k ≤ es.length ∧ i = .int .i64 k ∧ l = .int .i64 z ∧ 0 ≤ z ∧ z + es.length + entsTo es k = left ∧ Below w.heap.size w wr) (fun _ i _ => es.length - (intOf i).toNat)
    case atStart => exact ⟨0, left - es.length, Nat.zero_le _, rfl, rfl, by omega, by rw [entsTo_zero]; omega, Below.refl _ _⟩
    case round =>
      obtain ⟨k, z, hk, rfl, rfl, hz0, hz, hB⟩ := hrel
      have HZ := Lib.hid hz
      have HB := Lib.hid hB
      clear hz hB
      by_cases hlt : k < es.length
      · rcases HV.out.below HB.out with hnil | ⟨b, off, rfl, hb, hc⟩
        · rw [hnil] at hlt; simp at hlt
        · obtain ⟨a1, a2, k1, k2, c0, c1, c2, c3, cv, cu⟩ := hc k hlt
          have CV := Lib.hid cv
          have CU := Lib.hid cu
          clear hc cv cu
          go_wp2_with fail
          with_reducible refine (szEntry_any es[k] a1 a2 k1 k2 _ _ CV.out CU.out (HT.out _ (List.getElem_mem hlt)) hz0 (by have := HZ.out; omega)).mono ?_
          rintro e w2 ⟨z2, rfl, hz2, hb2⟩
          have HB2 := Lib.hid (HB.out.trans (hb2.mono HB.out.size))
          clear hb2
          rcases hz2 with rfl | ⟨hp, hsum⟩
          · go_wp2_with fail
            go_ret
            exact ⟨-1, rfl, .inl rfl, HB2.out⟩
          · have HS := Lib.hid hsum
            clear hsum
            go_wp2_with fail
            go_roundw
            case rel => exact ⟨k + 1, z2, by omega, by go_num, rfl, hp, by rw [entsTo_succ es k hlt]; have := HZ.out; have := HS.out; omega, HB2.out⟩
            case measure => simp [intOf]; omega
      · go_wp2_with fail
        go_ret
        obtain rfl : k = es.length := by omega
        exact ⟨z, rfl, .inr ⟨hz0, by unfold EntsSize; have := HZ.out; omega⟩, HB.out⟩

set_option maxHeartbeats 1000000 in
theorem eqEntry_same (e : EntD) (a1 a2 b1 b2 : Option Addr) (k1 k2 l1 l2 : Nat) (w : World) (ha1 : WantsIn w a1 e.ws) (hb1 : WantsIn w b1 e.ws) (ha2 : WritesIn w a2 e.us) (hb2 : WritesIn w b2 e.us) (hf : e.fits) :
    Calls Try.prog 117 #[.agg #[.int .i64 e.id, .int .i64 e.tid, .slice a1 e.ws.length k1, .slice a2 e.us.length k2], .agg #[.int .i64 e.id, .int .i64 e.tid, .slice b1 e.ws.length l1, .slice b2 e.us.length l2]] w fun e w' => e = .returned (.bool true) ∧ Below w.heap.size w w' := by
  obtain ⟨hn, hm, -, -⟩ := hf
  have A1 := Lib.hid ha1
  have A2 := Lib.hid ha2
  have C1 := Lib.hid hb1
  have C2 := Lib.hid hb2
  have HN := Lib.hid hn
  have HM := Lib.hid hm
  clear ha1 ha2 hb1 hb2 hn hm
  have hb0 : Below w.heap.size w ((w.alloc (.cells #[.int .i64 e.id, .int .i64 e.tid, .slice a1 e.ws.length k1, .slice a2 e.us.length k2] 157)).alloc (.cells #[.int .i64 e.id, .int .i64 e.tid, .slice b1 e.ws.length l1, .slice b2 e.us.length l2] 157)) := ((Below.refl _ _).alloc (Nat.le_refl _) _).alloc (by simp) _
  have HB0 := Lib.hid hb0
  clear hb0
  go_enter Try.func117, Try.ntmps117
  go_wp2_with fail
  refine (eqTxn_same e.tid a1 a2 b1 b2 e.ws e.us k1 k2 l1 l2 _ _ _ rfl rfl (A1.out.below HB0.out) (C1.out.below HB0.out) (A2.out.below HB0.out) (C2.out.below HB0.out) HN.out HM.out).mono ?_
  rintro e1 w2 ⟨rfl, hw2⟩
  have E2 := Lib.hid (HB0.out.trans (hw2.mono HB0.out.size))
  clear hw2
  go_wp2_with fail
  go_ret
  exact ⟨rfl, E2.out⟩

theorem keepEq {n1 n2 o1 o2 : Nat} {x0 x1 x2 x3 y0 y1 y2 y3 : Value} {u v : World} (hb : Below u.heap.size u v) (h : u.cell? ⟨n1, o1, none⟩ = some x0 ∧ u.cell? ⟨n1, o1 + 1, none⟩ = some x1 ∧ u.cell? ⟨n1, o1 + 2, none⟩ = some x2 ∧ u.cell? ⟨n1, o1 + 3, none⟩ = some x3 ∧ u.cell? ⟨n2, o2, none⟩ = some y0 ∧ u.cell? ⟨n2, o2 + 1, none⟩ = some y1 ∧ u.cell? ⟨n2, o2 + 2, none⟩ = some y2 ∧ u.cell? ⟨n2, o2 + 3, none⟩ = some y3 ∧ n1 < u.heap.size ∧ n2 < u.heap.size) : v.cell? ⟨n1, o1, none⟩ = some x0 ∧ v.cell? ⟨n1, o1 + 1, none⟩ = some x1 ∧ v.cell? ⟨n1, o1 + 2, none⟩ = some x2 ∧ v.cell? ⟨n1, o1 + 3, none⟩ = some x3 ∧ v.cell? ⟨n2, o2, none⟩ = some y0 ∧ v.cell? ⟨n2, o2 + 1, none⟩ = some y1 ∧ v.cell? ⟨n2, o2 + 2, none⟩ = some y2 ∧ v.cell? ⟨n2, o2 + 3, none⟩ = some y3 ∧ n1 < v.heap.size ∧ n2 < v.heap.size := by
  obtain ⟨h0, h1, h2, h3, h4, h5, h6, h7, l1, l2⟩ := h
  exact ⟨(hb.cell (p := ⟨n1, o1, none⟩) l1).trans h0, (hb.cell (p := ⟨n1, o1 + 1, none⟩) l1).trans h1, (hb.cell (p := ⟨n1, o1 + 2, none⟩) l1).trans h2, (hb.cell (p := ⟨n1, o1 + 3, none⟩) l1).trans h3, (hb.cell (p := ⟨n2, o2, none⟩) l2).trans h4, (hb.cell (p := ⟨n2, o2 + 1, none⟩) l2).trans h5, (hb.cell (p := ⟨n2, o2 + 2, none⟩) l2).trans h6, (hb.cell (p := ⟨n2, o2 + 3, none⟩) l2).trans h7, Nat.lt_of_lt_of_le l1 hb.size, Nat.lt_of_lt_of_le l2 hb.size⟩

set_option maxHeartbeats 2000000 in
theorem eqEntryS_same (a b : Option Addr) (es : List EntD) (ca cb : Nat) (w : World) (ha : EntriesIn w a es) (hb : EntriesIn w b es) (hf : ∀ e ∈ es, e.fits) (hn : es.length ≤ maxLen) :
    Calls Try.prog 55 #[.slice a es.length ca, .slice b es.length cb] w fun e w' => e = .returned (.bool true) ∧ Below w.heap.size w w' := by
  unfold maxLen at hn
  have HA := Lib.hid ha
  have HB := Lib.hid hb
  have HF := Lib.hid hf
  clear ha hb hf
  go_enter Try.func55, Try.ntmps55
  go_wp2_with fail
  go_loopw [5] (fun i wr => ∃ k : Nat, k ≤ es.length ∧ i = .int .i64 k ∧ Below w.heap.size w wr) (fun i _ => es.length - (intOf i).toNat)
  case atStart => exact ⟨0, Nat.zero_le _, rfl, Below.refl _ _⟩
  case round =>
    obtain ⟨k, hk, rfl, hB⟩ := hrel
    have HW := Lib.hid hB
    clear hB
    by_cases hlt : k < es.length
    · rcases HA.out.below HW.out with hnil | ⟨b1, o1, rfl, hb1, hc1⟩
      · rw [hnil] at hlt; simp at hlt
      rcases HB.out.below HW.out with hnil | ⟨b2, o2, rfl, hb2, hc2⟩
      · rw [hnil] at hlt; simp at hlt
      obtain ⟨p1, p2, k1, k2, c0, c1, c2, c3, cv, cu⟩ := hc1 k hlt
      obtain ⟨q1, q2, l1, l2, d0, d1, d2, d3, dv, du⟩ := hc2 k hlt
      have CV := Lib.hid cv
      have CU := Lib.hid cu
      have DV := Lib.hid dv
      have DU := Lib.hid du
      have HFK := Lib.hid (HF.out _ (List.getElem_mem hlt))
      clear hc1 hc2 cv cu dv du
      have i1 : (0 : Int) ≤ (k : Int) := by omega
      have i2 : (k : Int) < (es.length : Int) := by omega
      have qq : wr.drew.cell? ⟨b1, o1 + k * 4, none⟩ = some (.int .i64 es[k].id) ∧ wr.drew.cell? ⟨b1, o1 + k * 4 + 1, none⟩ = some (.int .i64 es[k].tid) ∧ wr.drew.cell? ⟨b1, o1 + k * 4 + 2, none⟩ = some (.slice p1 es[k].ws.length k1) ∧ wr.drew.cell? ⟨b1, o1 + k * 4 + 3, none⟩ = some (.slice p2 es[k].us.length k2) ∧ wr.drew.cell? ⟨b2, o2 + k * 4, none⟩ = some (.int .i64 es[k].id) ∧ wr.drew.cell? ⟨b2, o2 + k * 4 + 1, none⟩ = some (.int .i64 es[k].tid) ∧ wr.drew.cell? ⟨b2, o2 + k * 4 + 2, none⟩ = some (.slice q1 es[k].ws.length l1) ∧ wr.drew.cell? ⟨b2, o2 + k * 4 + 3, none⟩ = some (.slice q2 es[k].us.length l2) ∧ b1 < wr.drew.heap.size ∧ b2 < wr.drew.heap.size := ⟨c0, c1, c2, c3, d0, d1, d2, d3, hb1, hb2⟩
      go_wp2_with fail
      clear c0 c1 c2 c3 d0 d1 d2 d3
      go_region_held3 (fun u => u.cell? ⟨b1, o1 + k * 4, none⟩ = some (.int .i64 es[k].id) ∧ u.cell? ⟨b1, o1 + k * 4 + 1, none⟩ = some (.int .i64 es[k].tid) ∧ u.cell? ⟨b1, o1 + k * 4 + 2, none⟩ = some (.slice p1 es[k].ws.length k1) ∧ u.cell? ⟨b1, o1 + k * 4 + 3, none⟩ = some (.slice p2 es[k].us.length k2) ∧ u.cell? ⟨b2, o2 + k * 4, none⟩ = some (.int .i64 es[k].id) ∧ u.cell? ⟨b2, o2 + k * 4 + 1, none⟩ = some (.int .i64 es[k].tid) ∧ u.cell? ⟨b2, o2 + k * 4 + 2, none⟩ = some (.slice q1 es[k].ws.length l1) ∧ u.cell? ⟨b2, o2 + k * 4 + 3, none⟩ = some (.slice q2 es[k].us.length l2) ∧ b1 < u.heap.size ∧ b2 < u.heap.size)
        (first | with_reducible exact qq | fail)
        (first
          | (go_at_call 117; (with_reducible refine (eqEntry_same es[k] p1 p2 q1 q2 k1 k2 l1 l2 _ (CV.out.below ((Below.refl _ _).drew)) (DV.out.below ((Below.refl _ _).drew)) (CU.out.below ((Below.refl _ _).drew)) (DU.out.below ((Below.refl _ _).drew)) HFK.out).mono ?_); rintro e w2 ⟨rfl, hw2⟩; have qq := keepEq hw2 qq; have HW3 := Lib.hid (((Below.refl wr.heap.size wr).drew).trans hw2); clear hw2)
          | fail)
      all_goals
        have HW4 := Lib.hid (HW.out.trans (HW3.out.mono HW.out.size))
        go_wp2_with fail
        go_roundw
        case rel => exact ⟨k + 1, by omega, by go_num, HW4.out⟩
        case measure => simp [intOf]; omega
    · go_wp2_with fail
      go_ret
      exact ⟨rfl, HW.out⟩

/-! Copies. -/
theorem WantsIn.setO {u : World} {a : Option Addr} {vs : List WantD} {g o : Nat} {x : Value} (h : WantsIn u a vs) (hg : OffS (fun k => k = g) a) : WantsIn (u.setCell ⟨g, o, none⟩ x) a vs :=
  h.turned hg ((Turned.refl (fun k => k = g) u).setCell (p := ⟨g, o, none⟩) rfl x)
theorem WritesIn.setO {u : World} {a : Option Addr} {vs : List WriteD} {g o : Nat} {x : Value} (h : WritesIn u a vs) (hg : OffS (fun k => k = g) a) : WritesIn (u.setCell ⟨g, o, none⟩ x) a vs :=
  h.turned hg ((Turned.refl (fun k => k = g) u).setCell (p := ⟨g, o, none⟩) rfl x)

def ToEntry (e : EntD) (w : World) (en : Ending) (w' : World) : Prop :=
  ∃ b1 b2 c1 c2, en = .returned (.agg #[.int .i64 e.id, .int .i64 e.tid, .slice b1 e.ws.length c1, .slice b2 e.us.length c2]) ∧ WantsIn w' b1 e.ws ∧ WritesIn w' b2 e.us ∧ (∀ g, g < w.heap.size → OffS (fun k => k = g) b1 ∧ OffS (fun k => k = g) b2) ∧ Below w.heap.size w w'

set_option maxRecDepth 100000 in
set_option maxHeartbeats 2000000 in
theorem toEntry_any (e : EntD) (a1 a2 : Option Addr) (k1 k2 : Nat) (w : World) (hv : WantsIn w a1 e.ws) (hu : WritesIn w a2 e.us) (hn : e.ws.length ≤ 1048576) (hm : e.us.length ≤ 1048576) :
    Calls Try.prog 113 #[.agg #[.int .i64 e.id, .int .i64 e.tid, .slice a1 e.ws.length k1, .slice a2 e.us.length k2]] w (ToEntry e w) := by
  have HV := Lib.hid hv
  have HU := Lib.hid hu
  clear hv hu
  go_enter Try.func113, Try.ntmps113
  go_wp2_with fail
  with_reducible refine (toTxn_at e.tid a1 a2 e.ws e.us k1 k2 _ ?hv ?hu hn hm).mono ?_
  case hv => exact HV.out.below ((((Below.refl _ _).alloc (Nat.le_refl _) _).alloc (by simp) _).alloc (by simp; omega) _)
  case hu => exact HU.out.below ((((Below.refl _ _).alloc (Nat.le_refl _) _).alloc (by simp) _).alloc (by simp; omega) _)
  rintro en w2 ⟨b1, b2, c1, c2, rfl, hat, hb2⟩
  have HT := Lib.hid hat
  clear hat
  have p0 := hb2.cell (p := ⟨w.heap.size + 1, 0, none⟩) (by simp <;> omega)
  have p1 := hb2.cell (p := ⟨w.heap.size + 1, 1, none⟩) (by simp <;> omega)
  have p2 := hb2.cell (p := ⟨w.heap.size + 1, 2, none⟩) (by simp <;> omega)
  have p3 := hb2.cell (p := ⟨w.heap.size + 1, 3, none⟩) (by simp <;> omega)
  have fp0 := hb2.frozen (p := ⟨w.heap.size + 1, 0, none⟩) (by simp <;> omega)
  have fp1 := hb2.frozen (p := ⟨w.heap.size + 1, 1, none⟩) (by simp <;> omega)
  have fp2 := hb2.frozen (p := ⟨w.heap.size + 1, 2, none⟩) (by simp <;> omega)
  have fp3 := hb2.frozen (p := ⟨w.heap.size + 1, 3, none⟩) (by simp <;> omega)
  have r0 := hb2.cell (p := ⟨w.heap.size + 1 + 1, 0, none⟩) (by simp)
  have r1 := hb2.cell (p := ⟨w.heap.size + 1 + 1, 1, none⟩) (by simp)
  have r2 := hb2.cell (p := ⟨w.heap.size + 1 + 1, 2, none⟩) (by simp)
  have r3 := hb2.cell (p := ⟨w.heap.size + 1 + 1, 3, none⟩) (by simp)
  have fr0 := hb2.frozen (p := ⟨w.heap.size + 1 + 1, 0, none⟩) (by simp)
  have fr1 := hb2.frozen (p := ⟨w.heap.size + 1 + 1, 1, none⟩) (by simp)
  have fr2 := hb2.frozen (p := ⟨w.heap.size + 1 + 1, 2, none⟩) (by simp)
  have fr3 := hb2.frozen (p := ⟨w.heap.size + 1 + 1, 3, none⟩) (by simp)
  have HZ := Lib.hid hb2
  clear hb2
  simp [go_sem] at p0 p1 p2 p3 r0 r1 r2 r3 fp0 fp1 fp2 fp3 fr0 fr1 fr2 fr3
  have hzs : w.heap.size + 1 + 1 < w2.heap.size := by have := HZ.out.size; simp at this; omega
  have hz1 : w.heap.size + 1 < w2.heap.size := by omega
  go_wp2_with fail
  have HB := Lib.hid ((((Below.refl w.heap.size w).alloc (Nat.le_refl _) _).alloc (by simp) _).alloc (by simp; omega) _ |>.trans (HZ.out.mono (by simp; omega)))
  have hl1 := HT.out.l1
  have hl2 := HT.out.l2
  simp only [World.size_alloc] at hl1 hl2
  have o1 : ∀ g, g ≤ w.heap.size + 1 + 1 → OffS (fun k => k = g) b1 := fun g hg b off e1 e2 => by have := (hl1 b off e1).1; omega
  have o2 : ∀ g, g ≤ w.heap.size + 1 + 1 → OffS (fun k => k = g) b2 := fun g hg b off e1 e2 => by have := (hl2 b off e1).1; omega
  have q1 : w.heap.size + 1 + 1 ≤ w.heap.size + 1 + 1 := Nat.le_refl _
  have q2 : w.heap.size + 1 ≤ w.heap.size + 1 + 1 := by omega
  refine bodyPost_ret (v := .agg #[.int .i64 e.id, .int .i64 e.tid, .slice b1 e.ws.length c1, .slice b2 e.us.length c2]) (by simp [results, Try.results113, go_sem, *]) rfl ?_
  first
  | exact ⟨b1, b2, c1, c2, rfl, (((((((HT.out.in1.setO (o1 _ q1)).setO (o1 _ q1)).setO (o1 _ q1)).setO (o1 _ q2)).setO (o1 _ q2)).setO (o1 _ q2)).setO (o1 _ q2)), (((((((HT.out.in2.setO (o2 _ q1)).setO (o2 _ q1)).setO (o2 _ q1)).setO (o2 _ q2)).setO (o2 _ q2)).setO (o2 _ q2)).setO (o2 _ q2)), fun g hg => ⟨o1 g (by omega), o2 g (by omega)⟩, (((((((HB.out.setCell (by simp <;> omega) _).setCell (by simp <;> omega) _).setCell (by simp <;> omega) _).setCell (by simp <;> omega) _).setCell (by simp <;> omega) _).setCell (by simp <;> omega) _).setCell (by simp <;> omega) _)⟩
  | exact ⟨b1, b2, c1, c2, rfl, ((((((HT.out.in1.setO (o1 _ q1)).setO (o1 _ q1)).setO (o1 _ q2)).setO (o1 _ q2)).setO (o1 _ q2)).setO (o1 _ q2)), ((((((HT.out.in2.setO (o2 _ q1)).setO (o2 _ q1)).setO (o2 _ q2)).setO (o2 _ q2)).setO (o2 _ q2)).setO (o2 _ q2)), fun g hg => ⟨o1 g (by omega), o2 g (by omega)⟩, ((((((HB.out.setCell (by simp <;> omega) _).setCell (by simp <;> omega) _).setCell (by simp <;> omega) _).setCell (by simp <;> omega) _).setCell (by simp <;> omega) _).setCell (by simp <;> omega) _)⟩
  | exact ⟨b1, b2, c1, c2, rfl, ((((((HT.out.in1.setO (o1 _ q1)).setO (o1 _ q1)).setO (o1 _ q1)).setO (o1 _ q2)).setO (o1 _ q2)).setO (o1 _ q2)), ((((((HT.out.in2.setO (o2 _ q1)).setO (o2 _ q1)).setO (o2 _ q1)).setO (o2 _ q2)).setO (o2 _ q2)).setO (o2 _ q2)), fun g hg => ⟨o1 g (by omega), o2 g (by omega)⟩, ((((((HB.out.setCell (by simp <;> omega) _).setCell (by simp <;> omega) _).setCell (by simp <;> omega) _).setCell (by simp <;> omega) _).setCell (by simp <;> omega) _).setCell (by simp <;> omega) _)⟩
  | exact ⟨b1, b2, c1, c2, rfl, (((((HT.out.in1.setO (o1 _ q1)).setO (o1 _ q1)).setO (o1 _ q2)).setO (o1 _ q2)).setO (o1 _ q2)), (((((HT.out.in2.setO (o2 _ q1)).setO (o2 _ q1)).setO (o2 _ q2)).setO (o2 _ q2)).setO (o2 _ q2)), fun g hg => ⟨o1 g (by omega), o2 g (by omega)⟩, (((((HB.out.setCell (by simp <;> omega) _).setCell (by simp <;> omega) _).setCell (by simp <;> omega) _).setCell (by simp <;> omega) _).setCell (by simp <;> omega) _)⟩
  | exact ⟨b1, b2, c1, c2, rfl, ((((((((HT.out.in1.setO (o1 _ q1)).setO (o1 _ q1)).setO (o1 _ q1)).setO (o1 _ q1)).setO (o1 _ q2)).setO (o1 _ q2)).setO (o1 _ q2)).setO (o1 _ q2)), ((((((((HT.out.in2.setO (o2 _ q1)).setO (o2 _ q1)).setO (o2 _ q1)).setO (o2 _ q1)).setO (o2 _ q2)).setO (o2 _ q2)).setO (o2 _ q2)).setO (o2 _ q2)), fun g hg => ⟨o1 g (by omega), o2 g (by omega)⟩, ((((((((HB.out.setCell (by simp <;> omega) _).setCell (by simp <;> omega) _).setCell (by simp <;> omega) _).setCell (by simp <;> omega) _).setCell (by simp <;> omega) _).setCell (by simp <;> omega) _).setCell (by simp <;> omega) _).setCell (by simp <;> omega) _)⟩
end Go.Proofs.Ythjikcfpoomioaa
