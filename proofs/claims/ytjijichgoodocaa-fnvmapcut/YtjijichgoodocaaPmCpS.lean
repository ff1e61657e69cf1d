/- The row of a key, as the program tells it. -/
import Derived.Test.YtjijichgoodocaaPmFindS
import Derived.Test.YtjijichgoodocaaMeetP
import Derived.Test.YtjijichgoodocaaPmAt
import Derived.Test.YtjijichgoodocaaRowOrd
import Derived.Test.YtjijichgoodocaaSpan
import Derived.Deep.RegionLaw
namespace Go.Proofs.Ytjijichgoodocaa
open Go.RowKit

theorem nil_toList : (⟨#[]⟩ : ByteArray).toList = [] := by first | rfl | simp | (unfold ByteArray.toList ByteArray.toList.loop; rfl) | (unfold ByteArray.toList; unfold ByteArray.toList.loop; simp) | decide +kernel
theorem leB_not (x y : ByteArray) : leB x y = !(Op.bytesLess y.toList x.toList) := bytesLess_le _ _
theorem less_nil (x : List UInt8) : (Op.bytesLess [] x || [] == x) = true := by cases x <;> simp [Op.bytesLess]

theorem find_go {ep : Int} {vs : List RowD} {key : ByteArray} {n : Nat} (hP : PmapOkP ep vs) (hF : FindTo vs key n) (h : hasB (loOf vs n) (hiOf vs n) key = false) : FindTo vs key (n + 1) := by
  have hlo : Op.bytesLess key.toList (loOf vs n).toList = false := by
    rcases Nat.eq_zero_or_pos n with rfl | hn
    · have h0 := hF.1
      have hE := (hP.1 0 h0 h0).2.1 rfl
      rw [loOf_lt h0]
      have hE' : vs[0].f0.toList = [] := by simpa using hE
      rw [hE']
      cases key.toList <;> simp [Op.bytesLess]
    · have := hF.2 n hn (Nat.le_refl _); rw [leB_not] at this; simpa using this
  have hh : (hiOf vs n).toList.isEmpty = false ∧ Op.bytesLess key.toList (hiOf vs n).toList = false := by
    simpa [hasB, hlo] using h
  have hlt : n + 1 < vs.length := by
    by_cases g : n + 1 < vs.length
    · exact g
    · rw [hiOf_ge g, nil_toList] at hh; exact absurd hh.1 (by decide)
  refine ⟨hlt, fun i h1 h2 => ?_⟩
  by_cases e : i = n + 1
  · subst e
    have := hh.2
    rw [hiOf_lt hlt] at this
    rw [leB_not, loOf_lt hlt, this]; rfl
  · exact hF.2 i h1 (by omega)

theorem find_stop {ep : Int} {vs : List RowD} {key : ByteArray} {n : Nat} (hP : PmapOkP ep vs) (hF : FindTo vs key n) (h : hasB (loOf vs n) (hiOf vs n) key = true) : FindAt vs key n := by
  refine ⟨hF, fun hlt => ?_⟩
  have h2 : (hiOf vs n).toList.isEmpty = true ∨ Op.bytesLess key.toList (hiOf vs n).toList = true := by
    simp [hasB] at h; simpa using h.2
  rw [hiOf_lt hlt] at h2
  rw [leB_not, loOf_lt hlt]
  rcases h2 with h2 | h2
  · have := (hP.1 (n + 1) hlt hlt).2.2.1 n hF.1 rfl
    have hE' : vs[n + 1].f0.toList = [] := by simpa using h2
    rw [hE', less_nil] at this
    cases this
  · rw [h2]; rfl

set_option maxRecDepth 100000 in
set_option maxHeartbeats 1000000 in
theorem pmapFind_any (ep : Int) (a : Option Addr) (vs : List RowD) (cap : Nat) (key : ByteArray) (w : World) (hv : RowsIn w a vs) (hf : ∀ v ∈ vs, v.fits) (hlen : vs.length ≤ 1048576) (hkey : key.size ≤ maxLen) :
    Calls Try.prog 58 #[.agg #[.int .i64 ep, .slice a vs.length cap], .string key] w (PmFindPost ep vs key w) := by
  have HV := Lib.hid hv
  have HF := Lib.hid hf
  clear hv hf
  have hb0 : Below w.heap.size w (w.alloc (.cells #[.int .i64 ep, .slice a vs.length cap] 90)) := (Below.refl _ _).alloc (Nat.le_refl _) _
  cases hK : keyOkB key
  all_goals
    go_enter Try.func58, Try.ntmps58
    go_wp2_with fail
    refine (pmapOk_any ep a vs cap _ (HV.out.below hb0) HF.out (by unfold maxLen; omega)).mono ?_
    rintro e w1 ⟨b, rfl, hk, hb⟩
    have B2 := Lib.hid (hb0.trans (hb.mono (by simp)))
    have c0 := hb.cell (p := ⟨w.heap.size, 0, none⟩) (by simp)
    have c1 := hb.cell (p := ⟨w.heap.size, 1, none⟩) (by simp)
    simp [go_sem] at c0 c1
    have HK := Lib.hid hk
    clear hb hk hb0
    cases b
  · go_wp2_with fail
    go_ret
    exact PmFindPost.no (fun h => by simpa using HK.out.2 h.1) B2.out
  · go_wp2_with (go_at_call 60; refine (keyOk_is hK hkey _).mono ?_; rintro e w2 ⟨rfl, rfl⟩)
    go_ret
    exact PmFindPost.no (fun h => by rw [hK] at h; exact absurd h.2 (by decide)) B2.out
  · go_wp2_with fail
    go_ret
    exact PmFindPost.no (fun h => by simpa using HK.out.2 h.1) B2.out
  · have hP := Lib.hid (HK.out.1 (by simp))
    have h0 := hP.out.pos
    go_wp2_with (go_at_call 60; refine (keyOk_is hK hkey _).mono ?_; rintro e w2 ⟨rfl, rfl⟩)
    refine (spanRows_any ep a vs cap _ (HV.out.below B2.out) hlen).mono ?_
    rintro e w2 ⟨v, rfl, hown, hb2⟩
    obtain ⟨g, cp, rfl⟩ := Joins.ownsRow_form hown h0
    have hg2 := (hown.lt g rfl).2
    have HC := Lib.hid (fun j (hj : j < vs.length * 3) => hown.cellAt j hj)
    have B3 := Lib.hid (B2.out.trans (hb2.mono B2.out.size))
    clear hown hb2 c0 c1
    go_wp2_with fail
    go_loopw [18] (fun i wr => ∃ n : Nat, i = .int .i64 (n : Int) ∧ FindTo vs key n ∧ Below w2.heap.size w2 wr) (fun i _ => vs.length - (intOf i).toNat)
    case atStart => exact ⟨0, rfl, ⟨h0, fun i h1 h2 => by omega⟩, Below.refl _ _⟩
    case round =>
      obtain ⟨n, rfl, hF, hB⟩ := hrel
      have hn := hF.1
      obtain ⟨q0, q1, q2⟩ := spCells_at vs vs.length n hn
      have r0 := ((hB.cell (p := ⟨g, n * 3, none⟩) hg2).trans (HC.out (n * 3) (by omega))).trans q0
      have r1 := ((hB.cell (p := ⟨g, n * 3 + 1, none⟩) hg2).trans (HC.out (n * 3 + 1) (by omega))).trans q1
      have r2 := ((hB.cell (p := ⟨g, n * 3 + 2, none⟩) hg2).trans (HC.out (n * 3 + 2) (by omega))).trans q2
      have HFn := Lib.hid hF
      have HB := Lib.hid hB
      clear hF hB q0 q1 q2
      go_wp2_with fail
      refine (has_any (loOf vs n) (hiOf vs n) key _).mono ?_
      rintro e w3 ⟨rfl, hb3⟩
      have p2 := hb3.cell (p := ⟨wr.heap.size, 2, none⟩) (by simp)
      simp [go_sem] at p2
      have B4 := Lib.hid ((HB.out.alloc HB.out.size _).trans (hb3.mono (by have := HB.out.size; simp; omega)))
      clear hb3
      cases hH : hasB (loOf vs n) (hiOf vs n) key
      · go_wp2_with fail
        go_roundw
        case rel => exact ⟨n + 1, by go_num, find_go hP.out HFn.out hH, B4.out⟩
        case measure => simp [intOf]; omega
      · go_wp2_with fail
        go_ret
        exact PmFindPost.yes hP.out hK (find_stop hP.out HFn.out hH) (B3.out.trans (B4.out.mono B3.out.size))
end Go.Proofs.Ytjijichgoodocaa

/- A row parted: what comes of it. -/
namespace Go.Proofs.Ytjijichgoodocaa
open Go.RowKit

theorem leB_iff (x y : ByteArray) : leB x y = true ↔ ¬ y.toList < x.toList := by rw [leB_not, ← less_iff]; simp
theorem leB_no (x y : ByteArray) : leB x y = false ↔ y.toList < x.toList := by rw [leB_not, ← less_iff]; simp
theorem pmap_next {ep : Int} {vs : List RowD} (h : PmapOkP ep vs) {i : Nat} (hi : i + 1 < vs.length) : vs[i].f0.toList < vs[i + 1].f0.toList := by
  have := (h.1 (i + 1) hi hi).2.2.1 i (by omega) rfl
  exact (leB_no _ _).1 this
theorem pmap_lt {ep : Int} {vs : List RowD} (h : PmapOkP ep vs) : ∀ (d i : Nat) (hi : i < vs.length) (hj : i + d + 1 < vs.length), vs[i].f0.toList < vs[i + d + 1].f0.toList
  | 0, i, hi, hj => pmap_next h hj
  | d + 1, i, hi, hj => List.lt_trans (pmap_lt h d i hi (by omega)) (pmap_next h (i := i + d + 1) (by omega))
theorem pmap_mono {ep : Int} {vs : List RowD} (h : PmapOkP ep vs) {i j : Nat} (hi : i < vs.length) (hj : j < vs.length) (hij : i < j) : vs[i].f0.toList < vs[j].f0.toList := by
  obtain ⟨d, rfl⟩ : ∃ d, j = i + d + 1 := ⟨j - i - 1, by omega⟩
  exact pmap_lt h d i hi hj
theorem pmap_first {ep : Int} {vs : List RowD} (h : PmapOkP ep vs) (h0 : 0 < vs.length) : vs[0].f0.toList = [] := by
  have := (h.1 0 h0 h0).2.1 rfl
  simpa using this

/-- Whether a row begins at that key. -/
def hasRow (vs : List RowD) (key : ByteArray) : Prop := ∃ i, ∃ h : i < vs.length, vs[i].f0.toList = key.toList
def CanSplit (ep : Int) (vs : List RowD) (key : ByteArray) (node : Int) : Prop := keyOkB key = true ∧ inB node 0 2 = true ∧ vs.length < 5 ∧ ep < 99 ∧ ¬ hasRow vs key
def splitAt (vs : List RowD) (key : ByteArray) (node : Int) (k : Nat) : List RowD := vs.take (k + 1) ++ (⟨key, node⟩ :: vs.drop (k + 1))
def PmapSplitRel (ep : Int) (vs : List RowD) (key : ByteArray) (node : Int) (ep' : Int) (vs' : List RowD) (b : Bool) : Prop :=
  (¬ PmapOkP ep vs ∧ ep' = 0 ∧ vs' = [] ∧ b = false) ∨ (PmapOkP ep vs ∧ ¬ CanSplit ep vs key node ∧ ep' = ep ∧ vs' = vs ∧ b = false) ∨ (PmapOkP ep vs ∧ CanSplit ep vs key node ∧ ep' = ep + 1 ∧ (∃ k, FindAt vs key k ∧ vs' = splitAt vs key node k) ∧ b = true)
theorem PmapSplitRel_unique {ep : Int} {vs : List RowD} {key : ByteArray} {node e1 e2 : Int} {v1 v2 : List RowD} {b1 b2 : Bool} (h : PmapSplitRel ep vs key node e1 v1 b1) (g : PmapSplitRel ep vs key node e2 v2 b2) : e1 = e2 ∧ v1 = v2 ∧ b1 = b2 := by
  rcases h with ⟨h1, rfl, rfl, rfl⟩ | ⟨h1, h2, rfl, rfl, rfl⟩ | ⟨h1, h2, rfl, ⟨k1, f1, rfl⟩, rfl⟩ <;> rcases g with ⟨g1, rfl, rfl, rfl⟩ | ⟨g1, g2, rfl, rfl, rfl⟩ | ⟨g1, g2, rfl, ⟨k2, f2, rfl⟩, rfl⟩ <;> first | exact ⟨rfl, rfl, rfl⟩ | exact absurd h1 g1 | exact absurd g1 h1 | exact absurd h2 g2 | exact absurd g2 h2 | exact ⟨rfl, by rw [f1.unique f2], rfl⟩
theorem splitAt_len {vs : List RowD} {key : ByteArray} {node : Int} {k : Nat} (h : k < vs.length) : (splitAt vs key node k).length = vs.length + 1 := by
  simp [splitAt]; omega
theorem PmapSplitRel_len {ep : Int} {vs : List RowD} {key : ByteArray} {node e1 : Int} {v1 : List RowD} {b1 : Bool} (h : PmapSplitRel ep vs key node e1 v1 b1) : v1.length ≤ vs.length + 1 := by
  rcases h with ⟨_, _, rfl, _⟩ | ⟨_, _, _, rfl, _⟩ | ⟨_, _, _, ⟨k, f, rfl⟩, _⟩
  · simp
  · omega
  · rw [splitAt_len f.1.1]; exact Nat.le_refl _
def PmapSplitPost (ep : Int) (vs : List RowD) (key : ByteArray) (node : Int) (w : World) (e : Ending) (w' : World) : Prop := ∃ ep' vs' b, PmapSplitRel ep vs key node ep' vs' b ∧ PmOutB ep' vs' b w e w'

theorem hasRow_find {ep : Int} {vs : List RowD} {key : ByteArray} {k : Nat} (hP : PmapOkP ep vs) (hF : FindAt vs key k) : hasRow vs key ↔ (vs[k]'hF.1.1).f0.toList = key.toList := by
  have hk := hF.1.1
  constructor
  · rintro ⟨i, hi, e⟩
    rcases Nat.lt_trichotomy i k with h | rfl | h
    · have h1 := pmap_mono hP hi hk h
      have h2 := hF.1.2 k (by omega) (Nat.le_refl _)
      rw [loOf_lt hk, leB_iff, ← e] at h2
      exact absurd h1 h2
    · exact e
    · have h2 := hF.2 (by omega)
      rw [loOf_lt (by omega), leB_no] at h2
      by_cases he : k + 1 = i
      · subst he; rw [e] at h2; exact absurd h2 (List.lt_irrefl _)
      · have h3 := List.lt_trans h2 (pmap_mono hP (i := k + 1) (j := i) (by omega) hi (by omega))
        rw [e] at h3; exact absurd h3 (List.lt_irrefl _)
  · intro e; exact ⟨k, hk, e⟩
end Go.Proofs.Ytjijichgoodocaa

/- Copies of a map of parts, as the model makes them. -/
namespace Go.Proofs.Ytjijichgoodocaa
open Go.RowKit

theorem below_append {W1 w2 : World} {t : TypeId} (h : ((W1.alloc (.cells #[] t)).drew).grownBy w2 (some W1.heap.size)) : Below W1.heap.size W1 w2 :=
  Below.grown (((Below.refl _ _).alloc (Nat.le_refl _) _).drew) h (by simp) (fun j hj => by cases hj; exact Nat.le_refl _)
theorem rows_len (vs : List RowD) : (vs.flatMap rowCells).length = vs.length * 2 := flat_len rowCells 2 (fun _ => rfl) vs
theorem pmAt_own {u : World} {B g cp lo : Nat} {vs : List RowD} (h : u.ownsRow B 98 2 (.slice (some ⟨g, 0, none⟩) vs.length cp) vs.length (vs.flatMap rowCells)) (hB : lo ≤ B) : PmAt u lo u.heap.size (some ⟨g, 0, none⟩) vs := by
  obtain ⟨a, c, e, h1, h2, h3, _⟩ := own_rows h
  injection e with e1 e2 e3
  subst e1
  exact ⟨h1, h2, h3.mono hB (Nat.le_refl _), Nat.le_refl _⟩
theorem own_cap {u : World} {B g cp : Nat} {vs : List RowD} (h : u.ownsRow B 98 2 (.slice (some ⟨g, 0, none⟩) vs.length cp) vs.length (vs.flatMap rowCells)) : vs.length ≤ cp ∧ cp ≤ maxLen := by
  obtain ⟨a, c, e, _, _, _, h4⟩ := own_rows h
  injection e with e1 e2 e3
  subst e3
  exact h4
theorem PmAt.set2 {u : World} {lo g r : Nat} {x y : Value} {vs : List RowD} (h : PmAt u lo u.heap.size (some ⟨g, 0, none⟩) vs) (hr : r ≠ g) : PmAt ((u.setCell ⟨r, 0, none⟩ x).setCell ⟨r, 1, none⟩ y) lo ((u.setCell ⟨r, 0, none⟩ x).setCell ⟨r, 1, none⟩ y).heap.size (some ⟨g, 0, none⟩) vs :=
  ⟨(h.in1.set hr).set hr, (h.fr1.set' hr).set' hr, by simpa using h.l1, Nat.le_refl _⟩
theorem emptyRows {u : World} {B g : Nat} (h : u.heap[g]? = some (.cells #[] 98 (0, 0))) (hb : B ≤ g) : u.ownsRow B 98 2 (.slice (some ⟨g, 0, none⟩) 0 0) 0 [] :=
  ⟨by simp, .inr ⟨g, 0, #[], rfl, hb, h, Nat.le_refl _, Nat.zero_le _, by simp, by simp⟩⟩

set_option maxRecDepth 100000 in
set_option maxHeartbeats 1000000 in
theorem l5Copy_any (ep : Int) (a : Option Addr) (vs : List RowD) (cap : Nat) (w : World) (hv : RowsIn w a vs) (h0 : 0 < vs.length) (hlen : vs.length ≤ 1048576) :
    Calls Try.prog 167 #[.agg #[.int .i64 ep, .slice a vs.length cap]] w (PmOut ep vs w) := by
  rcases hv with hnil | ⟨b1, o1, rfl, hb1, hc1⟩
  · rw [hnil] at h0; simp at h0
  have HC := Lib.hid hc1
  clear hc1
  obtain ⟨i0, hi, hz0, hz1, hz2⟩ := info_parts infoRow
  obtain ⟨W1, hW1⟩ : ∃ W1, (w.alloc (.cells #[.int .i64 ep, .slice (some ⟨b1, o1, none⟩) vs.length cap] 90)).alloc (.cells #[.int .i64 0, .slice none 0 0] 90) = W1 := ⟨_, rfl⟩
  have B1 : Below w.heap.size w W1 := by rw [← hW1]; exact ((Below.refl _ _).alloc (Nat.le_refl _) _).alloc (by simp) _
  have z1 : w.heap.size + 1 < W1.heap.size := by rw [← hW1]; simp
  have c0 : W1.cell? ⟨w.heap.size, 0, none⟩ = some (.int .i64 ep) := by rw [← hW1]; simp [go_sem]
  have c1 : W1.cell? ⟨w.heap.size, 1, none⟩ = some (.slice (some ⟨b1, o1, none⟩) vs.length cap) := by rw [← hW1]; simp [go_sem]
  have d0 : W1.cell? ⟨w.heap.size + 1, 0, none⟩ = some (.int .i64 0) := by rw [← hW1]; simp [go_sem]
  have d1 : W1.cell? ⟨w.heap.size + 1, 1, none⟩ = some (.slice none 0 0) := by rw [← hW1]; simp [go_sem]
  have f0 : W1.frozen? ⟨w.heap.size + 1, 0, none⟩ = false := by rw [← hW1]; simp [go_sem]
  have f1 : W1.frozen? ⟨w.heap.size + 1, 1, none⟩ = false := by rw [← hW1]; simp [go_sem]
  have z0 : w.heap.size < W1.heap.size := by omega
  have hb2 : b1 < W1.heap.size := by omega
  have z3 : w.heap.size < W1.heap.size + 1 := by omega
  have z4 : w.heap.size + 1 < W1.heap.size + 1 := by omega
  have HN := Lib.hid (fun (u : World) (hu : Below W1.heap.size W1 u) => rows_news (w := u) (b := b1) (off := o1) (vs := vs) (fun i h => ⟨(hu.cell (p := ⟨b1, o1 + i * 2, none⟩) hb2).trans ((B1.cell (p := ⟨b1, o1 + i * 2, none⟩) hb1).trans (HC.out i h).1), (hu.cell (p := ⟨b1, o1 + i * 2 + 1, none⟩) hb2).trans ((B1.cell (p := ⟨b1, o1 + i * 2 + 1, none⟩) hb1).trans (HC.out i h).2)⟩))
  have HB1 := Lib.hid B1
  clear B1
  go_enter Try.func167, Try.ntmps167
  go_wp2_with fail
  clear hW1
  go_region_law (refine step_append_lies _ rfl (.tmp 5) (.tmp 7) 88 rfl W1.heap.size 98 i0 (.agg #[.string ⟨#[]⟩, .int .i64 0]) 2 24 Try.underlying88 hi hz0 hz1 hz2 rfl (by decide) _ 0 [] rfl (emptyRows (heap_alloc_new _ _) (Nat.le_refl _)) ⟨b1, o1, none⟩ vs.length cap (vs.flatMap rowCells) rfl (rows_len vs) (HN.out _ (((Below.refl _ _).alloc (Nat.le_refl _) _).drew)) (rows_one vs) h0 (by unfold maxLen; omega) (by omega) (by simp) _ rfl ?_; intro g cp w2 hown hgrow hat hlt2; have hbA := below_append hgrow; have c0' := (hbA.cell (p := ⟨w.heap.size, 0, none⟩) z0).trans c0; have d0' := (hbA.cell (p := ⟨w.heap.size + 1, 0, none⟩) z1).trans d0; have d1' := (hbA.cell (p := ⟨w.heap.size + 1, 1, none⟩) z1).trans d1; have f0' := (hbA.frozen (p := ⟨w.heap.size + 1, 0, none⟩) z1).trans f0; have f1' := (hbA.frozen (p := ⟨w.heap.size + 1, 1, none⟩) z1).trans f1; have X := Lib.hid (And.intro hown hbA); clear hown hgrow hat hlt2 hbA)
  all_goals
    go_wp2_with fail
    refine bodyPost_ret (v := .agg #[.int .i64 ep, .slice (some ⟨g, 0, none⟩) vs.length cp]) (by simp [results, Try.results167, go_sem, d0', d1']) rfl ?_
    obtain ⟨hown, hbA⟩ := X.out
    rw [Nat.zero_add, List.nil_append] at hown
    have hg := (hown.lt g rfl).1
    exact ⟨_, _, rfl, (pmAt_own (lo := w.heap.size) hown (by omega)).set2 (by omega), ((HB1.out.trans (hbA.mono (by omega))).setCell (p := ⟨w.heap.size + 1, 0, none⟩) (by simp) _).setCell (p := ⟨w.heap.size + 1, 1, none⟩) (by simp) _, own_cap hown⟩
end Go.Proofs.Ytjijichgoodocaa
