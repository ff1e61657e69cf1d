/- A row parted: what comes of it. -/
import Derived.Test.YtjijichgoodocaaPmFindI
import Derived.Test.YtjijichgoodocaaRowOrd
import Derived.Test.YtjijichgoodocaaVmF
import Derived.Deep.RegionLaw
namespace Go.Proofs.Ytjijichgoodocaa
open Go.RowKit

theorem leB_iff (x y : ByteArray) : leB x y = true ↔ ¬ y.toList < x.toList := by rw [leB_not, ← less_iff]; simp
theorem leB_no (x y : ByteArray) : leB x y = false ↔ y.toList < x.toList := by rw [leB_not, ← less_iff]; simp
theorem pmap_next {ep : Int} {vs : List RowD} (h : PmapOkP ep vs) {i : Nat} (hi : i + 1 < vs.length) : vs[i].f0.toList < vs[i + 1].f0.toList := by
  have := (h.1 (i + 1) hi hi).2.2.1 i (by omega) rfl
  exact (leB_no _ _).1 this
theorem pmap_lt {ep : Int} {vs : List RowD} (h : PmapOkP ep vs) : ∀ (d i : Nat) (hi : i < vs.length) (hj : i + d + 1 < vs.length), vs[i].f0.toList < vs[i + d + 1].f0.toList
  | 0, i, hi, hj => pmap_next h hj
  | d + 1, i, hi, hj => List.lt_trans (pmap_lt h d i hi (by omega)) (pmap_next h (i := i + d + 1) (by omega))
theorem pmap_mono {ep : Int} {vs : List RowD} (h : PmapOkP ep vs) {i j : Nat} (hi : i < vs.length) (hj : j < vs.length) (hij : i < j) : vs[i].f0.toList < vs[j].f0.toList := by
  obtain ⟨d, rfl⟩ : ∃ d, j = i + d + 1 := ⟨j - i - 1, by omega⟩
  exact pmap_lt h d i hi hj
theorem pmap_first {ep : Int} {vs : List RowD} (h : PmapOkP ep vs) (h0 : 0 < vs.length) : vs[0].f0.toList = [] := by
  have := (h.1 0 h0 h0).2.1 rfl
  simpa using this

/-- Whether a row begins at that key. -/
def hasRow (vs : List RowD) (key : ByteArray) : Prop := ∃ i, ∃ h : i < vs.length, vs[i].f0.toList = key.toList
def CanSplit (ep : Int) (vs : List RowD) (key : ByteArray) (node : Int) : Prop := keyOkB key = true ∧ inB node 0 2 = true ∧ vs.length < 5 ∧ ep < 99 ∧ ¬ hasRow vs key
def splitAt (vs : List RowD) (key : ByteArray) (node : Int) (k : Nat) : List RowD := vs.take (k + 1) ++ (⟨key, node⟩ :: vs.drop (k + 1))
def PmapSplitRel (ep : Int) (vs : List RowD) (key : ByteArray) (node : Int) (ep' : Int) (vs' : List RowD) (b : Bool) : Prop :=
  (¬ PmapOkP ep vs ∧ ep' = 0 ∧ vs' = [] ∧ b = false) ∨ (PmapOkP ep vs ∧ ¬ CanSplit ep vs key node ∧ ep' = ep ∧ vs' = vs ∧ b = false) ∨ (PmapOkP ep vs ∧ CanSplit ep vs key node ∧ ep' = ep + 1 ∧ (∃ k, FindAt vs key k ∧ vs' = splitAt vs key node k) ∧ b = true)
theorem PmapSplitRel_unique {ep : Int} {vs : List RowD} {key : ByteArray} {node e1 e2 : Int} {v1 v2 : List RowD} {b1 b2 : Bool} (h : PmapSplitRel ep vs key node e1 v1 b1) (g : PmapSplitRel ep vs key node e2 v2 b2) : e1 = e2 ∧ v1 = v2 ∧ b1 = b2 := by
  rcases h with ⟨h1, rfl, rfl, rfl⟩ | ⟨h1, h2, rfl, rfl, rfl⟩ | ⟨h1, h2, rfl, ⟨k1, f1, rfl⟩, rfl⟩ <;> rcases g with ⟨g1, rfl, rfl, rfl⟩ | ⟨g1, g2, rfl, rfl, rfl⟩ | ⟨g1, g2, rfl, ⟨k2, f2, rfl⟩, rfl⟩ <;> first | exact ⟨rfl, rfl, rfl⟩ | exact absurd h1 g1 | exact absurd g1 h1 | exact absurd h2 g2 | exact absurd g2 h2 | exact ⟨rfl, by rw [f1.unique f2], rfl⟩
theorem splitAt_len {vs : List RowD} {key : ByteArray} {node : Int} {k : Nat} (h : k < vs.length) : (splitAt vs key node k).length = vs.length + 1 := by
  simp [splitAt]; omega
theorem PmapSplitRel_len {ep : Int} {vs : List RowD} {key : ByteArray} {node e1 : Int} {v1 : List RowD} {b1 : Bool} (h : PmapSplitRel ep vs key node e1 v1 b1) : v1.length ≤ vs.length + 1 := by
  rcases h with ⟨_, _, rfl, _⟩ | ⟨_, _, _, rfl, _⟩ | ⟨_, _, _, ⟨k, f, rfl⟩, _⟩
  · simp
  · omega
  · rw [splitAt_len f.1.1]; exact Nat.le_refl _
def PmapSplitPost (ep : Int) (vs : List RowD) (key : ByteArray) (node : Int) (w : World) (e : Ending) (w' : World) : Prop := ∃ ep' vs' b, PmapSplitRel ep vs key node ep' vs' b ∧ PmOutB ep' vs' b w e w'

theorem hasRow_find {ep : Int} {vs : List RowD} {key : ByteArray} {k : Nat} (hP : PmapOkP ep vs) (hF : FindAt vs key k) : hasRow vs key ↔ (vs[k]'hF.1.1).f0.toList = key.toList := by
  have hk := hF.1.1
  constructor
  · rintro ⟨i, hi, e⟩
    rcases Nat.lt_trichotomy i k with h | rfl | h
    · have h1 := pmap_mono hP hi hk h
      have h2 := hF.1.2 k (by omega) (Nat.le_refl _)
      rw [loOf_lt hk, leB_iff, ← e] at h2
      exact absurd h1 h2
    · exact e
    · have h2 := hF.2 (by omega)
      rw [loOf_lt (by omega), leB_no] at h2
      by_cases he : k + 1 = i
      · subst he; rw [e] at h2; exact absurd h2 (List.lt_irrefl _)
      · have h3 := List.lt_trans h2 (pmap_mono hP (i := k + 1) (j := i) (by omega) hi (by omega))
        rw [e] at h3; exact absurd h3 (List.lt_irrefl _)
  · intro e; exact ⟨k, hk, e⟩
end Go.Proofs.Ytjijichgoodocaa

/- Copies of a map of parts, as the model makes them. -/
namespace Go.Proofs.Ytjijichgoodocaa
open Go.RowKit

theorem below_append {W1 w2 : World} {t : TypeId} (h : ((W1.alloc (.cells #[] t)).drew).grownBy w2 (some W1.heap.size)) : Below W1.heap.size W1 w2 :=
  Below.grown (((Below.refl _ _).alloc (Nat.le_refl _) _).drew) h (by simp) (fun j hj => by cases hj; exact Nat.le_refl _)
theorem rows_len (vs : List RowD) : (vs.flatMap rowCells).length = vs.length * 2 := flat_len rowCells 2 (fun _ => rfl) vs
theorem pmAt_own {u : World} {B g cp lo : Nat} {vs : List RowD} (h : u.ownsRow B 98 2 (.slice (some ⟨g, 0, none⟩) vs.length cp) vs.length (vs.flatMap rowCells)) (hB : lo ≤ B) : PmAt u lo u.heap.size (some ⟨g, 0, none⟩) vs := by
  obtain ⟨a, c, e, h1, h2, h3, _⟩ := own_rows h
  injection e with e1 e2 e3
  subst e1
  exact ⟨h1, h2, h3.mono hB (Nat.le_refl _), Nat.le_refl _⟩
theorem own_cap {u : World} {B g cp : Nat} {vs : List RowD} (h : u.ownsRow B 98 2 (.slice (some ⟨g, 0, none⟩) vs.length cp) vs.length (vs.flatMap rowCells)) : vs.length ≤ cp ∧ cp ≤ maxLen := by
  obtain ⟨a, c, e, _, _, _, h4⟩ := own_rows h
  injection e with e1 e2 e3
  subst e3
  exact h4
theorem PmAt.set2 {u : World} {lo g r : Nat} {x y : Value} {vs : List RowD} (h : PmAt u lo u.heap.size (some ⟨g, 0, none⟩) vs) (hr : r ≠ g) : PmAt ((u.setCell ⟨r, 0, none⟩ x).setCell ⟨r, 1, none⟩ y) lo ((u.setCell ⟨r, 0, none⟩ x).setCell ⟨r, 1, none⟩ y).heap.size (some ⟨g, 0, none⟩) vs :=
  ⟨(h.in1.set hr).set hr, (h.fr1.set' hr).set' hr, by simpa using h.l1, Nat.le_refl _⟩
theorem emptyRows {u : World} {B g : Nat} (h : u.heap[g]? = some (.cells #[] 98 (0, 0))) (hb : B ≤ g) : u.ownsRow B 98 2 (.slice (some ⟨g, 0, none⟩) 0 0) 0 [] :=
  ⟨by simp, .inr ⟨g, 0, #[], rfl, hb, h, Nat.le_refl _, Nat.zero_le _, by simp, by simp⟩⟩

set_option maxRecDepth 100000 in
set_option maxHeartbeats 1000000 in
theorem l5Copy_any (ep : Int) (a : Option Addr) (vs : List RowD) (cap : Nat) (w : World) (hv : RowsIn w a vs) (h0 : 0 < vs.length) (hlen : vs.length ≤ 1048576) :
    Calls Try.prog 167 #[.agg #[.int .i64 ep, .slice a vs.length cap]] w (PmOut ep vs w) := by
  rcases hv with hnil | ⟨b1, o1, rfl, hb1, hc1⟩
  · rw [hnil] at h0; simp at h0
  have HC := Lib.hid hc1
  clear hc1
  obtain ⟨i0, hi, hz0, hz1, hz2⟩ := info_parts infoRow
  obtain ⟨W1, hW1⟩ : ∃ W1, (w.alloc (.cells #[.int .i64 ep, .slice (some ⟨b1, o1, none⟩) vs.length cap] 90)).alloc (.cells #[.int .i64 0, .slice none 0 0] 90) = W1 := ⟨_, rfl⟩
  have B1 : Below w.heap.size w W1 := by rw [← hW1]; exact ((Below.refl _ _).alloc (Nat.le_refl _) _).alloc (by simp) _
  have z1 : w.heap.size + 1 < W1.heap.size := by rw [← hW1]; simp
  have c0 : W1.cell? ⟨w.heap.size, 0, none⟩ = some (.int .i64 ep) := by rw [← hW1]; simp [go_sem]
  have c1 : W1.cell? ⟨w.heap.size, 1, none⟩ = some (.slice (some ⟨b1, o1, none⟩) vs.length cap) := by rw [← hW1]; simp [go_sem]
  have d0 : W1.cell? ⟨w.heap.size + 1, 0, none⟩ = some (.int .i64 0) := by rw [← hW1]; simp [go_sem]
  have d1 : W1.cell? ⟨w.heap.size + 1, 1, none⟩ = some (.slice none 0 0) := by rw [← hW1]; simp [go_sem]
  have f0 : W1.frozen? ⟨w.heap.size + 1, 0, none⟩ = false := by rw [← hW1]; simp [go_sem]
  have f1 : W1.frozen? ⟨w.heap.size + 1, 1, none⟩ = false := by rw [← hW1]; simp [go_sem]
  have z0 : w.heap.size < W1.heap.size := by omega
  have hb2 : b1 < W1.heap.size := by omega
  have z3 : w.heap.size < W1.heap.size + 1 := by omega
  have z4 : w.heap.size + 1 < W1.heap.size + 1 := by omega
  have HN := Lib.hid (fun (u : World) (hu : Below W1.heap.size W1 u) => rows_news (w := u) (b := b1) (off := o1) (vs := vs) (fun i h => ⟨(hu.cell (p := ⟨b1, o1 + i * 2, none⟩) hb2).trans ((B1.cell (p := ⟨b1, o1 + i * 2, none⟩) hb1).trans (HC.out i h).1), (hu.cell (p := ⟨b1, o1 + i * 2 + 1, none⟩) hb2).trans ((B1.cell (p := ⟨b1, o1 + i * 2 + 1, none⟩) hb1).trans (HC.out i h).2)⟩))
  have HB1 := Lib.hid B1
  clear B1
  go_enter Try.func167, Try.ntmps167
  go_wp2_with fail
  clear hW1
  go_region_law (refine step_append_lies _ rfl (.tmp 5) (.tmp 7) 88 rfl W1.heap.size 98 i0 (.agg #[.string ⟨#[]⟩, .int .i64 0]) 2 24 Try.underlying88 hi hz0 hz1 hz2 rfl (by decide) _ 0 [] rfl (emptyRows (heap_alloc_new _ _) (Nat.le_refl _)) ⟨b1, o1, none⟩ vs.length cap (vs.flatMap rowCells) rfl (rows_len vs) (HN.out _ (((Below.refl _ _).alloc (Nat.le_refl _) _).drew)) (rows_one vs) h0 (by unfold maxLen; omega) (by omega) (by simp) _ rfl ?_; intro g cp w2 hown hgrow hat hlt2; have hbA := below_append hgrow; have c0' := (hbA.cell (p := ⟨w.heap.size, 0, none⟩) z0).trans c0; have d0' := (hbA.cell (p := ⟨w.heap.size + 1, 0, none⟩) z1).trans d0; have d1' := (hbA.cell (p := ⟨w.heap.size + 1, 1, none⟩) z1).trans d1; have f0' := (hbA.frozen (p := ⟨w.heap.size + 1, 0, none⟩) z1).trans f0; have f1' := (hbA.frozen (p := ⟨w.heap.size + 1, 1, none⟩) z1).trans f1; have X := Lib.hid (And.intro hown hbA); clear hown hgrow hat hlt2 hbA)
  all_goals
    go_wp2_with fail
    refine bodyPost_ret (v := .agg #[.int .i64 ep, .slice (some ⟨g, 0, none⟩) vs.length cp]) (by simp [results, Try.results167, go_sem, d0', d1']) rfl ?_
    obtain ⟨hown, hbA⟩ := X.out
    rw [Nat.zero_add, List.nil_append] at hown
    have hg := (hown.lt g rfl).1
    exact ⟨_, _, rfl, (pmAt_own (lo := w.heap.size) hown (by omega)).set2 (by omega), ((HB1.out.trans (hbA.mono (by omega))).setCell (p := ⟨w.heap.size + 1, 0, none⟩) (by simp) _).setCell (p := ⟨w.heap.size + 1, 1, none⟩) (by simp) _, own_cap hown⟩
end Go.Proofs.Ytjijichgoodocaa

/- Two rows joined, as the model does it. -/
namespace Go.Proofs.Ytjijichgoodocaa
open Go.RowKit

theorem rows_take_news {w : World} {b off n : Nat} {vs : List RowD} (hn : n ≤ vs.length) (hc : ∀ i (h : i < vs.length), w.cell? ⟨b, off + i * 2, none⟩ = some (.string vs[i].f0) ∧ w.cell? ⟨b, off + i * 2 + 1, none⟩ = some (.int .i64 vs[i].f1)) :
    ∀ j u, ((vs.take n).flatMap rowCells)[j]? = some u → w.cell? ((⟨b, off, none⟩ : Addr).add j) = some u :=
  rows_news (fun i h => by
    simp only [List.length_take] at h
    rw [List.getElem_take]
    exact hc i (by omega))
theorem rows_drop_news {w : World} {b off n : Nat} {vs : List RowD} (hn : n ≤ vs.length) (hc : ∀ i (h : i < vs.length), w.cell? ⟨b, off + i * 2, none⟩ = some (.string vs[i].f0) ∧ w.cell? ⟨b, off + i * 2 + 1, none⟩ = some (.int .i64 vs[i].f1)) :
    ∀ j u, ((vs.drop n).flatMap rowCells)[j]? = some u → w.cell? ((⟨b, off + n * 2, none⟩ : Addr).add j) = some u :=
  rows_news (fun i h => by
    simp only [List.length_drop] at h
    rw [List.getElem_drop]
    have := hc (n + i) (by omega)
    rw [show off + n * 2 + i * 2 = off + (n + i) * 2 by omega]
    exact this)

theorem below_append1 {W1 w2 : World} {t : TypeId} (h : (W1.alloc (.cells #[] t)).grownBy w2 (some W1.heap.size)) : Below W1.heap.size W1 w2 :=
  Below.grown ((Below.refl _ _).alloc (Nat.le_refl _) _) h (by simp) (fun j hj => by cases hj; exact Nat.le_refl _)

set_option maxRecDepth 100000 in
set_option maxHeartbeats 1000000 in
theorem l5Merge_any (ep : Int) (a : Option Addr) (vs : List RowD) (cap k : Nat) (w : World) (hv : RowsIn w a vs) (hk : k + 1 < vs.length) (hcap : vs.length ≤ cap) (hcm : cap ≤ maxLen) (hep : 0 ≤ ep) (hep2 : ep ≤ 99) (hlen : vs.length ≤ 1048576) :
    Calls Try.prog 187 #[.agg #[.int .i64 ep, .slice a vs.length cap], .int .i64 (k : Int)] w (PmOut (ep + 1) (vs.take (k + 1) ++ vs.drop (k + 2)) w) := by
  rcases hv with hnil | ⟨b1, o1, rfl, hb1, hc1⟩
  · rw [hnil] at hk; simp at hk
  unfold maxLen at hcm
  have HC := Lib.hid hc1
  clear hc1
  obtain ⟨i0, hi, hz0, hz1, hz2⟩ := info_parts infoRow
  obtain ⟨W1, hW1⟩ : ∃ W1, (w.alloc (.cells #[.int .i64 ep, .slice (some ⟨b1, o1, none⟩) vs.length cap] 90)).alloc (.cells #[.int .i64 0, .slice none 0 0] 90) = W1 := ⟨_, rfl⟩
  have B1 : Below w.heap.size w W1 := by rw [← hW1]; exact ((Below.refl _ _).alloc (Nat.le_refl _) _).alloc (by simp) _
  have z1 : w.heap.size + 1 < W1.heap.size := by rw [← hW1]; simp
  have c0 : W1.cell? ⟨w.heap.size, 0, none⟩ = some (.int .i64 ep) := by rw [← hW1]; simp [go_sem]
  have c1 : W1.cell? ⟨w.heap.size, 1, none⟩ = some (.slice (some ⟨b1, o1, none⟩) vs.length cap) := by rw [← hW1]; simp [go_sem]
  have d0 : W1.cell? ⟨w.heap.size + 1, 0, none⟩ = some (.int .i64 0) := by rw [← hW1]; simp [go_sem]
  have d1 : W1.cell? ⟨w.heap.size + 1, 1, none⟩ = some (.slice none 0 0) := by rw [← hW1]; simp [go_sem]
  have f0 : W1.frozen? ⟨w.heap.size + 1, 0, none⟩ = false := by rw [← hW1]; simp [go_sem]
  have f1 : W1.frozen? ⟨w.heap.size + 1, 1, none⟩ = false := by rw [← hW1]; simp [go_sem]
  have z0 : w.heap.size < W1.heap.size := by omega
  have hb2 : b1 < W1.heap.size := by omega
  have HD := Lib.hid (fun (u : World) (hu : Below W1.heap.size W1 u) => (fun i h => ⟨(hu.cell (p := ⟨b1, o1 + i * 2, none⟩) hb2).trans ((B1.cell (p := ⟨b1, o1 + i * 2, none⟩) hb1).trans (HC.out i h).1), (hu.cell (p := ⟨b1, o1 + i * 2 + 1, none⟩) hb2).trans ((B1.cell (p := ⟨b1, o1 + i * 2 + 1, none⟩) hb1).trans (HC.out i h).2)⟩ : ∀ i (h : i < vs.length), u.cell? ⟨b1, o1 + i * 2, none⟩ = some (.string vs[i].f0) ∧ u.cell? ⟨b1, o1 + i * 2 + 1, none⟩ = some (.int .i64 vs[i].f1)))
  have HB1 := Lib.hid B1
  clear B1
  have ht1 : (vs.take (k + 1)).length = k + 1 := by simp; omega
  have HT1 := Lib.hid ht1
  clear ht1
  go_enter Try.func187, Try.ntmps187
  go_wp2_with (at_builtin; refine wpList_append_lies _ rfl _ _ 88 rfl W1.heap.size 98 i0 (.agg #[.string ⟨#[]⟩, .int .i64 0]) 2 24 Try.underlying88 hi hz0 hz1 hz2 rfl (by decide) _ 0 [] rfl (emptyRows (heap_alloc_new _ _) (Nat.le_refl _)) ⟨b1, o1, none⟩ (k + 1) cap ((vs.take (k + 1)).flatMap rowCells) rfl (by rw [rows_len, HT1.out]) (rows_take_news (by omega) (HD.out _ ((Below.refl _ _).alloc (Nat.le_refl _) _))) (rows_one _) (by omega) (by unfold maxLen; omega) (by omega) (by simp) _ rfl ?_; intro g cp w2 hown hgrow hat hlt2; have hbA := below_append1 hgrow; have X := Lib.hid (And.intro hown hbA); clear hown hgrow hat hlt2 hbA)
  clear hW1
  obtain ⟨hown1, hbA⟩ := X.out
  rw [Nat.zero_add, List.nil_append] at hown1
  have hg1 := (hown1.lt g rfl).1
  have c0' := (hbA.cell (p := ⟨w.heap.size, 0, none⟩) z0).trans c0
  have c1' := (hbA.cell (p := ⟨w.heap.size, 1, none⟩) z0).trans c1
  have d0' := (hbA.cell (p := ⟨w.heap.size + 1, 0, none⟩) z1).trans d0
  have d1' := (hbA.cell (p := ⟨w.heap.size + 1, 1, none⟩) z1).trans d1
  have f0' := (hbA.frozen (p := ⟨w.heap.size + 1, 0, none⟩) z1).trans f0
  have f1' := (hbA.frozen (p := ⟨w.heap.size + 1, 1, none⟩) z1).trans f1
  have HO := Lib.hid hown1
  have HA := Lib.hid hbA
  have HG := Lib.hid (fun (w3 : World) (h : w2.drew.grownBy w3 (some g)) => Below.grown (hbA.drew) h hbA.size (fun j hj => by cases hj; exact hg1))
  have hs2 : W1.heap.size ≤ w2.heap.size := hbA.size
  clear X hown1 hbA c0 c1 d0 d1 f0 f1
  have hw2 : IntKind.i64.wrap ((k : Int) + 2) = (k : Int) + 2 := by rw [IntKind.wrap_i64]; omega
  have hwe : IntKind.i64.wrap (ep + 1) = ep + 1 := by rw [IntKind.wrap_i64]; omega
  by_cases hlast : k + 2 < vs.length
  · have HT2 := Lib.hid (show (vs.drop (k + 2)).length = vs.length - (k + 2) by simp)
    have q1 : (0 : Int) ≤ (k : Int) + 2 := by omega
    have q2 : (k : Int) + 2 ≤ (vs.length : Int) := by omega
    have q3 : ((k : Int) + 2).toNat = k + 2 := by omega
    have q4 : ¬ cap = k + 2 := by omega
    have q5 : k + 2 ≤ cap := by omega
    go_region_law (refine step_append_lies _ rfl (.tmp 16) (.tmp 21) 88 rfl W1.heap.size 98 i0 (.agg #[.string ⟨#[]⟩, .int .i64 0]) 2 24 Try.underlying88 hi hz0 hz1 hz2 rfl (by decide) _ (k + 1) _ rfl HO.out.drew ⟨b1, o1 + (k + 2) * 2, none⟩ (vs.length - (k + 2)) (cap - (k + 2)) ((vs.drop (k + 2)).flatMap rowCells) rfl (by rw [rows_len, HT2.out]) (rows_drop_news (by omega) (HD.out _ HA.out.drew)) (rows_one _) (by omega) (by unfold maxLen; omega) (by omega) hs2 _ rfl ?_; intro g2 cp2 w3 hown hgrow hat hlt2; have hbB := HG.out _ hgrow; have c0'' := (hbB.cell (p := ⟨w.heap.size, 0, none⟩) z0).trans ((HA.out.cell (p := ⟨w.heap.size, 0, none⟩) z0).symm.trans c0'); have d0'' := (hbB.cell (p := ⟨w.heap.size + 1, 0, none⟩) z1).trans ((HA.out.cell (p := ⟨w.heap.size + 1, 0, none⟩) z1).symm.trans d0'); have d1'' := (hbB.cell (p := ⟨w.heap.size + 1, 1, none⟩) z1).trans ((HA.out.cell (p := ⟨w.heap.size + 1, 1, none⟩) z1).symm.trans d1'); have f0'' := (hbB.frozen (p := ⟨w.heap.size + 1, 0, none⟩) z1).trans ((HA.out.frozen (p := ⟨w.heap.size + 1, 0, none⟩) z1).symm.trans f0'); have f1'' := (hbB.frozen (p := ⟨w.heap.size + 1, 1, none⟩) z1).trans ((HA.out.frozen (p := ⟨w.heap.size + 1, 1, none⟩) z1).symm.trans f1'); have X := Lib.hid (And.intro hown hbB); clear hown hgrow hat hlt2 hbB)
    all_goals
      go_wp2_with fail
      refine bodyPost_ret (v := .agg #[.int .i64 (ep + 1), .slice (some ⟨g2, 0, none⟩) (k + 1 + (vs.length - (k + 2))) cp2]) (by simp [results, Try.results187, go_sem, d0'', d1'']) rfl ?_
      obtain ⟨hown, hbB⟩ := X.out
      have hl : (vs.take (k + 1) ++ vs.drop (k + 2)).length = k + 1 + (vs.length - (k + 2)) := by rw [List.length_append, HT1.out, HT2.out]
      rw [← List.flatMap_append, ← hl] at hown
      have hg := (hown.lt g2 rfl).1
      exact ⟨_, _, by rw [hl], (pmAt_own (lo := w.heap.size) hown (by omega)).set2 (by omega), ((HB1.out.trans (hbB.mono (by omega))).setCell (p := ⟨w.heap.size + 1, 0, none⟩) (by simp) _).setCell (p := ⟨w.heap.size + 1, 1, none⟩) (by simp) _, own_cap hown⟩
  · have HT2 := Lib.hid (show vs.drop (k + 2) = [] by rw [List.drop_eq_nil_iff]; omega)
    have hcp := own_cap (vs := vs.take (k + 1)) (by rw [HT1.out]; exact HO.out)
    rw [HT1.out] at hcp
    have hz : vs.length - (k + 2) = 0 := by omega
    have q1 : (0 : Int) ≤ (k : Int) + 2 := by omega
    have q2 : (k : Int) + 2 ≤ (vs.length : Int) := by omega
    have q3 : ((k : Int) + 2).toNat = k + 2 := by omega
    have hcp1 := hcp.1
    have q6 : ¬ (cp < k + 1) := by omega
    clear hcp
    by_cases q4 : cap = k + 2
    all_goals
      go_region_law (fail)
    all_goals
      go_wp2_with fail
      refine bodyPost_ret (v := .agg #[.int .i64 (ep + 1), .slice (some ⟨g, 0, none⟩) (k + 1) cp]) (by simp [results, Try.results187, go_sem, d0', d1']) rfl ?_
      have hl : (vs.take (k + 1) ++ vs.drop (k + 2)).length = k + 1 := by rw [HT2.out, List.append_nil, HT1.out]
      have hown := HO.out
      have hown2 : w2.ownsRow W1.heap.size 98 2 (.slice (some ⟨g, 0, none⟩) (vs.take (k + 1) ++ vs.drop (k + 2)).length cp) (vs.take (k + 1) ++ vs.drop (k + 2)).length ((vs.take (k + 1) ++ vs.drop (k + 2)).flatMap rowCells) := by rw [hl, HT2.out, List.append_nil]; exact hown
      exact ⟨_, _, by rw [hl], ((pmAt_own (lo := w.heap.size) hown2 (by omega)).set2 (r := w.heap.size + 1) (by omega)).drewAt, (((HB1.out.trans (HA.out.mono (by omega))).setCell (p := ⟨w.heap.size + 1, 0, none⟩) (by simp) _).setCell (p := ⟨w.heap.size + 1, 1, none⟩) (by simp) _).drew, own_cap hown2⟩
end Go.Proofs.Ytjijichgoodocaa
