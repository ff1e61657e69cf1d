/- The rows of a map of parts with their spans, as the program lays them. -/
import Derived.Test.YtodpodgdhiadnaaPmapI
import Derived.Deep.AppendLies
import Derived.Lib.SmallJoins
namespace Go.Proofs.Ytodpodgdhiadnaa
open Go.RowKit

def hiOf (vs : List RowD) (k : Nat) : ByteArray := if h : k + 1 < vs.length then vs[k + 1].f0 else ⟨#[]⟩
theorem hiOf_lt {vs : List RowD} {k : Nat} (h : k + 1 < vs.length) : hiOf vs k = vs[k + 1].f0 := by simp [hiOf, h]
theorem hiOf_ge {vs : List RowD} {k : Nat} (h : ¬ k + 1 < vs.length) : hiOf vs k = ⟨#[]⟩ := by simp [hiOf, h]
def loOf (vs : List RowD) (k : Nat) : ByteArray := if h : k < vs.length then vs[k].f0 else ⟨#[]⟩
theorem loOf_lt {vs : List RowD} {k : Nat} (h : k < vs.length) : loOf vs k = vs[k].f0 := by simp [loOf, h]
def srCells (vs : List RowD) (i : Nat) : List Value := [.string (loOf vs i), .string (hiOf vs i), .int .i64 (i : Int)]
def spCells (vs : List RowD) (k : Nat) : List Value := (List.range k).flatMap (srCells vs)
theorem spCells_succ (vs : List RowD) (k : Nat) : spCells vs (k + 1) = spCells vs k ++ srCells vs k := by simp [spCells, List.range_succ]

theorem infoSpanRow : (Try.prog.info? 175).map (fun i => (i.zero, i.size, i.bytes)) = some (some (.agg #[.string ⟨#[]⟩, .string ⟨#[]⟩, .int .i64 0]), 3, 40) := by kernel_rfl

theorem news3 (w : World) (x y z : Value) (t : TypeId) (g : Nat) (hg : w.heap.size = g) : ∀ j u, [x, y, z][j]? = some u → (w.alloc (.cells #[x, y, z] t)).cell? ((⟨g, 0, none⟩ : Addr).add j) = some u := by
  subst hg
  exact World.news_of_block (heap_alloc_new w _)

set_option maxRecDepth 100000 in
set_option maxHeartbeats 1000000 in
theorem spanRows_any (ep : Int) (a : Option Addr) (vs : List RowD) (cap : Nat) (w : World) (hv : RowsIn w a vs) (hn : vs.length ≤ 1048576) :
    Calls Try.prog 134 #[.agg #[.int .i64 ep, .slice a vs.length cap]] w (fun e w' => ∃ v, e = .returned v ∧ w'.ownsRow w.heap.size 175 3 v vs.length (spCells vs vs.length) ∧ Below w.heap.size w w') := by
  have HV := Lib.hid hv
  clear hv
  obtain ⟨i0, hi, hz0, hz1, hz2⟩ := info_parts infoSpanRow
  go_enter Try.func134, Try.ntmps134
  go_wp2_with fail
  go_loopw [3, 10] (fun v i wr => ∃ k : Nat, k ≤ vs.length ∧ i = .int .i64 k ∧ Below (w.heap.size + 1) (w.alloc (.cells #[.int .i64 ep, .slice a vs.length cap] 80)) wr ∧ wr.ownsRow (w.heap.size + 1) 175 3 v k (spCells vs k)) (fun _ i _ => vs.length - (intOf i).toNat)
  case atStart => exact ⟨0, Nat.zero_le _, rfl, Below.refl _ _, World.ownsRow_nil _ _ _ _⟩
  case round =>
    obtain ⟨k, hk, rfl, hB, hO⟩ := hrel
    have c0 := hB.cell (p := ⟨w.heap.size, 0, none⟩) (by simp)
    have c1 := hB.cell (p := ⟨w.heap.size, 1, none⟩) (by simp)
    simp [go_sem] at c0 c1
    have HW := Lib.hid (((Below.refl w.heap.size w).alloc (Nat.le_refl _) _).trans (hB.mono (by omega)))
    have HB := Lib.hid hB
    have HO := Lib.hid hO
    have hsz : w.heap.size < wr.heap.size := by have := hB.size; simp at this; omega
    clear hB hO
    by_cases hlt : k < vs.length
    · rcases HV.out.below HW.out with hnil | ⟨b1, o1, rfl, hb1, hc1⟩
      · rw [hnil] at hlt; simp at hlt
      obtain ⟨d0, d1⟩ := hc1 k hlt
      by_cases hl2 : k + 1 < vs.length
      · obtain ⟨e0, _⟩ := hc1 (k + 1) hl2
        clear hc1
        go_wp2_with (at_builtin; refine wpList_append_lies _ rfl _ _ 176 rfl (w.heap.size + 1) 175 i0 (.agg #[.string ⟨#[]⟩, .string ⟨#[]⟩, .int .i64 0]) 3 40 Try.underlying176 hi hz0 hz1 hz2 rfl (by decide) _ k (spCells vs k) rfl (((HO.out.alloc _).alloc _).alloc _) ⟨wr.heap.size + 1 + 1, 0, none⟩ 1 1 [.string vs[k].f0, .string vs[k + 1].f0, .int .i64 (k : Int)] rfl rfl (news3 _ _ _ _ _ _ (by simp)) (fun u hu => by simp at hu; rcases hu with rfl | rfl | rfl <;> rfl) (by omega) (by unfold maxLen; omega) (by omega) (by simp; omega) _ rfl ?_; intro g cp w2 hown hgrow hat hlt2; have X := Lib.hid (And.intro hown hgrow); clear hown hgrow hat hlt2)
        go_roundw
        case rel => exact ⟨k + 1, by omega, by go_num, Below.grown (((HB.out.alloc (by omega) _).alloc (by simp; omega) _).alloc (by simp; omega) _) X.out.2 (by simp; omega) (fun j hj => (HO.out.lt j hj).1), by rw [spCells_succ, srCells, loOf_lt hlt, hiOf_lt hl2]; exact X.out.1⟩
        case measure => simp [intOf]; omega
      · clear hc1
        go_wp2_with (at_builtin; refine wpList_append_lies _ rfl _ _ 176 rfl (w.heap.size + 1) 175 i0 (.agg #[.string ⟨#[]⟩, .string ⟨#[]⟩, .int .i64 0]) 3 40 Try.underlying176 hi hz0 hz1 hz2 rfl (by decide) _ k (spCells vs k) rfl (((HO.out.alloc _).alloc _).alloc _) ⟨wr.heap.size + 1 + 1, 0, none⟩ 1 1 [.string vs[k].f0, .string ⟨#[]⟩, .int .i64 (k : Int)] rfl rfl (news3 _ _ _ _ _ _ (by simp)) (fun u hu => by simp at hu; rcases hu with rfl | rfl | rfl <;> rfl) (by omega) (by unfold maxLen; omega) (by omega) (by simp; omega) _ rfl ?_; intro g cp w2 hown hgrow hat hlt2; have X := Lib.hid (And.intro hown hgrow); clear hown hgrow hat hlt2)
        go_roundw
        case rel => exact ⟨k + 1, by omega, by go_num, Below.grown (((HB.out.alloc (by omega) _).alloc (by simp; omega) _).alloc (by simp; omega) _) X.out.2 (by simp; omega) (fun j hj => (HO.out.lt j hj).1), by rw [spCells_succ, srCells, loOf_lt hlt, hiOf_ge hl2]; exact X.out.1⟩
        case measure => simp [intOf]; omega
    · obtain rfl : k = vs.length := by omega
      go_wp2_with fail
      go_ret
      exact ⟨_, rfl, Joins.ownsRow_le HO.out (by omega), HW.out⟩
end Go.Proofs.Ytodpodgdhiadnaa

/- The span of a row, as the program tells it. -/
namespace Go.Proofs.Ytodpodgdhiadnaa
open Go.RowKit

theorem spCells_len (vs : List RowD) (n : Nat) : (spCells vs n).length = n * 3 := by
  induction n with
  | zero => rfl
  | succ n ih => rw [spCells_succ, List.length_append, ih]; simp [srCells]; omega
theorem spCells_at (vs : List RowD) (n i : Nat) (h : i < n) : (spCells vs n)[i * 3]? = some (.string (loOf vs i)) ∧ (spCells vs n)[i * 3 + 1]? = some (.string (hiOf vs i)) ∧ (spCells vs n)[i * 3 + 2]? = some (.int .i64 (i : Int)) := by
  induction n with
  | zero => omega
  | succ n ih =>
    have hl := spCells_len vs n
    rw [spCells_succ]
    by_cases e : i = n
    · subst e
      refine ⟨?_, ?_, ?_⟩
      all_goals (rw [List.getElem?_append_right (by omega)]; simp [hl, srCells])
    · obtain ⟨h1, h2, h3⟩ := ih (by omega)
      refine ⟨?_, ?_, ?_⟩
      all_goals (rw [List.getElem?_append_left (by omega)]; assumption)

def PmSpanPost (ep : Int) (vs : List RowD) (k : Int) (w : World) (e : Ending) (w' : World) : Prop :=
  ∃ b : Bool, (b = true ↔ PmapOkP ep vs ∧ 0 ≤ k ∧ k < vs.length) ∧ e = .returned (.tuple #[.agg #[.string (if b then loOf vs k.toNat else ⟨#[]⟩), .string (if b then hiOf vs k.toNat else ⟨#[]⟩)], .bool b]) ∧ Below w.heap.size w w'
theorem PmSpanPost.no {ep : Int} {vs : List RowD} {k : Int} {w w' : World} (h : ¬ (PmapOkP ep vs ∧ 0 ≤ k ∧ k < vs.length)) (hb : Below w.heap.size w w') : PmSpanPost ep vs k w (.returned (.tuple #[.agg #[.string ⟨#[]⟩, .string ⟨#[]⟩], .bool false])) w' :=
  ⟨false, by simpa using h, rfl, hb⟩
theorem PmSpanPost.yes {ep : Int} {vs : List RowD} {j : Nat} {w w' : World} (h : PmapOkP ep vs) (hj : j < vs.length) (hb : Below w.heap.size w w') : PmSpanPost ep vs (j : Int) w (.returned (.tuple #[.agg #[.string (loOf vs j), .string (hiOf vs j)], .bool true])) w' :=
  ⟨true, by simp [h]; omega, by simp, hb⟩

set_option maxRecDepth 100000 in
set_option maxHeartbeats 1000000 in
theorem pmapSpan_any (ep : Int) (a : Option Addr) (vs : List RowD) (cap : Nat) (k : Int) (w : World) (hv : RowsIn w a vs) (hf : ∀ v ∈ vs, v.fits) (hlen : vs.length ≤ 1048576) :
    Calls Try.prog 52 #[.agg #[.int .i64 ep, .slice a vs.length cap], .int .i64 k] w (PmSpanPost ep vs k w) := by
  have HV := Lib.hid hv
  have HF := Lib.hid hf
  clear hv hf
  obtain ⟨W1, hW1⟩ : ∃ W1, (w.alloc (.cells #[.int .i64 ep, .slice a vs.length cap] 80)).alloc (.cells #[.string ⟨#[]⟩, .string ⟨#[]⟩] 84) = W1 := ⟨_, rfl⟩
  have B1 : Below w.heap.size w W1 := by rw [← hW1]; exact ((Below.refl _ _).alloc (Nat.le_refl _) _).alloc (by simp) _
  have z1 : w.heap.size + 1 < W1.heap.size := by rw [← hW1]; simp
  have c0 : W1.cell? ⟨w.heap.size, 0, none⟩ = some (.int .i64 ep) := by rw [← hW1]; simp [go_sem]
  have c1 : W1.cell? ⟨w.heap.size, 1, none⟩ = some (.slice a vs.length cap) := by rw [← hW1]; simp [go_sem]
  have d0 : W1.cell? ⟨w.heap.size + 1, 0, none⟩ = some (.string ⟨#[]⟩) := by rw [← hW1]; simp [go_sem]
  have d1 : W1.cell? ⟨w.heap.size + 1, 1, none⟩ = some (.string ⟨#[]⟩) := by rw [← hW1]; simp [go_sem]
  have f0 : W1.frozen? ⟨w.heap.size + 1, 0, none⟩ = false := by rw [← hW1]; simp [go_sem]
  have f1 : W1.frozen? ⟨w.heap.size + 1, 1, none⟩ = false := by rw [← hW1]; simp [go_sem]
  by_cases hneg : k < 0
  · go_enter Try.func52, Try.ntmps52
    go_wp2_with fail
    clear hW1
    refine (pmapOk_any ep a vs cap W1 (HV.out.below B1) HF.out (by unfold maxLen; omega)).mono ?_
    rintro e w1 ⟨b, rfl, hk, hb⟩
    have B2 := Lib.hid (B1.trans (hb.mono (by omega)))
    have c0' := (hb.cell (p := ⟨w.heap.size, 0, none⟩) (by show w.heap.size < _; omega)).trans c0
    have c1' := (hb.cell (p := ⟨w.heap.size, 1, none⟩) (by show w.heap.size < _; omega)).trans c1
    have d0' := (hb.cell (p := ⟨w.heap.size + 1, 0, none⟩) (by show w.heap.size + 1 < _; omega)).trans d0
    have d1' := (hb.cell (p := ⟨w.heap.size + 1, 1, none⟩) (by show w.heap.size + 1 < _; omega)).trans d1
    have f0' := (hb.frozen (p := ⟨w.heap.size + 1, 0, none⟩) (by show w.heap.size + 1 < _; omega)).trans f0
    have f1' := (hb.frozen (p := ⟨w.heap.size + 1, 1, none⟩) (by show w.heap.size + 1 < _; omega)).trans f1
    clear hb c0 c1 d0 d1 f0 f1 hk
    cases b
    all_goals
      go_wp2_with fail
      exact bodyPost_ret (v := .tuple #[.agg #[.string ⟨#[]⟩, .string ⟨#[]⟩], .bool false]) (by simp [results, Try.results52, go_sem, d0', d1']) rfl (PmSpanPost.no (fun h => by omega) ((B2.out.setCell (p := ⟨w.heap.size + 1, 0, none⟩) (by simp) _).setCell (p := ⟨w.heap.size + 1, 1, none⟩) (by simp) _))
  · obtain ⟨j, rfl⟩ := Int.eq_ofNat_of_zero_le (Int.not_lt.1 hneg)
    clear hneg
    by_cases hj : j < vs.length
    · go_enter Try.func52, Try.ntmps52
      go_wp2_with fail
      clear hW1
      refine (pmapOk_any ep a vs cap W1 (HV.out.below B1) HF.out (by unfold maxLen; omega)).mono ?_
      rintro e w1 ⟨b, rfl, hk, hb⟩
      have B2 := Lib.hid (B1.trans (hb.mono (by omega)))
      have c0' := (hb.cell (p := ⟨w.heap.size, 0, none⟩) (by show w.heap.size < _; omega)).trans c0
      have c1' := (hb.cell (p := ⟨w.heap.size, 1, none⟩) (by show w.heap.size < _; omega)).trans c1
      have d0' := (hb.cell (p := ⟨w.heap.size + 1, 0, none⟩) (by show w.heap.size + 1 < _; omega)).trans d0
      have d1' := (hb.cell (p := ⟨w.heap.size + 1, 1, none⟩) (by show w.heap.size + 1 < _; omega)).trans d1
      have f0' := (hb.frozen (p := ⟨w.heap.size + 1, 0, none⟩) (by show w.heap.size + 1 < _; omega)).trans f0
      have f1' := (hb.frozen (p := ⟨w.heap.size + 1, 1, none⟩) (by show w.heap.size + 1 < _; omega)).trans f1
      have s1 : w.heap.size + 1 < w1.heap.size := Nat.lt_of_lt_of_le z1 hb.size
      have HK := Lib.hid hk
      clear hb c0 c1 d0 d1 f0 f1 hk
      cases b
      · go_wp2_with fail
        exact bodyPost_ret (v := .tuple #[.agg #[.string ⟨#[]⟩, .string ⟨#[]⟩], .bool false]) (by simp [results, Try.results52, go_sem, d0', d1']) rfl (PmSpanPost.no (fun h => by simpa using HK.out.2 h.1) ((B2.out.setCell (p := ⟨w.heap.size + 1, 0, none⟩) (by simp) _).setCell (p := ⟨w.heap.size + 1, 1, none⟩) (by simp) _))
      · go_wp2_with fail
        refine (spanRows_any ep a vs cap w1 (HV.out.below B2.out) hlen).mono ?_
        rintro e w2 ⟨v, rfl, hown, hb2⟩
        obtain ⟨g, cp, rfl⟩ := Joins.ownsRow_form hown (by omega)
        obtain ⟨q0, q1, _⟩ := spCells_at vs vs.length j hj
        have r0 := (hown.cellAt (j * 3) (by omega)).trans q0
        have r1 := (hown.cellAt (j * 3 + 1) (by omega)).trans q1
        have d0'' := (hb2.cell (p := ⟨w.heap.size + 1, 0, none⟩) s1).trans d0'
        have d1'' := (hb2.cell (p := ⟨w.heap.size + 1, 1, none⟩) s1).trans d1'
        have f0'' := (hb2.frozen (p := ⟨w.heap.size + 1, 0, none⟩) s1).trans f0'
        have f1'' := (hb2.frozen (p := ⟨w.heap.size + 1, 1, none⟩) s1).trans f1'
        have B3 := Lib.hid (B2.out.trans (hb2.mono (by omega)))
        clear hb2 hown q0 q1 c0' c1' d0' d1' f0' f1'
        go_wp2_with fail
        exact bodyPost_ret (v := .tuple #[.agg #[.string (loOf vs j), .string (hiOf vs j)], .bool true]) (by simp [results, Try.results52, go_sem, d0'', d1'']) rfl (PmSpanPost.yes (HK.out.1 (by simp)) hj ((B3.out.setCell (p := ⟨w.heap.size + 1, 0, none⟩) (by simp) _).setCell (p := ⟨w.heap.size + 1, 1, none⟩) (by simp) _))
    · go_enter Try.func52, Try.ntmps52
      go_wp2_with fail
      clear hW1
      refine (pmapOk_any ep a vs cap W1 (HV.out.below B1) HF.out (by unfold maxLen; omega)).mono ?_
      rintro e w1 ⟨b, rfl, hk, hb⟩
      have B2 := Lib.hid (B1.trans (hb.mono (by omega)))
      have c0' := (hb.cell (p := ⟨w.heap.size, 0, none⟩) (by show w.heap.size < _; omega)).trans c0
      have c1' := (hb.cell (p := ⟨w.heap.size, 1, none⟩) (by show w.heap.size < _; omega)).trans c1
      have d0' := (hb.cell (p := ⟨w.heap.size + 1, 0, none⟩) (by show w.heap.size + 1 < _; omega)).trans d0
      have d1' := (hb.cell (p := ⟨w.heap.size + 1, 1, none⟩) (by show w.heap.size + 1 < _; omega)).trans d1
      have f0' := (hb.frozen (p := ⟨w.heap.size + 1, 0, none⟩) (by show w.heap.size + 1 < _; omega)).trans f0
      have f1' := (hb.frozen (p := ⟨w.heap.size + 1, 1, none⟩) (by show w.heap.size + 1 < _; omega)).trans f1
      clear hb c0 c1 d0 d1 f0 f1 hk
      cases b
      all_goals
        go_wp2_with fail
        exact bodyPost_ret (v := .tuple #[.agg #[.string ⟨#[]⟩, .string ⟨#[]⟩], .bool false]) (by simp [results, Try.results52, go_sem, d0', d1']) rfl (PmSpanPost.no (fun h => by omega) ((B2.out.setCell (p := ⟨w.heap.size + 1, 0, none⟩) (by simp) _).setCell (p := ⟨w.heap.size + 1, 1, none⟩) (by simp) _))
end Go.Proofs.Ytodpodgdhiadnaa
