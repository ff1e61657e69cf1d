/- The rows of a map of parts with their spans, as the program lays them. -/
import Derived.Test.YtjijichgoodocaaPmapI
import Derived.Deep.AppendLies
import Derived.Lib.SmallJoins
import Derived.Test.YtjijichgoodocaaSpan
namespace Go.Proofs.Ytjijichgoodocaa
open Go.RowKit

def hiOf (vs : List RowD) (k : Nat) : ByteArray := if h : k + 1 < vs.length then vs[k + 1].f0 else ⟨#[]⟩
theorem hiOf_lt {vs : List RowD} {k : Nat} (h : k + 1 < vs.length) : hiOf vs k = vs[k + 1].f0 := by simp [hiOf, h]
theorem hiOf_ge {vs : List RowD} {k : Nat} (h : ¬ k + 1 < vs.length) : hiOf vs k = ⟨#[]⟩ := by simp [hiOf, h]
def loOf (vs : List RowD) (k : Nat) : ByteArray := if h : k < vs.length then vs[k].f0 else ⟨#[]⟩
theorem loOf_lt {vs : List RowD} {k : Nat} (h : k < vs.length) : loOf vs k = vs[k].f0 := by simp [loOf, h]
def srCells (vs : List RowD) (i : Nat) : List Value := [.string (loOf vs i), .string (hiOf vs i), .int .i64 (i : Int)]
def spCells (vs : List RowD) (k : Nat) : List Value := (List.range k).flatMap (srCells vs)
theorem spCells_succ (vs : List RowD) (k : Nat) : spCells vs (k + 1) = spCells vs k ++ srCells vs k := by simp [spCells, List.range_succ]

theorem infoSpanRow : (Try.prog.info? 156).map (fun i => (i.zero, i.size, i.bytes)) = some (some (.agg #[.string ⟨#[]⟩, .string ⟨#[]⟩, .int .i64 0]), 3, 40) := by kernel_rfl

theorem news3 (w : World) (x y z : Value) (t : TypeId) (g : Nat) (hg : w.heap.size = g) : ∀ j u, [x, y, z][j]? = some u → (w.alloc (.cells #[x, y, z] t)).cell? ((⟨g, 0, none⟩ : Addr).add j) = some u := by
  subst hg
  exact World.news_of_block (heap_alloc_new w _)

set_option maxRecDepth 100000 in
set_option maxHeartbeats 1000000 in
theorem spanRows_any (ep : Int) (a : Option Addr) (vs : List RowD) (cap : Nat) (w : World) (hv : RowsIn w a vs) (hn : vs.length ≤ 1048576) :
    Calls Try.prog 121 #[.agg #[.int .i64 ep, .slice a vs.length cap]] w (fun e w' => ∃ v, e = .returned v ∧ w'.ownsRow w.heap.size 156 3 v vs.length (spCells vs vs.length) ∧ Below w.heap.size w w') := by
  have HV := Lib.hid hv
  clear hv
  obtain ⟨i0, hi, hz0, hz1, hz2⟩ := info_parts infoSpanRow
  go_enter Try.func121, Try.ntmps121
  go_wp2_with fail
  go_loopw [3, 10] (fun v i wr => ∃ k : Nat, k ≤ vs.length ∧ i = .int .i64 k ∧ Below (w.heap.size + 1) (w.alloc (.cells #[.int .i64 ep, .slice a vs.length cap] 90)) wr ∧ wr.ownsRow (w.heap.size + 1) 156 3 v k (spCells vs k)) (fun _ i _ => vs.length - (intOf i).toNat)
  case atStart => exact ⟨0, Nat.zero_le _, rfl, Below.refl _ _, World.ownsRow_nil _ _ _ _⟩
  case round =>
    obtain ⟨k, hk, rfl, hB, hO⟩ := hrel
    have c0 := hB.cell (p := ⟨w.heap.size, 0, none⟩) (by simp)
    have c1 := hB.cell (p := ⟨w.heap.size, 1, none⟩) (by simp)
    simp [go_sem] at c0 c1
    have HW := Lib.hid (((Below.refl w.heap.size w).alloc (Nat.le_refl _) _).trans (hB.mono (by omega)))
    have HB := Lib.hid hB
    have HO := Lib.hid hO
    have hsz : w.heap.size < wr.heap.size := by have := hB.size; simp at this; omega
    clear hB hO
    by_cases hlt : k < vs.length
    · rcases HV.out.below HW.out with hnil | ⟨b1, o1, rfl, hb1, hc1⟩
      · rw [hnil] at hlt; simp at hlt
      obtain ⟨d0, d1⟩ := hc1 k hlt
      by_cases hl2 : k + 1 < vs.length
      · obtain ⟨e0, _⟩ := hc1 (k + 1) hl2
        clear hc1
        go_wp2_with (at_builtin; refine wpList_append_lies _ rfl _ _ 153 rfl (w.heap.size + 1) 156 i0 (.agg #[.string ⟨#[]⟩, .string ⟨#[]⟩, .int .i64 0]) 3 40 Try.underlying153 hi hz0 hz1 hz2 rfl (by decide) _ k (spCells vs k) rfl (((HO.out.alloc _).alloc _).alloc _) ⟨wr.heap.size + 1 + 1, 0, none⟩ 1 1 [.string vs[k].f0, .string vs[k + 1].f0, .int .i64 (k : Int)] rfl rfl (news3 _ _ _ _ _ _ (by simp)) (fun u hu => by simp at hu; rcases hu with rfl | rfl | rfl <;> rfl) (by omega) (by unfold maxLen; omega) (by omega) (by simp; omega) _ rfl ?_; intro g cp w2 hown hgrow hat hlt2; have X := Lib.hid (And.intro hown hgrow); clear hown hgrow hat hlt2)
        go_roundw
        case rel => exact ⟨k + 1, by omega, by go_num, Below.grown (((HB.out.alloc (by omega) _).alloc (by simp; omega) _).alloc (by simp; omega) _) X.out.2 (by simp; omega) (fun j hj => (HO.out.lt j hj).1), by rw [spCells_succ, srCells, loOf_lt hlt, hiOf_lt hl2]; exact X.out.1⟩
        case measure => simp [intOf]; omega
      · clear hc1
        go_wp2_with (at_builtin; refine wpList_append_lies _ rfl _ _ 153 rfl (w.heap.size + 1) 156 i0 (.agg #[.string ⟨#[]⟩, .string ⟨#[]⟩, .int .i64 0]) 3 40 Try.underlying153 hi hz0 hz1 hz2 rfl (by decide) _ k (spCells vs k) rfl (((HO.out.alloc _).alloc _).alloc _) ⟨wr.heap.size + 1 + 1, 0, none⟩ 1 1 [.string vs[k].f0, .string ⟨#[]⟩, .int .i64 (k : Int)] rfl rfl (news3 _ _ _ _ _ _ (by simp)) (fun u hu => by simp at hu; rcases hu with rfl | rfl | rfl <;> rfl) (by omega) (by unfold maxLen; omega) (by omega) (by simp; omega) _ rfl ?_; intro g cp w2 hown hgrow hat hlt2; have X := Lib.hid (And.intro hown hgrow); clear hown hgrow hat hlt2)
        go_roundw
        case rel => exact ⟨k + 1, by omega, by go_num, Below.grown (((HB.out.alloc (by omega) _).alloc (by simp; omega) _).alloc (by simp; omega) _) X.out.2 (by simp; omega) (fun j hj => (HO.out.lt j hj).1), by rw [spCells_succ, srCells, loOf_lt hlt, hiOf_ge hl2]; exact X.out.1⟩
        case measure => simp [intOf]; omega
    · obtain rfl : k = vs.length := by omega
      go_wp2_with fail
      go_ret
      exact ⟨_, rfl, Joins.ownsRow_le HO.out (by omega), HW.out⟩
end Go.Proofs.Ytjijichgoodocaa

/- The span of a row, as the program tells it. -/
namespace Go.Proofs.Ytjijichgoodocaa
open Go.RowKit

theorem spCells_len (vs : List RowD) (n : Nat) : (spCells vs n).length = n * 3 := by
  induction n with
  | zero => rfl
  | succ n ih => rw [spCells_succ, List.length_append, ih]; simp [srCells]; omega
theorem spCells_at (vs : List RowD) (n i : Nat) (h : i < n) : (spCells vs n)[i * 3]? = some (.string (loOf vs i)) ∧ (spCells vs n)[i * 3 + 1]? = some (.string (hiOf vs i)) ∧ (spCells vs n)[i * 3 + 2]? = some (.int .i64 (i : Int)) := by
  induction n with
  | zero => omega
  | succ n ih =>
    have hl := spCells_len vs n
    rw [spCells_succ]
    by_cases e : i = n
    · subst e
      refine ⟨?_, ?_, ?_⟩
      all_goals (rw [List.getElem?_append_right (by omega)]; simp [hl, srCells])
    · obtain ⟨h1, h2, h3⟩ := ih (by omega)
      refine ⟨?_, ?_, ?_⟩
      all_goals (rw [List.getElem?_append_left (by omega)]; assumption)

def PmSpanPost (ep : Int) (vs : List RowD) (k : Int) (w : World) (e : Ending) (w' : World) : Prop :=
  ∃ b : Bool, (b = true ↔ PmapOkP ep vs ∧ 0 ≤ k ∧ k < vs.length) ∧ e = .returned (.tuple #[.agg #[.string (if b then loOf vs k.toNat else ⟨#[]⟩), .string (if b then hiOf vs k.toNat else ⟨#[]⟩)], .bool b]) ∧ Below w.heap.size w w'
theorem PmSpanPost.no {ep : Int} {vs : List RowD} {k : Int} {w w' : World} (h : ¬ (PmapOkP ep vs ∧ 0 ≤ k ∧ k < vs.length)) (hb : Below w.heap.size w w') : PmSpanPost ep vs k w (.returned (.tuple #[.agg #[.string ⟨#[]⟩, .string ⟨#[]⟩], .bool false])) w' :=
  ⟨false, by simpa using h, rfl, hb⟩
theorem PmSpanPost.yes {ep : Int} {vs : List RowD} {j : Nat} {w w' : World} (h : PmapOkP ep vs) (hj : j < vs.length) (hb : Below w.heap.size w w') : PmSpanPost ep vs (j : Int) w (.returned (.tuple #[.agg #[.string (loOf vs j), .string (hiOf vs j)], .bool true])) w' :=
  ⟨true, by simp [h]; omega, by simp, hb⟩
end Go.Proofs.Ytjijichgoodocaa

/- The span of a row, as the model tells it. -/
namespace Go.Proofs.Ytjijichgoodocaa
open Go.RowKit

set_option maxRecDepth 100000 in
set_option maxHeartbeats 1000000 in
theorem l5Span_any (ep : Int) (a : Option Addr) (vs : List RowD) (cap : Nat) (j : Nat) (w : World) (hv : RowsIn w a vs) (hj : j < vs.length) (hlen : vs.length ≤ 1048576) :
    Calls Try.prog 123 #[.agg #[.int .i64 ep, .slice a vs.length cap], .int .i64 (j : Int)] w fun e w' => e = .returned (.agg #[.string (loOf vs j), .string (hiOf vs j)]) ∧ Below w.heap.size w w' := by
  rcases hv with hnil | ⟨b1, o1, rfl, hb1, hc1⟩
  · rw [hnil] at hj; simp at hj
  obtain ⟨c0, c1⟩ := hc1 j hj
  have hb2 : b1 < w.heap.size + 1 := by omega
  have hb3 : b1 < w.heap.size + 1 + 1 := by omega
  by_cases hl2 : j + 1 < vs.length
  · obtain ⟨e0, _⟩ := hc1 (j + 1) hl2
    clear hc1 c1
    go_enter Try.func123, Try.ntmps123
    go_wp2_with fail
    change bodyPost _ _ _ _ _ _
    exact bodyPost_ret (v := .agg #[.string vs[j].f0, .string vs[j + 1].f0]) (by simp [results, Try.results123, go_sem]) rfl ⟨by rw [loOf_lt hj, hiOf_lt hl2], by exact (((Below.refl _ _).alloc (Nat.le_refl _) _).alloc (by simp) _).alloc (by simp; omega) _⟩
  · clear hc1 c1
    go_enter Try.func123, Try.ntmps123
    go_wp2_with fail
    change bodyPost _ _ _ _ _ _
    exact bodyPost_ret (v := .agg #[.string vs[j].f0, .string ⟨#[]⟩]) (by simp [results, Try.results123, go_sem]) rfl ⟨by rw [loOf_lt hj, hiOf_ge hl2], by exact (((Below.refl _ _).alloc (Nat.le_refl _) _).alloc (by simp) _).alloc (by simp; omega) _⟩
end Go.Proofs.Ytjijichgoodocaa

/- The row of a key, as the model tells it. -/
namespace Go.Proofs.Ytjijichgoodocaa
open Go.RowKit

def leB (x y : ByteArray) : Bool := Op.bytesLess x.toList y.toList || x.toList == y.toList
/-- Whether the rows from 1 to k begin no later than the key. -/
def FindTo (vs : List RowD) (key : ByteArray) (k : Nat) : Prop := k < vs.length ∧ ∀ i, 1 ≤ i → i ≤ k → leB (loOf vs i) key = true
def FindAt (vs : List RowD) (key : ByteArray) (k : Nat) : Prop := FindTo vs key k ∧ (k + 1 < vs.length → leB (loOf vs (k + 1)) key = false)
theorem FindAt.unique {vs : List RowD} {key : ByteArray} {j k : Nat} (h : FindAt vs key j) (g : FindAt vs key k) : j = k := by
  rcases Nat.lt_trichotomy j k with hlt | rfl | hlt
  · have := h.2 (by have := g.1.1; omega); rw [g.1.2 (j + 1) (by omega) (by omega)] at this; cases this
  · rfl
  · have := g.2 (by have := h.1.1; omega); rw [h.1.2 (k + 1) (by omega) (by omega)] at this; cases this

set_option maxRecDepth 100000 in
set_option maxHeartbeats 1000000 in
theorem l5Find_any (ep : Int) (a : Option Addr) (vs : List RowD) (cap : Nat) (key : ByteArray) (w : World) (hv : RowsIn w a vs) (h0 : 0 < vs.length) (hlen : vs.length ≤ 1048576) :
    Calls Try.prog 189 #[.agg #[.int .i64 ep, .slice a vs.length cap], .string key] w fun e w' => ∃ k : Nat, e = .returned (.int .i64 (k : Int)) ∧ FindAt vs key k ∧ Below w.heap.size w w' := by
  rcases hv with hnil | ⟨b1, o1, rfl, hb1, hc1⟩
  · rw [hnil] at h0; simp at h0
  have hb2 : b1 < w.heap.size + 1 := by omega
  have HC := Lib.hid hc1
  clear hc1
  go_enter Try.func189, Try.ntmps189
  go_wp2_with fail
  go_loop [5] (fun i => ∃ k : Nat, i = .int .i64 (k : Int) ∧ FindTo vs key k) (fun i => vs.length - (intOf i).toNat)
  case atStart => exact ⟨0, rfl, h0, fun i h1 h2 => by omega⟩
  case round =>
    obtain ⟨k, rfl, hF⟩ := hrel
    have hk := hF.1
    have HF := Lib.hid hF
    clear hF
    by_cases hlt : k + 1 < vs.length
    · have e0 := (HC.out (k + 1) hlt).1
      have hd : decide ((k : Int) + 1 < (vs.length : Int)) = true := by simp; omega
      cases hO : (Op.bytesLess vs[k + 1].f0.toList key.toList || vs[k + 1].f0.toList == key.toList)
      all_goals
        go_wp2_with fail
      · go_ret
        exact ⟨k, rfl, ⟨HF.out, fun _ => by rw [loOf_lt hlt]; exact hO⟩, (Below.refl _ _).alloc (Nat.le_refl _) _⟩
      · go_round
        case rel => exact ⟨k + 1, by go_num, hlt, fun i h1 h2 => by
          by_cases e : i = k + 1
          · subst e; rw [loOf_lt hlt]; exact hO
          · exact HF.out.2 i h1 (by omega)⟩
        case measure => simp [intOf]; omega
    · have hd : decide ((k : Int) + 1 < (vs.length : Int)) = false := by simp; omega
      go_wp2_with fail
      go_ret
      exact ⟨k, rfl, ⟨HF.out, fun h => absurd h hlt⟩, (Below.refl _ _).alloc (Nat.le_refl _) _⟩

def PmFindPost (ep : Int) (vs : List RowD) (key : ByteArray) (w : World) (e : Ending) (w' : World) : Prop :=
  ∃ r : Int, e = .returned (.int .i64 r) ∧ (PmapOkP ep vs ∧ keyOkB key = true → ∃ k : Nat, r = k ∧ FindAt vs key k) ∧ (¬ (PmapOkP ep vs ∧ keyOkB key = true) → r = -1) ∧ Below w.heap.size w w'
theorem PmFindPost.no {ep : Int} {vs : List RowD} {key : ByteArray} {w w' : World} (h : ¬ (PmapOkP ep vs ∧ keyOkB key = true)) (hb : Below w.heap.size w w') : PmFindPost ep vs key w (.returned (.int .i64 (-1))) w' :=
  ⟨-1, rfl, fun g => absurd g h, fun _ => rfl, hb⟩
theorem PmFindPost.yes {ep : Int} {vs : List RowD} {key : ByteArray} {k : Nat} {w w' : World} (h : PmapOkP ep vs) (hk : keyOkB key = true) (hF : FindAt vs key k) (hb : Below w.heap.size w w') : PmFindPost ep vs key w (.returned (.int .i64 (k : Int))) w' :=
  ⟨k, rfl, fun _ => ⟨k, rfl, hF⟩, fun g => absurd ⟨h, hk⟩ g, hb⟩
theorem PmapOkP.pos {ep : Int} {vs : List RowD} (h : PmapOkP ep vs) : 0 < vs.length := by have := h.2.1; simp [inB] at this; omega
end Go.Proofs.Ytjijichgoodocaa
