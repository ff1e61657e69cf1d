/- The rows of a map of parts with their spans, as the program lays them. -/
import Derived.Test.YtjijichgoodocaaPmapI
import Derived.Deep.AppendLies
import Derived.Lib.SmallJoins
import Derived.Test.YtjijichgoodocaaVmOk
import Derived.Test.YtjijichgoodocaaOrdB
namespace Go.Proofs.Ytjijichgoodocaa
open Go.RowKit

def hiOf (vs : List RowD) (k : Nat) : ByteArray := if h : k + 1 < vs.length then vs[k + 1].f0 else ⟨#[]⟩
theorem hiOf_lt {vs : List RowD} {k : Nat} (h : k + 1 < vs.length) : hiOf vs k = vs[k + 1].f0 := by simp [hiOf, h]
theorem hiOf_ge {vs : List RowD} {k : Nat} (h : ¬ k + 1 < vs.length) : hiOf vs k = ⟨#[]⟩ := by simp [hiOf, h]
def loOf (vs : List RowD) (k : Nat) : ByteArray := if h : k < vs.length then vs[k].f0 else ⟨#[]⟩
theorem loOf_lt {vs : List RowD} {k : Nat} (h : k < vs.length) : loOf vs k = vs[k].f0 := by simp [loOf, h]
def srCells (vs : List RowD) (i : Nat) : List Value := [.string (loOf vs i), .string (hiOf vs i), .int .i64 (i : Int)]
def spCells (vs : List RowD) (k : Nat) : List Value := (List.range k).flatMap (srCells vs)
theorem spCells_succ (vs : List RowD) (k : Nat) : spCells vs (k + 1) = spCells vs k ++ srCells vs k := by simp [spCells, List.range_succ]

theorem infoSpanRow : (Try.prog.info? 156).map (fun i => (i.zero, i.size, i.bytes)) = some (some (.agg #[.string ⟨#[]⟩, .string ⟨#[]⟩, .int .i64 0]), 3, 40) := by kernel_rfl

theorem news3 (w : World) (x y z : Value) (t : TypeId) (g : Nat) (hg : w.heap.size = g) : ∀ j u, [x, y, z][j]? = some u → (w.alloc (.cells #[x, y, z] t)).cell? ((⟨g, 0, none⟩ : Addr).add j) = some u := by
  subst hg
  exact World.news_of_block (heap_alloc_new w _)

set_option maxRecDepth 100000 in
set_option maxHeartbeats 1000000 in
theorem spanRows_any (ep : Int) (a : Option Addr) (vs : List RowD) (cap : Nat) (w : World) (hv : RowsIn w a vs) (hn : vs.length ≤ 1048576) :
    Calls Try.prog 121 #[.agg #[.int .i64 ep, .slice a vs.length cap]] w (fun e w' => ∃ v, e = .returned v ∧ w'.ownsRow w.heap.size 156 3 v vs.length (spCells vs vs.length) ∧ Below w.heap.size w w') := by
  have HV := Lib.hid hv
  clear hv
  obtain ⟨i0, hi, hz0, hz1, hz2⟩ := info_parts infoSpanRow
  go_enter Try.func121, Try.ntmps121
  go_wp2_with fail
  go_loopw [3, 10] (fun v i wr => ∃ k : Nat, k ≤ vs.length ∧ i = .int .i64 k ∧ Below (w.heap.size + 1) (w.alloc (.cells #[.int .i64 ep, .slice a vs.length cap] 90)) wr ∧ wr.ownsRow (w.heap.size + 1) 156 3 v k (spCells vs k)) (fun _ i _ => vs.length - (intOf i).toNat)
  case atStart => exact ⟨0, Nat.zero_le _, rfl, Below.refl _ _, World.ownsRow_nil _ _ _ _⟩
  case round =>
    obtain ⟨k, hk, rfl, hB, hO⟩ := hrel
    have c0 := hB.cell (p := ⟨w.heap.size, 0, none⟩) (by simp)
    have c1 := hB.cell (p := ⟨w.heap.size, 1, none⟩) (by simp)
    simp [go_sem] at c0 c1
    have HW := Lib.hid (((Below.refl w.heap.size w).alloc (Nat.le_refl _) _).trans (hB.mono (by omega)))
    have HB := Lib.hid hB
    have HO := Lib.hid hO
    have hsz : w.heap.size < wr.heap.size := by have := hB.size; simp at this; omega
    clear hB hO
    by_cases hlt : k < vs.length
    · rcases HV.out.below HW.out with hnil | ⟨b1, o1, rfl, hb1, hc1⟩
      · rw [hnil] at hlt; simp at hlt
      obtain ⟨d0, d1⟩ := hc1 k hlt
      by_cases hl2 : k + 1 < vs.length
      · obtain ⟨e0, _⟩ := hc1 (k + 1) hl2
        clear hc1
        go_wp2_with (at_builtin; refine wpList_append_lies _ rfl _ _ 153 rfl (w.heap.size + 1) 156 i0 (.agg #[.string ⟨#[]⟩, .string ⟨#[]⟩, .int .i64 0]) 3 40 Try.underlying153 hi hz0 hz1 hz2 rfl (by decide) _ k (spCells vs k) rfl (((HO.out.alloc _).alloc _).alloc _) ⟨wr.heap.size + 1 + 1, 0, none⟩ 1 1 [.string vs[k].f0, .string vs[k + 1].f0, .int .i64 (k : Int)] rfl rfl (news3 _ _ _ _ _ _ (by simp)) (fun u hu => by simp at hu; rcases hu with rfl | rfl | rfl <;> rfl) (by omega) (by unfold maxLen; omega) (by omega) (by simp; omega) _ rfl ?_; intro g cp w2 hown hgrow hat hlt2; have X := Lib.hid (And.intro hown hgrow); clear hown hgrow hat hlt2)
        go_roundw
        case rel => exact ⟨k + 1, by omega, by go_num, Below.grown (((HB.out.alloc (by omega) _).alloc (by simp; omega) _).alloc (by simp; omega) _) X.out.2 (by simp; omega) (fun j hj => (HO.out.lt j hj).1), by rw [spCells_succ, srCells, loOf_lt hlt, hiOf_lt hl2]; exact X.out.1⟩
        case measure => simp [intOf]; omega
      · clear hc1
        go_wp2_with (at_builtin; refine wpList_append_lies _ rfl _ _ 153 rfl (w.heap.size + 1) 156 i0 (.agg #[.string ⟨#[]⟩, .string ⟨#[]⟩, .int .i64 0]) 3 40 Try.underlying153 hi hz0 hz1 hz2 rfl (by decide) _ k (spCells vs k) rfl (((HO.out.alloc _).alloc _).alloc _) ⟨wr.heap.size + 1 + 1, 0, none⟩ 1 1 [.string vs[k].f0, .string ⟨#[]⟩, .int .i64 (k : Int)] rfl rfl (news3 _ _ _ _ _ _ (by simp)) (fun u hu => by simp at hu; rcases hu with rfl | rfl | rfl <;> rfl) (by omega) (by unfold maxLen; omega) (by omega) (by simp; omega) _ rfl ?_; intro g cp w2 hown hgrow hat hlt2; have X := Lib.hid (And.intro hown hgrow); clear hown hgrow hat hlt2)
        go_roundw
        case rel => exact ⟨k + 1, by omega, by go_num, Below.grown (((HB.out.alloc (by omega) _).alloc (by simp; omega) _).alloc (by simp; omega) _) X.out.2 (by simp; omega) (fun j hj => (HO.out.lt j hj).1), by rw [spCells_succ, srCells, loOf_lt hlt, hiOf_ge hl2]; exact X.out.1⟩
        case measure => simp [intOf]; omega
    · obtain rfl : k = vs.length := by omega
      go_wp2_with fail
      go_ret
      exact ⟨_, rfl, Joins.ownsRow_le HO.out (by omega), HW.out⟩
end Go.Proofs.Ytjijichgoodocaa

/- The span of a row, as the program tells it. -/
namespace Go.Proofs.Ytjijichgoodocaa
open Go.RowKit

theorem spCells_len (vs : List RowD) (n : Nat) : (spCells vs n).length = n * 3 := by
  induction n with
  | zero => rfl
  | succ n ih => rw [spCells_succ, List.length_append, ih]; simp [srCells]; omega
theorem spCells_at (vs : List RowD) (n i : Nat) (h : i < n) : (spCells vs n)[i * 3]? = some (.string (loOf vs i)) ∧ (spCells vs n)[i * 3 + 1]? = some (.string (hiOf vs i)) ∧ (spCells vs n)[i * 3 + 2]? = some (.int .i64 (i : Int)) := by
  induction n with
  | zero => omega
  | succ n ih =>
    have hl := spCells_len vs n
    rw [spCells_succ]
    by_cases e : i = n
    · subst e
      refine ⟨?_, ?_, ?_⟩
      all_goals (rw [List.getElem?_append_right (by omega)]; simp [hl, srCells])
    · obtain ⟨h1, h2, h3⟩ := ih (by omega)
      refine ⟨?_, ?_, ?_⟩
      all_goals (rw [List.getElem?_append_left (by omega)]; assumption)

def PmSpanPost (ep : Int) (vs : List RowD) (k : Int) (w : World) (e : Ending) (w' : World) : Prop :=
  ∃ b : Bool, (b = true ↔ PmapOkP ep vs ∧ 0 ≤ k ∧ k < vs.length) ∧ e = .returned (.tuple #[.agg #[.string (if b then loOf vs k.toNat else ⟨#[]⟩), .string (if b then hiOf vs k.toNat else ⟨#[]⟩)], .bool b]) ∧ Below w.heap.size w w'
theorem PmSpanPost.no {ep : Int} {vs : List RowD} {k : Int} {w w' : World} (h : ¬ (PmapOkP ep vs ∧ 0 ≤ k ∧ k < vs.length)) (hb : Below w.heap.size w w') : PmSpanPost ep vs k w (.returned (.tuple #[.agg #[.string ⟨#[]⟩, .string ⟨#[]⟩], .bool false])) w' :=
  ⟨false, by simpa using h, rfl, hb⟩
theorem PmSpanPost.yes {ep : Int} {vs : List RowD} {j : Nat} {w w' : World} (h : PmapOkP ep vs) (hj : j < vs.length) (hb : Below w.heap.size w w') : PmSpanPost ep vs (j : Int) w (.returned (.tuple #[.agg #[.string (loOf vs j), .string (hiOf vs j)], .bool true])) w' :=
  ⟨true, by simp [h]; omega, by simp, hb⟩
end Go.Proofs.Ytjijichgoodocaa

/- The span of a row, as the model tells it. -/
namespace Go.Proofs.Ytjijichgoodocaa
open Go.RowKit

set_option maxRecDepth 100000 in
set_option maxHeartbeats 1000000 in
theorem l5Span_any (ep : Int) (a : Option Addr) (vs : List RowD) (cap : Nat) (j : Nat) (w : World) (hv : RowsIn w a vs) (hj : j < vs.length) (hlen : vs.length ≤ 1048576) :
    Calls Try.prog 123 #[.agg #[.int .i64 ep, .slice a vs.length cap], .int .i64 (j : Int)] w fun e w' => e = .returned (.agg #[.string (loOf vs j), .string (hiOf vs j)]) ∧ Below w.heap.size w w' := by
  rcases hv with hnil | ⟨b1, o1, rfl, hb1, hc1⟩
  · rw [hnil] at hj; simp at hj
  obtain ⟨c0, c1⟩ := hc1 j hj
  have hb2 : b1 < w.heap.size + 1 := by omega
  have hb3 : b1 < w.heap.size + 1 + 1 := by omega
  by_cases hl2 : j + 1 < vs.length
  · obtain ⟨e0, _⟩ := hc1 (j + 1) hl2
    clear hc1 c1
    go_enter Try.func123, Try.ntmps123
    go_wp2_with fail
    change bodyPost _ _ _ _ _ _
    exact bodyPost_ret (v := .agg #[.string vs[j].f0, .string vs[j + 1].f0]) (by simp [results, Try.results123, go_sem]) rfl ⟨by rw [loOf_lt hj, hiOf_lt hl2], by exact (((Below.refl _ _).alloc (Nat.le_refl _) _).alloc (by simp) _).alloc (by simp; omega) _⟩
  · clear hc1 c1
    go_enter Try.func123, Try.ntmps123
    go_wp2_with fail
    change bodyPost _ _ _ _ _ _
    exact bodyPost_ret (v := .agg #[.string vs[j].f0, .string ⟨#[]⟩]) (by simp [results, Try.results123, go_sem]) rfl ⟨by rw [loOf_lt hj, hiOf_ge hl2], by exact (((Below.refl _ _).alloc (Nat.le_refl _) _).alloc (by simp) _).alloc (by simp; omega) _⟩
end Go.Proofs.Ytjijichgoodocaa

/- Lists whose elements are ok and whose keys ascend. -/
namespace Go.Proofs.Ytjijichgoodocaa
open Go.RowKit

def UpBy {α : Type} (key : α → ByteArray) (vs : List α) (k : Nat) : Prop := ∀ i (h : i < vs.length), i < k → ∀ j (hj : j < vs.length), j + 1 = i → (Op.bytesLess (key vs[i]).toList (key vs[j]).toList || (key vs[i]).toList == (key vs[j]).toList) = false
def OkBy {α : Type} (ok : α → Bool) (vs : List α) (k : Nat) : Prop := ∀ i (h : i < vs.length), i < k → ok vs[i] = true
def LstOk {α : Type} (ok : α → Bool) (key : α → ByteArray) (vs : List α) (k : Nat) : Prop := OkBy ok vs k ∧ UpBy key vs k
theorem UpBy.zero {α : Type} (key : α → ByteArray) (vs : List α) : UpBy key vs 0 := fun _ _ h => absurd h (by omega)
theorem UpBy.one {α : Type} (key : α → ByteArray) (vs : List α) : UpBy key vs 1 := fun i _ h j _ e => by omega
theorem UpBy.succ {α : Type} {key : α → ByteArray} {vs : List α} {k : Nat} (h : UpBy key vs (k + 1)) (hk : k + 1 < vs.length) (ho : (Op.bytesLess (key vs[k + 1]).toList (key vs[k]).toList || (key vs[k + 1]).toList == (key vs[k]).toList) = false) : UpBy key vs (k + 1 + 1) := fun i hi hik j hj e => by
  by_cases q : i = k + 1
  · subst q; obtain rfl : j = k := (by omega); exact ho
  · exact h i hi (by omega) j hj e
theorem OkBy.zero {α : Type} (ok : α → Bool) (vs : List α) : OkBy ok vs 0 := fun _ _ h => absurd h (by omega)
theorem OkBy.succ {α : Type} {ok : α → Bool} {vs : List α} {k : Nat} (h : OkBy ok vs k) (hk : k < vs.length) (ho : ok vs[k] = true) : OkBy ok vs (k + 1) := fun i hi hik => by
  by_cases q : i = k
  · subst q; exact ho
  · exact h i hi (by omega)
theorem OkBy.not {α : Type} {ok : α → Bool} {vs : List α} {k : Nat} (hk : k < vs.length) (ho : ok vs[k] = false) : ¬ OkBy ok vs vs.length := fun h => by rw [h k hk hk] at ho; cases ho
theorem LstOk.zero {α : Type} (ok : α → Bool) (key : α → ByteArray) (vs : List α) : LstOk ok key vs 0 := ⟨OkBy.zero _ _, UpBy.zero _ _⟩
theorem LstOk.one {α : Type} {ok : α → Bool} {key : α → ByteArray} {vs : List α} (hk : 0 < vs.length) (ho : ok vs[0] = true) : LstOk ok key vs (0 + 1) := ⟨(OkBy.zero _ _).succ hk ho, UpBy.one _ _⟩
theorem LstOk.succ {α : Type} {ok : α → Bool} {key : α → ByteArray} {vs : List α} {k : Nat} (h : LstOk ok key vs (k + 1)) (hk : k + 1 < vs.length) (ho : ok vs[k + 1] = true) (hu : (Op.bytesLess (key vs[k + 1]).toList (key vs[k]).toList || (key vs[k + 1]).toList == (key vs[k]).toList) = false) : LstOk ok key vs (k + 1 + 1) := ⟨h.1.succ hk ho, h.2.succ hk hu⟩
theorem LstOk.not_ok {α : Type} {ok : α → Bool} {key : α → ByteArray} {vs : List α} {k : Nat} (hk : k < vs.length) (ho : ok vs[k] = false) : ¬ LstOk ok key vs vs.length := fun h => OkBy.not hk ho h.1
theorem LstOk.not_up {α : Type} {ok : α → Bool} {key : α → ByteArray} {vs : List α} {k : Nat} (hk : k + 1 < vs.length) (hu : (Op.bytesLess (key vs[k + 1]).toList (key vs[k]).toList || (key vs[k + 1]).toList == (key vs[k]).toList) = true) : ¬ LstOk ok key vs vs.length := fun h => by
  have := h.2 (k + 1) hk hk k (by omega) rfl
  rw [hu] at this; cases this
theorem l1Text_is {s : ByteArray} {b : Bool} (h : okB textB 8 s = b) (hs : s.size ≤ maxLen) (w : World) :
    Calls Try.prog 139 #[.string s] w fun e w' => e = .returned (.bool b) ∧ w' = w := (h ▸ l1Text_any s w hs).mono fun _ _ ⟨a, b⟩ => ⟨a, b.symm⟩
theorem not_both {P : Prop} {b c : Bool} (h : b = true ↔ P) (k : c = true ↔ P) : b = c := by rw [Bool.eq_iff_iff, h, k]
theorem regrown_step {B : Nat} {w W : World} (hB : Below B w W) {u : World} (h : Below W.heap.size W u) (hs : B ≤ W.heap.size) : Below B w u := hB.trans (h.mono hs)

end Go.Proofs.Ytjijichgoodocaa

/- Lists whose elements are ok and whose neighbours fit. -/
namespace Go.Proofs.Ytjijichgoodocaa
open Go.RowKit

def SepBy {α : Type} (bad : α → α → Bool) (vs : List α) (k : Nat) : Prop := ∀ i (h : i < vs.length), i < k → ∀ j (hj : j < vs.length), j + 1 = i → bad vs[j] vs[i] = false
def SepOk {α : Type} (ok : α → Bool) (bad : α → α → Bool) (vs : List α) (k : Nat) : Prop := OkBy ok vs k ∧ SepBy bad vs k
theorem SepOk.zero {α : Type} (ok : α → Bool) (bad : α → α → Bool) (vs : List α) : SepOk ok bad vs 0 := ⟨OkBy.zero _ _, fun _ _ h => absurd h (by omega)⟩
theorem SepOk.one {α : Type} {ok : α → Bool} {bad : α → α → Bool} {vs : List α} (hk : 0 < vs.length) (ho : ok vs[0] = true) : SepOk ok bad vs (0 + 1) := ⟨(OkBy.zero _ _).succ hk ho, fun i _ h j _ e => by omega⟩
theorem SepOk.succ {α : Type} {ok : α → Bool} {bad : α → α → Bool} {vs : List α} {k : Nat} (h : SepOk ok bad vs (k + 1)) (hk : k + 1 < vs.length) (ho : ok vs[k + 1] = true) (hu : bad vs[k] vs[k + 1] = false) : SepOk ok bad vs (k + 1 + 1) := ⟨h.1.succ hk ho, fun i hi hik j hj e => by
  by_cases q : i = k + 1
  · subst q; obtain rfl : j = k := (by omega); exact hu
  · exact h.2 i hi (by omega) j hj e⟩
theorem SepOk.not_ok {α : Type} {ok : α → Bool} {bad : α → α → Bool} {vs : List α} {k : Nat} (hk : k < vs.length) (ho : ok vs[k] = false) : ¬ SepOk ok bad vs vs.length := fun h => OkBy.not hk ho h.1
theorem SepOk.not_sep {α : Type} {ok : α → Bool} {bad : α → α → Bool} {vs : List α} {k : Nat} (hk : k + 1 < vs.length) (hu : bad vs[k] vs[k + 1] = true) : ¬ SepOk ok bad vs vs.length := fun h => by
  have := h.2 (k + 1) hk hk k (by omega) rfl
  rw [hu] at this; cases this
end Go.Proofs.Ytjijichgoodocaa
