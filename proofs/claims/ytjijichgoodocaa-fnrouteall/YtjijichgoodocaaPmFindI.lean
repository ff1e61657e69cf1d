/- Drawing: a number of a list. -/
import Derived.Test.YtjijichgoodocaaVm
import Derived.Test.YtjijichgoodocaaFlRow
import Derived.Test.YtjijichgoodocaaLie
import Derived.Test.YtjijichgoodocaaLst2
import Derived.Test.YtjijichgoodocaaOrdB
namespace Go.Proofs.Ytjijichgoodocaa
open Go.RowKit

def SomeInt (P : Int → Prop) (rb p : Nat) (w : World) (e : Ending) (w' : World) : Prop := ∃ s : Int, P s ∧ e = .returned (.int .i64 s) ∧ RdAt rb p w' ∧ Only rb w w'

set_option maxHeartbeats 1000000 in
theorem one_any (P : Int → Prop) (rb p lb L : Nat) (w : World) (h : RdAt rb p w) (hp : p < 1000000) (hne : lb ≠ rb) (hlb : lb < w.heap.size) (hL : 1 ≤ L) (hL2 : L ≤ 1000)
    (hc : ∀ i, i < L → ∃ s : Int, w.cell? ⟨lb, i, none⟩ = some (.int .i64 s) ∧ P s) :
    Calls Try.prog 73 #[.pointer (some ⟨rb, 0, none⟩), .slice (some ⟨lb, 0, none⟩) L L] w (SomeInt P rb (p + 1) w) := by
  have HC := Lib.hid hc
  clear hc
  have H := Lib.hid h
  clear h
  go_enter Try.func73, Try.ntmps73
  go_wp2_with fail
  refine (pick_any rb p (L : Int) _ H.out hp (by omega) (by omega)).mono ?_
  rintro e w1 ⟨n, hn0, hn1, rfl, hr, ho⟩
  obtain ⟨k, rfl⟩ := Int.eq_ofNat_of_zero_le hn0
  obtain ⟨s, hs, hsz⟩ := HC.out k (by omega)
  have hs1 : w1.cell? ⟨lb, k, none⟩ = some (.int .i64 s) := (ho.cell (p := ⟨lb, k, none⟩) hlb hne).trans hs
  have hk : k < L := by omega
  have HR := Lib.hid hr
  have HO := Lib.hid ho
  clear hr ho hs
  go_wp2_with fail
  go_ret
  exact ⟨s, hsz, rfl, HR.out, HO.out⟩
end Go.Proofs.Ytjijichgoodocaa

/- Slices of Row: their marks. -/
namespace Go.Proofs.Ytjijichgoodocaa
open Go.RowKit

def Rowmf (k i : Nat) : Value := if i % 2 = 0 then .string (mtext (k + i)) else .int .i64 ((k + i : Nat) : Int)

theorem Rowmf_0 (k i : Nat) : Rowmf k (i * 2) = .string (mtext (k + i * 2)) := by
  unfold Rowmf
  simp only [show (i * 2) % 2 = 0 by omega, if_true, if_false, Nat.reduceEqDiff, Nat.add_assoc]
theorem Rowmf_1 (k i : Nat) : Rowmf k (i * 2 + 1) = .int .i64 ((k + i * 2 + 1 : Nat) : Int) := by
  unfold Rowmf
  simp only [show (i * 2 + 1) % 2 = 1 by omega, if_true, if_false, Nat.reduceEqDiff, Nat.add_assoc]
theorem RowsIn.of_marks {S : Nat → Prop} {w u : World} {b off n k : Nat} (h : MkSt (Rowmf k) S w b off (n * 2) (n * 2) u) : RowsIn u (some ⟨b, off, none⟩) (Rowmarks k n) := by
  refine .inr ⟨b, off, rfl, h.lt, fun i hi => ?_⟩
  have hi' : i < n := by rw [Rowmarks_length] at hi; exact hi
  simp only [Rowmarks_at]
  have h0 := h.done (i * 2) (by omega)
  rw [Rowmf_0] at h0
  have h1 := h.done (i * 2 + 1) (by omega)
  rw [Rowmf_1] at h1
  simp only [← Nat.add_assoc] at h0 h1 ⊢
  exact ⟨h0, h1⟩
end Go.Proofs.Ytjijichgoodocaa

/- Maps of parts: their sizes, copies, equality and marks. -/
namespace Go.Proofs.Ytjijichgoodocaa
open Go.RowKit

def ToPm (ep : Int) (vs : List RowD) (w : World) (e : Ending) (w' : World) : Prop :=
  ∃ g, w.heap.size ≤ g ∧ e = .returned (.agg #[.int .i64 ep, .slice (some ⟨g, 0, none⟩) vs.length vs.length]) ∧ RowsIn w' (some ⟨g, 0, none⟩) vs ∧ Free w' (some ⟨g, 0, none⟩) (vs.length * 2) ∧ Below w.heap.size w w' ∧ g < w'.heap.size

theorem Free.set' {u : World} {b g o n : Nat} {x : Value} (h : Free u (some ⟨b, 0, none⟩) n) (hg : g ≠ b) : Free (u.setCell ⟨g, o, none⟩ x) (some ⟨b, 0, none⟩) n :=
  h.turned (S := fun k => k = g) (fun b' off e k => hg (by cases e; exact k.symm)) ((Turned.refl (fun k => k = g) u).setCell (p := ⟨g, o, none⟩) rfl x)
end Go.Proofs.Ytjijichgoodocaa

/- Maps of parts in memory that belong to a call: where they lie, copies, equality, marks. -/
namespace Go.Proofs.Ytjijichgoodocaa
open Go.RowKit

structure PmAt (w : World) (lo hi : Nat) (a : Option Addr) (vs : List RowD) : Prop where
  in1 : RowsIn w a vs
  fr1 : Free w a (vs.length * 2)
  l1 : Lies lo hi a
  le : hi ≤ w.heap.size
theorem PmAt.below {w w' : World} {lo hi : Nat} {a : Option Addr} {vs : List RowD} (h : PmAt w lo hi a vs) (hb : Below w.heap.size w w') : PmAt w' lo hi a vs := ⟨h.in1.below hb, h.fr1.below hb, h.l1, Nat.le_trans h.le hb.size⟩
theorem PmAt.turned {S : Nat → Prop} {w w' : World} {lo hi : Nat} {a : Option Addr} {vs : List RowD} (h : PmAt w lo hi a vs) (hS : ∀ b, lo ≤ b → b < hi → ¬ S b) (ht : Turned S w w') : PmAt w' lo hi a vs :=
  ⟨h.in1.turned (h.l1.off hS) ht, h.fr1.turned (h.l1.off hS) ht, h.l1, Nat.le_trans h.le ht.size⟩

theorem PmAt.drewAt {w : World} {lo hi : Nat} {a : Option Addr} {vs : List RowD} (h : PmAt w lo hi a vs) : PmAt w.drew lo hi a vs := ⟨h.in1, h.fr1, h.l1, h.le⟩

def PmOut (ep : Int) (vs : List RowD) (w : World) (e : Ending) (w' : World) : Prop :=
  ∃ a c, e = .returned (.agg #[.int .i64 ep, .slice a vs.length c]) ∧ PmAt w' w.heap.size w'.heap.size a vs ∧ Below w.heap.size w w' ∧ vs.length ≤ c ∧ c ≤ maxLen
/-- .. beside a bool. -/
def PmOutB (ep : Int) (vs : List RowD) (b : Bool) (w : World) (e : Ending) (w' : World) : Prop :=
  ∃ a c, e = .returned (.tuple #[.agg #[.int .i64 ep, .slice a vs.length c], .bool b]) ∧ PmAt w' w.heap.size w'.heap.size a vs ∧ Below w.heap.size w w'

def PmMarked (lo hi : Nat) (a : Option Addr) (k n : Nat) (w : World) (e : Ending) (w' : World) : Prop :=
  e = .returned (.int .i64 ((k + n * 2 : Nat) : Int)) ∧ PmAt w' lo hi a (Rowmarks k n) ∧ Turned (fun b => lo ≤ b ∧ b < hi) w w'

def rowCells (v : RowD) : List Value := [.string v.f0, .int .i64 v.f1]
theorem own_rows {w : World} {base : Nat} {v : Value} {vs : List RowD} (h : w.ownsRow base 98 2 v vs.length (vs.flatMap rowCells)) :
    ∃ a cap, v = .slice a vs.length cap ∧ RowsIn w a vs ∧ Free w a (vs.length * 2) ∧ Lies base w.heap.size a ∧ vs.length ≤ cap ∧ cap ≤ maxLen := by
  have hcap := h.2
  rcases Joins.ownsRow_forms h with ⟨rfl, h0⟩ | ⟨g, cap, rfl⟩
  · have : vs = [] := List.eq_nil_of_length_eq_zero h0
    subst this
    exact ⟨none, 0, rfl, .inl rfl, .inl rfl, (fun b off e => by cases e), Nat.le_refl _, Nat.zero_le _⟩
  · have hg := h.lt g rfl
    refine ⟨some ⟨g, 0, none⟩, cap, rfl, .inr ⟨g, 0, rfl, hg.2, fun i hi => ?_⟩, own_free h, (fun b off e => by cases e; exact hg), ?_⟩
    case refine_2 =>
      rcases hcap with ⟨e, _⟩ | ⟨g', c', cur, e, _, _, q1, q2, _⟩
      · cases e
      · cases e; exact ⟨q1, q2⟩
    have e0 := h.cellAt (i * 2) (by omega)
    have e1 := h.cellAt (i * 2 + 1) (by omega)
    have f0 := flat_at rowCells 2 (fun _ => rfl) vs i 0 hi (by omega)
    have f1 := flat_at rowCells 2 (fun _ => rfl) vs i 1 hi (by omega)
    rw [Nat.add_zero] at f0
    simp only [Nat.zero_add]
    exact ⟨e0.trans f0, e1.trans f1⟩
/-- The cells of a slice, as an append takes them. -/
theorem rows_news {w : World} {b off : Nat} {vs : List RowD} (hc : ∀ i (h : i < vs.length), w.cell? ⟨b, off + i * 2, none⟩ = some (.string vs[i].f0) ∧ w.cell? ⟨b, off + i * 2 + 1, none⟩ = some (.int .i64 vs[i].f1)) :
    ∀ j u, (vs.flatMap rowCells)[j]? = some u → w.cell? ((⟨b, off, none⟩ : Addr).add j) = some u := fun j u hu => by
  have hadd : (⟨b, off, none⟩ : Addr).add j = ⟨b, off + j, none⟩ := by unfold Addr.add; split <;> simp_all
  have hl := flat_len rowCells 2 (fun _ => rfl) vs
  have hj : j < vs.length * 2 := by
    rcases Nat.lt_or_ge j (vs.length * 2) with h | h
    · exact h
    · rw [List.getElem?_eq_none (by omega)] at hu; cases hu
  have hi : j / 2 < vs.length := by omega
  rw [hadd]
  have hat := flat_at rowCells 2 (fun _ => rfl) vs (j / 2) (j % 2) hi (by omega)
  rw [show j / 2 * 2 + j % 2 = j by omega, hu] at hat
  rcases Nat.mod_two_eq_zero_or_one j with h0 | h0
  · rw [h0] at hat
    have := (hc (j / 2) hi).1
    rw [show off + j / 2 * 2 = off + j by omega] at this
    rw [this]; simpa [rowCells] using hat.symm
  · rw [h0] at hat
    have := (hc (j / 2) hi).2
    rw [show off + j / 2 * 2 + 1 = off + j by omega] at this
    rw [this]; simpa [rowCells] using hat.symm
theorem rows_one (vs : List RowD) : ∀ u ∈ vs.flatMap rowCells, u.oneCell' = true := fun u hu => by
  obtain ⟨v, _, h⟩ := List.mem_flatMap.1 hu
  simp [rowCells] at h
  rcases h with rfl | rfl <;> rfl
end Go.Proofs.Ytjijichgoodocaa

/- The row of a key, as the model tells it. -/
namespace Go.Proofs.Ytjijichgoodocaa
open Go.RowKit

def leB (x y : ByteArray) : Bool := Op.bytesLess x.toList y.toList || x.toList == y.toList
/-- Whether the rows from 1 to k begin no later than the key. -/
def FindTo (vs : List RowD) (key : ByteArray) (k : Nat) : Prop := k < vs.length ∧ ∀ i, 1 ≤ i → i ≤ k → leB (loOf vs i) key = true
def FindAt (vs : List RowD) (key : ByteArray) (k : Nat) : Prop := FindTo vs key k ∧ (k + 1 < vs.length → leB (loOf vs (k + 1)) key = false)
theorem FindAt.unique {vs : List RowD} {key : ByteArray} {j k : Nat} (h : FindAt vs key j) (g : FindAt vs key k) : j = k := by
  rcases Nat.lt_trichotomy j k with hlt | rfl | hlt
  · have := h.2 (by have := g.1.1; omega); rw [g.1.2 (j + 1) (by omega) (by omega)] at this; cases this
  · rfl
  · have := g.2 (by have := h.1.1; omega); rw [h.1.2 (k + 1) (by omega) (by omega)] at this; cases this

set_option maxRecDepth 100000 in
set_option maxHeartbeats 1000000 in
theorem l5Find_any (ep : Int) (a : Option Addr) (vs : List RowD) (cap : Nat) (key : ByteArray) (w : World) (hv : RowsIn w a vs) (h0 : 0 < vs.length) (hlen : vs.length ≤ 1048576) :
    Calls Try.prog 189 #[.agg #[.int .i64 ep, .slice a vs.length cap], .string key] w fun e w' => ∃ k : Nat, e = .returned (.int .i64 (k : Int)) ∧ FindAt vs key k ∧ Below w.heap.size w w' := by
  rcases hv with hnil | ⟨b1, o1, rfl, hb1, hc1⟩
  · rw [hnil] at h0; simp at h0
  have hb2 : b1 < w.heap.size + 1 := by omega
  have HC := Lib.hid hc1
  clear hc1
  go_enter Try.func189, Try.ntmps189
  go_wp2_with fail
  go_loop [5] (fun i => ∃ k : Nat, i = .int .i64 (k : Int) ∧ FindTo vs key k) (fun i => vs.length - (intOf i).toNat)
  case atStart => exact ⟨0, rfl, h0, fun i h1 h2 => by omega⟩
  case round =>
    obtain ⟨k, rfl, hF⟩ := hrel
    have hk := hF.1
    have HF := Lib.hid hF
    clear hF
    by_cases hlt : k + 1 < vs.length
    · have e0 := (HC.out (k + 1) hlt).1
      have hd : decide ((k : Int) + 1 < (vs.length : Int)) = true := by simp; omega
      cases hO : (Op.bytesLess vs[k + 1].f0.toList key.toList || vs[k + 1].f0.toList == key.toList)
      all_goals
        go_wp2_with fail
      · go_ret
        exact ⟨k, rfl, ⟨HF.out, fun _ => by rw [loOf_lt hlt]; exact hO⟩, (Below.refl _ _).alloc (Nat.le_refl _) _⟩
      · go_round
        case rel => exact ⟨k + 1, by go_num, hlt, fun i h1 h2 => by
          by_cases e : i = k + 1
          · subst e; rw [loOf_lt hlt]; exact hO
          · exact HF.out.2 i h1 (by omega)⟩
        case measure => simp [intOf]; omega
    · have hd : decide ((k : Int) + 1 < (vs.length : Int)) = false := by simp; omega
      go_wp2_with fail
      go_ret
      exact ⟨k, rfl, ⟨HF.out, fun h => absurd h hlt⟩, (Below.refl _ _).alloc (Nat.le_refl _) _⟩

def PmFindPost (ep : Int) (vs : List RowD) (key : ByteArray) (w : World) (e : Ending) (w' : World) : Prop :=
  ∃ r : Int, e = .returned (.int .i64 r) ∧ (PmapOkP ep vs ∧ keyOkB key = true → ∃ k : Nat, r = k ∧ FindAt vs key k) ∧ (¬ (PmapOkP ep vs ∧ keyOkB key = true) → r = -1) ∧ Below w.heap.size w w'
theorem PmFindPost.no {ep : Int} {vs : List RowD} {key : ByteArray} {w w' : World} (h : ¬ (PmapOkP ep vs ∧ keyOkB key = true)) (hb : Below w.heap.size w w') : PmFindPost ep vs key w (.returned (.int .i64 (-1))) w' :=
  ⟨-1, rfl, fun g => absurd g h, fun _ => rfl, hb⟩
theorem PmFindPost.yes {ep : Int} {vs : List RowD} {key : ByteArray} {k : Nat} {w w' : World} (h : PmapOkP ep vs) (hk : keyOkB key = true) (hF : FindAt vs key k) (hb : Below w.heap.size w w') : PmFindPost ep vs key w (.returned (.int .i64 (k : Int))) w' :=
  ⟨k, rfl, fun _ => ⟨k, rfl, hF⟩, fun g => absurd ⟨h, hk⟩ g, hb⟩
theorem PmapOkP.pos {ep : Int} {vs : List RowD} (h : PmapOkP ep vs) : 0 < vs.length := by have := h.2.1; simp [inB] at this; omega
end Go.Proofs.Ytjijichgoodocaa

/- The row of a key, as the program tells it. -/
namespace Go.Proofs.Ytjijichgoodocaa
open Go.RowKit

theorem nil_toList : (⟨#[]⟩ : ByteArray).toList = [] := by first | rfl | simp | (unfold ByteArray.toList ByteArray.toList.loop; rfl) | (unfold ByteArray.toList; unfold ByteArray.toList.loop; simp) | decide +kernel
theorem leB_not (x y : ByteArray) : leB x y = !(Op.bytesLess y.toList x.toList) := bytesLess_le _ _
theorem less_nil (x : List UInt8) : (Op.bytesLess [] x || [] == x) = true := by cases x <;> simp [Op.bytesLess]

theorem find_go {ep : Int} {vs : List RowD} {key : ByteArray} {n : Nat} (hP : PmapOkP ep vs) (hF : FindTo vs key n) (h : hasB (loOf vs n) (hiOf vs n) key = false) : FindTo vs key (n + 1) := by
  have hlo : Op.bytesLess key.toList (loOf vs n).toList = false := by
    rcases Nat.eq_zero_or_pos n with rfl | hn
    · have h0 := hF.1
      have hE := (hP.1 0 h0 h0).2.1 rfl
      rw [loOf_lt h0]
      have hE' : vs[0].f0.toList = [] := by simpa using hE
      rw [hE']
      cases key.toList <;> simp [Op.bytesLess]
    · have := hF.2 n hn (Nat.le_refl _); rw [leB_not] at this; simpa using this
  have hh : (hiOf vs n).toList.isEmpty = false ∧ Op.bytesLess key.toList (hiOf vs n).toList = false := by
    simpa [hasB, hlo] using h
  have hlt : n + 1 < vs.length := by
    by_cases g : n + 1 < vs.length
    · exact g
    · rw [hiOf_ge g, nil_toList] at hh; exact absurd hh.1 (by decide)
  refine ⟨hlt, fun i h1 h2 => ?_⟩
  by_cases e : i = n + 1
  · subst e
    have := hh.2
    rw [hiOf_lt hlt] at this
    rw [leB_not, loOf_lt hlt, this]; rfl
  · exact hF.2 i h1 (by omega)

theorem find_stop {ep : Int} {vs : List RowD} {key : ByteArray} {n : Nat} (hP : PmapOkP ep vs) (hF : FindTo vs key n) (h : hasB (loOf vs n) (hiOf vs n) key = true) : FindAt vs key n := by
  refine ⟨hF, fun hlt => ?_⟩
  have h2 : (hiOf vs n).toList.isEmpty = true ∨ Op.bytesLess key.toList (hiOf vs n).toList = true := by
    simp [hasB] at h; simpa using h.2
  rw [hiOf_lt hlt] at h2
  rw [leB_not, loOf_lt hlt]
  rcases h2 with h2 | h2
  · have := (hP.1 (n + 1) hlt hlt).2.2.1 n hF.1 rfl
    have hE' : vs[n + 1].f0.toList = [] := by simpa using h2
    rw [hE', less_nil] at this
    cases this
  · rw [h2]; rfl

set_option maxRecDepth 100000 in
set_option maxHeartbeats 1000000 in
theorem pmapFind_any (ep : Int) (a : Option Addr) (vs : List RowD) (cap : Nat) (key : ByteArray) (w : World) (hv : RowsIn w a vs) (hf : ∀ v ∈ vs, v.fits) (hlen : vs.length ≤ 1048576) (hkey : key.size ≤ maxLen) :
    Calls Try.prog 58 #[.agg #[.int .i64 ep, .slice a vs.length cap], .string key] w (PmFindPost ep vs key w) := by
  have HV := Lib.hid hv
  have HF := Lib.hid hf
  clear hv hf
  have hb0 : Below w.heap.size w (w.alloc (.cells #[.int .i64 ep, .slice a vs.length cap] 90)) := (Below.refl _ _).alloc (Nat.le_refl _) _
  cases hK : keyOkB key
  all_goals
    go_enter Try.func58, Try.ntmps58
    go_wp2_with fail
    refine (pmapOk_any ep a vs cap _ (HV.out.below hb0) HF.out (by unfold maxLen; omega)).mono ?_
    rintro e w1 ⟨b, rfl, hk, hb⟩
    have B2 := Lib.hid (hb0.trans (hb.mono (by simp)))
    have c0 := hb.cell (p := ⟨w.heap.size, 0, none⟩) (by simp)
    have c1 := hb.cell (p := ⟨w.heap.size, 1, none⟩) (by simp)
    simp [go_sem] at c0 c1
    have HK := Lib.hid hk
    clear hb hk hb0
    cases b
  · go_wp2_with fail
    go_ret
    exact PmFindPost.no (fun h => by simpa using HK.out.2 h.1) B2.out
  · go_wp2_with (go_at_call 60; refine (keyOk_is hK hkey _).mono ?_; rintro e w2 ⟨rfl, rfl⟩)
    go_ret
    exact PmFindPost.no (fun h => by rw [hK] at h; exact absurd h.2 (by decide)) B2.out
  · go_wp2_with fail
    go_ret
    exact PmFindPost.no (fun h => by simpa using HK.out.2 h.1) B2.out
  · have hP := Lib.hid (HK.out.1 (by simp))
    have h0 := hP.out.pos
    go_wp2_with (go_at_call 60; refine (keyOk_is hK hkey _).mono ?_; rintro e w2 ⟨rfl, rfl⟩)
    refine (spanRows_any ep a vs cap _ (HV.out.below B2.out) hlen).mono ?_
    rintro e w2 ⟨v, rfl, hown, hb2⟩
    obtain ⟨g, cp, rfl⟩ := Joins.ownsRow_form hown h0
    have hg2 := (hown.lt g rfl).2
    have HC := Lib.hid (fun j (hj : j < vs.length * 3) => hown.cellAt j hj)
    have B3 := Lib.hid (B2.out.trans (hb2.mono B2.out.size))
    clear hown hb2 c0 c1
    go_wp2_with fail
    go_loopw [18] (fun i wr => ∃ n : Nat, i = .int .i64 (n : Int) ∧ FindTo vs key n ∧ Below w2.heap.size w2 wr) (fun i _ => vs.length - (intOf i).toNat)
    case atStart => exact ⟨0, rfl, ⟨h0, fun i h1 h2 => by omega⟩, Below.refl _ _⟩
    case round =>
      obtain ⟨n, rfl, hF, hB⟩ := hrel
      have hn := hF.1
      obtain ⟨q0, q1, q2⟩ := spCells_at vs vs.length n hn
      have r0 := ((hB.cell (p := ⟨g, n * 3, none⟩) hg2).trans (HC.out (n * 3) (by omega))).trans q0
      have r1 := ((hB.cell (p := ⟨g, n * 3 + 1, none⟩) hg2).trans (HC.out (n * 3 + 1) (by omega))).trans q1
      have r2 := ((hB.cell (p := ⟨g, n * 3 + 2, none⟩) hg2).trans (HC.out (n * 3 + 2) (by omega))).trans q2
      have HFn := Lib.hid hF
      have HB := Lib.hid hB
      clear hF hB q0 q1 q2
      go_wp2_with fail
      refine (has_any (loOf vs n) (hiOf vs n) key _).mono ?_
      rintro e w3 ⟨rfl, hb3⟩
      have p2 := hb3.cell (p := ⟨wr.heap.size, 2, none⟩) (by simp)
      simp [go_sem] at p2
      have B4 := Lib.hid ((HB.out.alloc HB.out.size _).trans (hb3.mono (by have := HB.out.size; simp; omega)))
      clear hb3
      cases hH : hasB (loOf vs n) (hiOf vs n) key
      · go_wp2_with fail
        go_roundw
        case rel => exact ⟨n + 1, by go_num, find_go hP.out HFn.out hH, B4.out⟩
        case measure => simp [intOf]; omega
      · go_wp2_with fail
        go_ret
        exact PmFindPost.yes hP.out hK (find_stop hP.out HFn.out hH) (B3.out.trans (B4.out.mono B3.out.size))
end Go.Proofs.Ytjijichgoodocaa
