/- What is seen of a key as of a number: the plain answer, and that a search in order finds it. -/
import Derived.Test.YtjijichgoodocaaAt
import Derived.Test.YtjijichgoodocaaVmMk
import Derived.Test.YtjijichgoodocaaPmapI
import Derived.Test.YtjijichgoodocaaOrdB
namespace Go.Proofs.Ytjijichgoodocaa
open Go.RowKit

theorem VersUp.lt {vs : List VerD} (h : VersUp vs vs.length) : ∀ (d i : Nat) (hi : i < vs.length) (hj : i + d + 1 < vs.length), vs[i].id < vs[i + d + 1].id
  | 0, i, hi, hj => h (i + 1) hj hj i hi rfl
  | d + 1, i, hi, hj => by
    have h1 := VersUp.lt h d i hi (by omega)
    have h2 := h (i + (d + 1) + 1) hj hj (i + d + 1) (by omega) (by omega)
    omega
theorem VersUp.mono {vs : List VerD} (h : VersUp vs vs.length) {i j : Nat} (hi : i < vs.length) (hj : j < vs.length) (hij : i < j) : vs[i].id < vs[j].id := by
  obtain ⟨d, rfl⟩ : ∃ d, j = i + d + 1 := ⟨j - i - 1, by omega⟩
  exact h.lt d i hi hj
theorem less_iff (x y : List UInt8) : Op.bytesLess x y = true ↔ x < y := by rw [bytesLess_eq]; simp
theorem ObjsUp.next {os : List ObjD} (h : ObjsUp os os.length) {i : Nat} (hi : i + 1 < os.length) : os[i].key.toList < os[i + 1].key.toList := by
  have := h (i + 1) hi hi i (by omega) rfl
  rw [bytesLess_le] at this
  rw [← less_iff]
  simpa using this
theorem ObjsUp.lt {os : List ObjD} (h : ObjsUp os os.length) : ∀ (d i : Nat) (hi : i < os.length) (hj : i + d + 1 < os.length), os[i].key.toList < os[i + d + 1].key.toList
  | 0, i, hi, hj => h.next hj
  | d + 1, i, hi, hj => List.lt_trans (ObjsUp.lt h d i hi (by omega)) (h.next (i := i + d + 1) (by omega))
theorem ObjsUp.mono {os : List ObjD} (h : ObjsUp os os.length) {i j : Nat} (hi : i < os.length) (hj : j < os.length) (hij : i < j) : os[i].key.toList < os[j].key.toList := by
  obtain ⟨d, rfl⟩ : ∃ d, j = i + d + 1 := ⟨j - i - 1, by omega⟩
  exact h.lt d i hi hj

/-- The newest version that is no later. -/
def upF (vs : List VerD) (id : Int) : Option VerD := (vs.filter fun v => decide (v.id ≤ id)).getLast?
def seenF (vs : List VerD) (id : Int) : Option VerD := (upF vs id).bind fun v => if v.gone then none else some v
def keyF (os : List ObjD) (key : ByteArray) : Option ObjD := os.find? fun o => o.key.toList == key.toList
def atF (os : List ObjD) (key : ByteArray) (id : Int) : Option VerD := (keyF os key).bind fun o => seenF o.vers id

theorem filter_take (vs : List VerD) (p : VerD → Bool) (r : Nat) (h1 : ∀ i (h : i < vs.length), i < r → p vs[i] = true) (h2 : ∀ i (h : i < vs.length), r ≤ i → p vs[i] = false) : vs.filter p = vs.take r := by
  have e : vs = vs.take r ++ vs.drop r := (List.take_append_drop r vs).symm
  conv => lhs; rw [e]
  rw [List.filter_append]
  have f1 : (vs.take r).filter p = vs.take r := by
    rw [List.filter_eq_self]
    intro x hx
    obtain ⟨i, hi, rfl⟩ := List.getElem_of_mem hx
    have hi' : i < vs.length ∧ i < r := by simp at hi; omega
    rw [List.getElem_take]
    exact h1 i hi'.1 hi'.2
  have f2 : (vs.drop r).filter p = [] := by
    rw [List.filter_eq_nil_iff]
    intro x hx
    obtain ⟨i, hi, rfl⟩ := List.getElem_of_mem hx
    have hi' : r + i < vs.length := by simp at hi; omega
    rw [List.getElem_drop, h2 (r + i) hi' (by omega)]
    decide
  rw [f1, f2, List.append_nil]
theorem last_take {α : Type} (xs : List α) (r : Nat) (h : r ≤ xs.length) : (xs.take r).getLast? = lastAt xs r := by
  cases r with
  | zero => rfl
  | succ q =>
    rw [lastAt_succ xs q (by omega), List.take_succ_eq_append_getElem (by omega), List.getLast?_append]
    simp
theorem cut_up {vs : List VerD} {id : Int} {r : Nat} (hu : VersUp vs vs.length) (hc : Cut (verP vs id) vs.length r) : lastAt vs r = upF vs id := by
  obtain ⟨hr, h0, h1⟩ := hc
  rw [upF, filter_take vs _ r, last_take vs r hr]
  · intro i hi hir
    have hk : r - 1 < vs.length := by omega
    have := h0 (r - 1) (by omega)
    rw [verP_at hk] at this
    have hle : vs[i].id ≤ vs[r - 1].id := by
      by_cases e : i = r - 1
      · subst e; exact Int.le_refl _
      · exact Int.le_of_lt (hu.mono hi hk (by omega))
    simp at this ⊢
    omega
  · intro i hi hir
    have hk : r < vs.length := by omega
    have := h1 hk
    rw [verP_at hk] at this
    have hle : vs[r].id ≤ vs[i].id := by
      by_cases e : i = r
      · subst e; exact Int.le_refl _
      · exact Int.le_of_lt (hu.mono hk hi (by omega))
    simp at this ⊢
    omega
theorem cut_seen {vs : List VerD} {id : Int} {r : Nat} (hu : VersUp vs vs.length) (hc : Cut (verP vs id) vs.length r) : seenAt vs r = seenF vs id := by
  rw [seenAt, seenF, cut_up hu hc]

theorem keyF_at {os : List ObjD} {key : ByteArray} (hu : ObjsUp os os.length) {k : Nat} (hk : k < os.length) (he : (os[k].key.toList == key.toList) = true) : keyF os key = some os[k] := by
  rw [keyF, List.find?_eq_some_iff_getElem]
  refine ⟨he, k, hk, rfl, fun j hj => ?_⟩
  have := hu.mono (i := j) (j := k) (by omega) hk hj
  have e : os[k].key.toList = key.toList := by simpa using he
  rw [e] at this
  simp only [Bool.not_eq_true']
  rw [beq_eq_false_iff_ne]
  intro e2
  rw [e2] at this
  exact List.lt_irrefl _ this
theorem keyF_none {os : List ObjD} {key : ByteArray} (h : ∀ i (hi : i < os.length), (os[i].key.toList == key.toList) = false) : keyF os key = none := by
  rw [keyF, List.find?_eq_none]
  intro o ho
  obtain ⟨i, hi, rfl⟩ := List.getElem_of_mem ho
  rw [h i hi]
  decide
theorem cut_found {os : List ObjD} {key : ByteArray} {r : Nat} (hu : ObjsUp os os.length) (hc : Cut (objP os key) os.length r) : foundAt os key r = keyF os key := by
  obtain ⟨hr, h0, h1⟩ := hc
  have ne_of_lt : ∀ {x y : List UInt8}, x < y → (x == y) = false := fun h => by
    rw [beq_eq_false_iff_ne]; intro e; rw [e] at h; exact List.lt_irrefl _ h
  have hi1 : ∀ i (hi : i < os.length), r ≤ i → (os[i].key.toList == key.toList) = false := by
    intro i hi hir
    have hk : r < os.length := by omega
    have := h1 hk
    rw [objP_at hk, less_iff] at this
    have hlt : key.toList < os[i].key.toList := by
      by_cases e : i = r
      · subst e; exact this
      · exact List.lt_trans this (hu.mono hk hi (by omega))
    rw [beq_eq_false_iff_ne]; intro e; rw [e] at hlt; exact List.lt_irrefl _ hlt
  cases r with
  | zero =>
    rw [keyF_none fun i hi => hi1 i hi (Nat.zero_le _)]
    rfl
  | succ q =>
    have hq : q < os.length := by omega
    cases he : (os[q].key.toList == key.toList)
    · rw [found_no hq he, keyF_none]
      intro i hi
      by_cases hiq : q < i
      · exact hi1 i hi (by omega)
      · by_cases e : i = q
        · subst e; exact he
        · have a1 := hu.mono hi hq (by omega)
          have a2 := h0 q rfl
          rw [objP_at hq] at a2
          have a3 : ¬ key.toList < os[q].key.toList := by rw [← less_iff, a2]; decide
          rw [beq_eq_false_iff_ne]
          intro e2
          rw [e2] at a1
          exact a3 a1
    · rw [found_yes hq he, keyF_at hu hq he]
end Go.Proofs.Ytjijichgoodocaa

/- What the functions of maps say, as plain functions of what a map holds. -/
namespace Go.Proofs.Ytjijichgoodocaa
open Go.RowKit

def kObj (p : Kv) : ObjD := ⟨p.1, none, 0, p.2⟩
def KvOk (kvs : List Kv) : Prop := MapOkTo (kvs.map kObj) (kvs.map kObj).length
theorem kv_kObj (p : Kv) : (kObj p).kv = p := rfl
theorem mapOk_same {xs ys : List ObjD} (h : xs.map ObjD.kv = ys.map ObjD.kv) (hx : MapOkTo xs xs.length) : MapOkTo ys ys.length := by
  have hs := same_of_kv h
  intro i hi hk
  have hi' : i < xs.length := by rw [hs.1]; exact hi
  obtain ⟨h1, h2, h3, h4⟩ := hx i hi' hi'
  obtain ⟨e1, e2⟩ := hs.2 i hi' hi
  refine ⟨by rw [← e1]; exact h1, fun j hj e => ?_, by rw [← e2]; exact h3, by rw [← e2]; exact h4⟩
  have hj' : j < xs.length := by rw [hs.1]; exact hj
  have := h2 j hj' e
  rw [← e1, ← (hs.2 j hj' hj).1]
  exact this
theorem mapOk_kv (os : List ObjD) : MapOkTo os os.length ↔ KvOk (os.map ObjD.kv) := by
  have e : os.map ObjD.kv = ((os.map ObjD.kv).map kObj).map ObjD.kv := by
    simp [List.map_map, Function.comp_def, kv_kObj]
  exact ⟨fun h => mapOk_same e h, fun h => mapOk_same e.symm h⟩
theorem KvOk.nil : KvOk [] := fun i hi => by simp at hi
theorem KvOk.at_ {kvs : List Kv} (h : KvOk kvs) (i : Nat) (hi : i < kvs.length) : keyOkB kvs[i].1 = true ∧ 0 < kvs[i].2.length ∧ VersOkTo kvs[i].2 kvs[i].2.length := by
  have := h i (by simpa using hi) (by simpa using hi)
  simp only [ObjOkAt, List.getElem_map, kObj] at this
  exact ⟨this.1, this.2.2.1, this.2.2.2⟩
theorem KvOk.vers {kvs : List Kv} (h : KvOk kvs) {p : Kv} (hp : p ∈ kvs) : keyOkB p.1 = true ∧ 0 < p.2.length ∧ VersOkTo p.2 p.2.length := by
  obtain ⟨i, hi, rfl⟩ := List.getElem_of_mem hp
  exact h.at_ i hi
theorem versUp_of {vs : List VerD} (h : VersOkTo vs vs.length) : VersUp vs vs.length := fun i hi hk j hj e => (h i hi hk).2 j hj e
theorem keyLess_iff (a b : ByteArray) : (Op.bytesLess a.toList b.toList || a.toList == b.toList) = false ↔ b.toList < a.toList := by
  rw [bytesLess_le, ← less_iff]
  simp
/-- A map is ok: each object is, and the keys go up. -/
theorem kvOk_iff (kvs : List Kv) : KvOk kvs ↔ (∀ p ∈ kvs, keyOkB p.1 = true ∧ 0 < p.2.length ∧ VersOkTo p.2 p.2.length) ∧ ∀ i (h : i + 1 < kvs.length), (kvs[i]'(by omega)).1.toList < kvs[i + 1].1.toList := by
  constructor
  · intro h
    refine ⟨fun p hp => h.vers hp, fun i hi => ?_⟩
    have := (h (i + 1) (by simpa using hi) (by simpa using hi)).2.1 i (by simp; omega) rfl
    simp only [List.getElem_map, kObj] at this
    exact (keyLess_iff _ _).1 this
  · intro ⟨h1, h2⟩ i hi hk
    have hi' : i < kvs.length := by simpa using hi
    obtain ⟨a, b, c⟩ := h1 _ (List.getElem_mem hi')
    simp only [ObjOkAt, List.getElem_map, kObj]
    refine ⟨a, fun j hj e => ?_, b, c⟩
    subst e
    exact (keyLess_iff _ _).2 (h2 j hi')
theorem KvOk.left {xs bs : List Kv} (h : KvOk (xs ++ bs)) : KvOk xs := by
  rw [kvOk_iff] at h ⊢
  refine ⟨fun p hp => h.1 p (List.mem_append_left _ hp), fun i hi => ?_⟩
  have := h.2 i (by simp; omega)
  rw [List.getElem_append_left (by omega), List.getElem_append_left (by omega)] at this
  exact this
theorem KvOk.right {xs bs : List Kv} (h : KvOk (xs ++ bs)) : KvOk bs := by
  rw [kvOk_iff] at h ⊢
  refine ⟨fun p hp => h.1 p (List.mem_append_right _ hp), fun i hi => ?_⟩
  have := h.2 (xs.length + i) (by simp; omega)
  rw [List.getElem_append_right (by omega), List.getElem_append_right (by omega)] at this
  simp only [Nat.add_sub_cancel_left, show xs.length + i + 1 - xs.length = i + 1 by omega] at this
  exact this

/-! ### Sizes -/
def kvFits (kvs : List Kv) : Prop := ∀ p ∈ kvs, p.1.size ≤ maxLen ∧ p.2.length ≤ maxLen ∧ ∀ v ∈ p.2, v.text.size ≤ maxLen
theorem kvFits_of {os : List ObjD} (h : ∀ o ∈ os, o.fits) : kvFits (os.map ObjD.kv) := fun p hp => by
  obtain ⟨o, ho, rfl⟩ := List.mem_map.1 hp
  exact h o ho
theorem fits_of_kv {os : List ObjD} {kvs : List Kv} (e : os.map ObjD.kv = kvs) (h : kvFits kvs) : ∀ o ∈ os, o.fits := fun o ho => by
  subst e
  exact h o.kv (List.mem_map_of_mem ho)
def kvOff (kvs : List Kv) : Nat := (kvs.map fun p => 1 + p.2.length * 3).sum
theorem kvOff_append (xs bs : List Kv) : kvOff (xs ++ bs) = kvOff xs + kvOff bs := by simp [kvOff]
theorem kvOff_cons (a : Kv) (bs : List Kv) : kvOff (a :: bs) = 1 + a.2.length * 3 + kvOff bs := by simp [kvOff]
theorem kvOff_len (kvs : List Kv) : kvs.length ≤ kvOff kvs := by
  induction kvs with
  | nil => simp
  | cons a t ih => rw [kvOff_cons, List.length_cons]; omega
theorem kvOff_at {kvs : List Kv} {p : Kv} (h : p ∈ kvs) : 1 + p.2.length * 3 ≤ kvOff kvs := by
  induction kvs with
  | nil => cases h
  | cons a t ih =>
    rw [kvOff_cons]
    rcases List.mem_cons.1 h with rfl | h
    · omega
    · have := ih h; omega
theorem objOff_kv (os : List ObjD) : objOffAll os = kvOff (os.map ObjD.kv) := by simp only [objOffAll, kvOff, List.map_map]; rfl
theorem kvOff_size (os : List ObjD) : kvOff (os.map ObjD.kv) ≤ 3 * mapSize os := by
  rw [mapSize]
  have : ∀ os : List ObjD, kvOff (os.map ObjD.kv) ≤ 3 * (os.length + (os.map fun o => o.key.size + versSize o.vers).sum) := by
    intro os
    induction os with
    | nil => simp [kvOff]
    | cons o t ih =>
      rw [List.map_cons, kvOff_cons, List.length_cons, List.map_cons, List.sum_cons]
      have : o.vers.length ≤ versSize o.vers := Nat.le_add_right _ _
      simp only [ObjD.kv]
      omega
  have h := this os
  rwa [objsTo, List.take_length]

/-! ### Cut -/
open Classical in
noncomputable def cutF (lo hi : ByteArray) (kvs : List Kv) : List Kv := if KvOk kvs ∧ spanOkB lo hi = true then kvs.filter (fun p => hasB lo hi p.1) else []
theorem cutF_yes {lo hi : ByteArray} {kvs : List Kv} (h : KvOk kvs) (hs : spanOkB lo hi = true) : cutF lo hi kvs = kvs.filter (fun p => hasB lo hi p.1) := by rw [cutF, if_pos ⟨h, hs⟩]
theorem cutF_no {lo hi : ByteArray} {kvs : List Kv} (h : ¬ (KvOk kvs ∧ spanOkB lo hi = true)) : cutF lo hi kvs = [] := by rw [cutF, if_neg h]
theorem kvOff_filter (p : Kv → Bool) (kvs : List Kv) : kvOff (kvs.filter p) ≤ kvOff kvs := by
  induction kvs with
  | nil => simp
  | cons a t ih =>
    rw [List.filter_cons]
    split
    · rw [kvOff_cons, kvOff_cons]; omega
    · rw [kvOff_cons]; omega
theorem cutF_off (lo hi : ByteArray) (kvs : List Kv) : kvOff (cutF lo hi kvs) ≤ kvOff kvs := by
  unfold cutF; split
  · exact kvOff_filter _ _
  · simp [kvOff]
theorem cutF_fits {lo hi : ByteArray} {kvs : List Kv} (h : kvFits kvs) : kvFits (cutF lo hi kvs) := by
  unfold cutF; split
  · exact fun p hp => h p (List.mem_filter.1 hp).1
  · exact fun p hp => by cases hp

/-! ### Join -/
open Classical in
noncomputable def joinF (xs bs : List Kv) : List Kv := if KvOk (xs ++ bs) then xs ++ bs else []
open Classical in
noncomputable def joinB (xs bs : List Kv) : Bool := decide (KvOk (xs ++ bs))
theorem joinF_off (xs bs : List Kv) : kvOff (joinF xs bs) ≤ kvOff xs + kvOff bs := by
  unfold joinF; split
  · rw [kvOff_append]; exact Nat.le_refl _
  · simp [kvOff]
theorem joinF_fits {xs bs : List Kv} (h : kvFits xs) (h2 : kvFits bs) : kvFits (joinF xs bs) := by
  unfold joinF; split
  · exact fun p hp => (List.mem_append.1 hp).elim (h p) (h2 p)
  · exact fun p hp => by cases hp

/-! ### Prune -/
def upN (id : Int) (vs : List VerD) : Nat := (vs.filter fun v => decide (v.id ≤ id)).length
def unreadN (id : Int) (vs : List VerD) : Nat := match upF vs id with
  | none => 0
  | some v => if v.gone then upN id vs else upN id vs - 1
def pruneOne (id : Int) (p : Kv) : Option Kv := if unreadN id p.2 < p.2.length then some (p.1, p.2.drop (unreadN id p.2)) else none
open Classical in
noncomputable def pruneF (id : Int) (kvs : List Kv) : List Kv := if KvOk kvs then kvs.filterMap (pruneOne id) else []
theorem pruneOne_off {id : Int} {p q : Kv} (h : pruneOne id p = some q) : q.1 = p.1 ∧ q.2.length ≤ p.2.length ∧ ∀ v ∈ q.2, v ∈ p.2 := by
  unfold pruneOne at h
  split at h
  · cases h
    exact ⟨rfl, by simp, fun v hv => List.mem_of_mem_drop hv⟩
  · cases h
theorem pruneF_off (id : Int) (kvs : List Kv) : kvOff (pruneF id kvs) ≤ kvOff kvs := by
  unfold pruneF; split
  · rename_i hk; clear hk
    induction kvs with
    | nil => simp
    | cons a t ih =>
      rw [List.filterMap_cons]
      split
      · rw [kvOff_cons]; omega
      · rename_i q hq
        have := (pruneOne_off hq).2.1
        rw [kvOff_cons, kvOff_cons]; omega
  · simp [kvOff]
theorem pruneF_fits {id : Int} {kvs : List Kv} (h : kvFits kvs) : kvFits (pruneF id kvs) := by
  unfold pruneF; split
  · intro p hp
    obtain ⟨q, hq, e⟩ := List.mem_filterMap.1 hp
    obtain ⟨e1, e2, e3⟩ := pruneOne_off e
    obtain ⟨f1, f2, f3⟩ := h q hq
    exact ⟨by rw [e1]; exact f1, Nat.le_trans e2 f2, fun v hv => f3 v (e3 v hv)⟩
  · exact fun p hp => by cases hp
theorem cut_upN {vs : List VerD} {id : Int} {r : Nat} (hu : VersUp vs vs.length) (hc : Cut (verP vs id) vs.length r) : r = upN id vs := by
  obtain ⟨hr, h0, h1⟩ := hc
  rw [upN, filter_take vs _ r, List.length_take]
  · omega
  · intro i hi hir
    have hk : r - 1 < vs.length := by omega
    have h := h0 (r - 1) (by omega)
    rw [verP_at hk] at h
    have h : ¬ id < vs[r - 1].id := by simpa using h
    by_cases e : i = r - 1
    · subst e; simp; omega
    · have := hu.mono (i := i) (j := r - 1) hi hk (by omega)
      simp; omega
  · intro i hi hir
    have hk : r < vs.length := by omega
    have h := h1 hk
    rw [verP_at hk] at h
    have h : id < vs[r].id := by simpa using h
    by_cases e : i = r
    · subst e; simp; omega
    · have := hu.mono (i := r) (j := i) hk hi (by omega)
      simp; omega
end Go.Proofs.Ytjijichgoodocaa
