/- What the functions of maps say, as plain functions of what a map holds. -/
import Derived.Test.YtjijichgoodocaaVmMk
import Derived.Test.YtjijichgoodocaaMapOk
import Derived.Test.YtjijichgoodocaaAsk
import Derived.Test.YtjijichgoodocaaSpan
namespace Go.Proofs.Ytjijichgoodocaa
open Go.RowKit

def kObj (p : Kv) : ObjD := ⟨p.1, none, 0, p.2⟩
def KvOk (kvs : List Kv) : Prop := MapOkTo (kvs.map kObj) (kvs.map kObj).length
theorem kv_kObj (p : Kv) : (kObj p).kv = p := rfl
theorem mapOk_same {xs ys : List ObjD} (h : xs.map ObjD.kv = ys.map ObjD.kv) (hx : MapOkTo xs xs.length) : MapOkTo ys ys.length := by
  have hs := same_of_kv h
  intro i hi hk
  have hi' : i < xs.length := by rw [hs.1]; exact hi
  obtain ⟨h1, h2, h3, h4⟩ := hx i hi' hi'
  obtain ⟨e1, e2⟩ := hs.2 i hi' hi
  refine ⟨by rw [← e1]; exact h1, fun j hj e => ?_, by rw [← e2]; exact h3, by rw [← e2]; exact h4⟩
  have hj' : j < xs.length := by rw [hs.1]; exact hj
  have := h2 j hj' e
  rw [← e1, ← (hs.2 j hj' hj).1]
  exact this
theorem mapOk_kv (os : List ObjD) : MapOkTo os os.length ↔ KvOk (os.map ObjD.kv) := by
  have e : os.map ObjD.kv = ((os.map ObjD.kv).map kObj).map ObjD.kv := by
    simp [List.map_map, Function.comp_def, kv_kObj]
  exact ⟨fun h => mapOk_same e h, fun h => mapOk_same e.symm h⟩
theorem KvOk.nil : KvOk [] := fun i hi => by simp at hi
theorem KvOk.at_ {kvs : List Kv} (h : KvOk kvs) (i : Nat) (hi : i < kvs.length) : keyOkB kvs[i].1 = true ∧ 0 < kvs[i].2.length ∧ VersOkTo kvs[i].2 kvs[i].2.length := by
  have := h i (by simpa using hi) (by simpa using hi)
  simp only [ObjOkAt, List.getElem_map, kObj] at this
  exact ⟨this.1, this.2.2.1, this.2.2.2⟩
theorem KvOk.vers {kvs : List Kv} (h : KvOk kvs) {p : Kv} (hp : p ∈ kvs) : keyOkB p.1 = true ∧ 0 < p.2.length ∧ VersOkTo p.2 p.2.length := by
  obtain ⟨i, hi, rfl⟩ := List.getElem_of_mem hp
  exact h.at_ i hi
theorem versUp_of {vs : List VerD} (h : VersOkTo vs vs.length) : VersUp vs vs.length := fun i hi hk j hj e => (h i hi hk).2 j hj e
theorem keyLess_iff (a b : ByteArray) : (Op.bytesLess a.toList b.toList || a.toList == b.toList) = false ↔ b.toList < a.toList := by
  rw [bytesLess_le, ← less_iff]
  simp
/-- A map is ok: each object is, and the keys go up. -/
theorem kvOk_iff (kvs : List Kv) : KvOk kvs ↔ (∀ p ∈ kvs, keyOkB p.1 = true ∧ 0 < p.2.length ∧ VersOkTo p.2 p.2.length) ∧ ∀ i (h : i + 1 < kvs.length), (kvs[i]'(by omega)).1.toList < kvs[i + 1].1.toList := by
  constructor
  · intro h
    refine ⟨fun p hp => h.vers hp, fun i hi => ?_⟩
    have := (h (i + 1) (by simpa using hi) (by simpa using hi)).2.1 i (by simp; omega) rfl
    simp only [List.getElem_map, kObj] at this
    exact (keyLess_iff _ _).1 this
  · intro ⟨h1, h2⟩ i hi hk
    have hi' : i < kvs.length := by simpa using hi
    obtain ⟨a, b, c⟩ := h1 _ (List.getElem_mem hi')
    simp only [ObjOkAt, List.getElem_map, kObj]
    refine ⟨a, fun j hj e => ?_, b, c⟩
    subst e
    exact (keyLess_iff _ _).2 (h2 j hi')
theorem KvOk.left {xs bs : List Kv} (h : KvOk (xs ++ bs)) : KvOk xs := by
  rw [kvOk_iff] at h ⊢
  refine ⟨fun p hp => h.1 p (List.mem_append_left _ hp), fun i hi => ?_⟩
  have := h.2 i (by simp; omega)
  rw [List.getElem_append_left (by omega), List.getElem_append_left (by omega)] at this
  exact this
theorem KvOk.right {xs bs : List Kv} (h : KvOk (xs ++ bs)) : KvOk bs := by
  rw [kvOk_iff] at h ⊢
  refine ⟨fun p hp => h.1 p (List.mem_append_right _ hp), fun i hi => ?_⟩
  have := h.2 (xs.length + i) (by simp; omega)
  rw [List.getElem_append_right (by omega), List.getElem_append_right (by omega)] at this
  simp only [Nat.add_sub_cancel_left, show xs.length + i + 1 - xs.length = i + 1 by omega] at this
  exact this

/-! ### Sizes -/
def kvFits (kvs : List Kv) : Prop := ∀ p ∈ kvs, p.1.size ≤ maxLen ∧ p.2.length ≤ maxLen ∧ ∀ v ∈ p.2, v.text.size ≤ maxLen
theorem kvFits_of {os : List ObjD} (h : ∀ o ∈ os, o.fits) : kvFits (os.map ObjD.kv) := fun p hp => by
  obtain ⟨o, ho, rfl⟩ := List.mem_map.1 hp
  exact h o ho
theorem fits_of_kv {os : List ObjD} {kvs : List Kv} (e : os.map ObjD.kv = kvs) (h : kvFits kvs) : ∀ o ∈ os, o.fits := fun o ho => by
  subst e
  exact h o.kv (List.mem_map_of_mem ho)
def kvOff (kvs : List Kv) : Nat := (kvs.map fun p => 1 + p.2.length * 3).sum
theorem kvOff_append (xs bs : List Kv) : kvOff (xs ++ bs) = kvOff xs + kvOff bs := by simp [kvOff]
theorem kvOff_cons (a : Kv) (bs : List Kv) : kvOff (a :: bs) = 1 + a.2.length * 3 + kvOff bs := by simp [kvOff]
theorem kvOff_len (kvs : List Kv) : kvs.length ≤ kvOff kvs := by
  induction kvs with
  | nil => simp
  | cons a t ih => rw [kvOff_cons, List.length_cons]; omega
theorem kvOff_at {kvs : List Kv} {p : Kv} (h : p ∈ kvs) : 1 + p.2.length * 3 ≤ kvOff kvs := by
  induction kvs with
  | nil => cases h
  | cons a t ih =>
    rw [kvOff_cons]
    rcases List.mem_cons.1 h with rfl | h
    · omega
    · have := ih h; omega
theorem objOff_kv (os : List ObjD) : objOffAll os = kvOff (os.map ObjD.kv) := by simp only [objOffAll, kvOff, List.map_map]; rfl
theorem kvOff_size (os : List ObjD) : kvOff (os.map ObjD.kv) ≤ 3 * mapSize os := by
  rw [mapSize]
  have : ∀ os : List ObjD, kvOff (os.map ObjD.kv) ≤ 3 * (os.length + (os.map fun o => o.key.size + versSize o.vers).sum) := by
    intro os
    induction os with
    | nil => simp [kvOff]
    | cons o t ih =>
      rw [List.map_cons, kvOff_cons, List.length_cons, List.map_cons, List.sum_cons]
      have : o.vers.length ≤ versSize o.vers := Nat.le_add_right _ _
      simp only [ObjD.kv]
      omega
  have h := this os
  rwa [objsTo, List.take_length]

/-! ### Cut -/
open Classical in
noncomputable def cutF (lo hi : ByteArray) (kvs : List Kv) : List Kv := if KvOk kvs ∧ spanOkB lo hi = true then kvs.filter (fun p => hasB lo hi p.1) else []
theorem cutF_yes {lo hi : ByteArray} {kvs : List Kv} (h : KvOk kvs) (hs : spanOkB lo hi = true) : cutF lo hi kvs = kvs.filter (fun p => hasB lo hi p.1) := by rw [cutF, if_pos ⟨h, hs⟩]
theorem cutF_no {lo hi : ByteArray} {kvs : List Kv} (h : ¬ (KvOk kvs ∧ spanOkB lo hi = true)) : cutF lo hi kvs = [] := by rw [cutF, if_neg h]
theorem kvOff_filter (p : Kv → Bool) (kvs : List Kv) : kvOff (kvs.filter p) ≤ kvOff kvs := by
  induction kvs with
  | nil => simp
  | cons a t ih =>
    rw [List.filter_cons]
    split
    · rw [kvOff_cons, kvOff_cons]; omega
    · rw [kvOff_cons]; omega
theorem cutF_off (lo hi : ByteArray) (kvs : List Kv) : kvOff (cutF lo hi kvs) ≤ kvOff kvs := by
  unfold cutF; split
  · exact kvOff_filter _ _
  · simp [kvOff]
theorem cutF_fits {lo hi : ByteArray} {kvs : List Kv} (h : kvFits kvs) : kvFits (cutF lo hi kvs) := by
  unfold cutF; split
  · exact fun p hp => h p (List.mem_filter.1 hp).1
  · exact fun p hp => by cases hp

/-! ### Join -/
open Classical in
noncomputable def joinF (xs bs : List Kv) : List Kv := if KvOk (xs ++ bs) then xs ++ bs else []
open Classical in
noncomputable def joinB (xs bs : List Kv) : Bool := decide (KvOk (xs ++ bs))
theorem joinF_off (xs bs : List Kv) : kvOff (joinF xs bs) ≤ kvOff xs + kvOff bs := by
  unfold joinF; split
  · rw [kvOff_append]; exact Nat.le_refl _
  · simp [kvOff]
theorem joinF_fits {xs bs : List Kv} (h : kvFits xs) (h2 : kvFits bs) : kvFits (joinF xs bs) := by
  unfold joinF; split
  · exact fun p hp => (List.mem_append.1 hp).elim (h p) (h2 p)
  · exact fun p hp => by cases hp

/-! ### Prune -/
def upN (id : Int) (vs : List VerD) : Nat := (vs.filter fun v => decide (v.id ≤ id)).length
def unreadN (id : Int) (vs : List VerD) : Nat := match upF vs id with
  | none => 0
  | some v => if v.gone then upN id vs else upN id vs - 1
def pruneOne (id : Int) (p : Kv) : Option Kv := if unreadN id p.2 < p.2.length then some (p.1, p.2.drop (unreadN id p.2)) else none
open Classical in
noncomputable def pruneF (id : Int) (kvs : List Kv) : List Kv := if KvOk kvs then kvs.filterMap (pruneOne id) else []
theorem pruneOne_off {id : Int} {p q : Kv} (h : pruneOne id p = some q) : q.1 = p.1 ∧ q.2.length ≤ p.2.length ∧ ∀ v ∈ q.2, v ∈ p.2 := by
  unfold pruneOne at h
  split at h
  · cases h
    exact ⟨rfl, by simp, fun v hv => List.mem_of_mem_drop hv⟩
  · cases h
theorem pruneF_off (id : Int) (kvs : List Kv) : kvOff (pruneF id kvs) ≤ kvOff kvs := by
  unfold pruneF; split
  · rename_i hk; clear hk
    induction kvs with
    | nil => simp
    | cons a t ih =>
      rw [List.filterMap_cons]
      split
      · rw [kvOff_cons]; omega
      · rename_i q hq
        have := (pruneOne_off hq).2.1
        rw [kvOff_cons, kvOff_cons]; omega
  · simp [kvOff]
theorem pruneF_fits {id : Int} {kvs : List Kv} (h : kvFits kvs) : kvFits (pruneF id kvs) := by
  unfold pruneF; split
  · intro p hp
    obtain ⟨q, hq, e⟩ := List.mem_filterMap.1 hp
    obtain ⟨e1, e2, e3⟩ := pruneOne_off e
    obtain ⟨f1, f2, f3⟩ := h q hq
    exact ⟨by rw [e1]; exact f1, Nat.le_trans e2 f2, fun v hv => f3 v (e3 v hv)⟩
  · exact fun p hp => by cases hp
theorem cut_upN {vs : List VerD} {id : Int} {r : Nat} (hu : VersUp vs vs.length) (hc : Cut (verP vs id) vs.length r) : r = upN id vs := by
  obtain ⟨hr, h0, h1⟩ := hc
  rw [upN, filter_take vs _ r, List.length_take]
  · omega
  · intro i hi hir
    have hk : r - 1 < vs.length := by omega
    have h := h0 (r - 1) (by omega)
    rw [verP_at hk] at h
    have h : ¬ id < vs[r - 1].id := by simpa using h
    by_cases e : i = r - 1
    · subst e; simp; omega
    · have := hu.mono (i := i) (j := r - 1) hi hk (by omega)
      simp; omega
  · intro i hi hir
    have hk : r < vs.length := by omega
    have h := h1 hk
    rw [verP_at hk] at h
    have h : id < vs[r].id := by simpa using h
    by_cases e : i = r
    · subst e; simp; omega
    · have := hu.mono (i := r) (j := i) hk hi (by omega)
      simp; omega
end Go.Proofs.Ytjijichgoodocaa

/- Where a key stands, and its newest version, as the model finds them. -/
namespace Go.Proofs.Ytjijichgoodocaa
open Go.RowKit

def AtIdx (os : List ObjD) (key : ByteArray) (k : Nat) : Prop := k ≤ os.length ∧ ∀ i (h : i < os.length), i < k → Op.bytesLess os[i].key.toList key.toList = true
def L2At (os : List ObjD) (key : ByteArray) (w : World) (e : Ending) (w' : World) : Prop :=
  ∃ (k : Nat) (b : Bool), e = .returned (.tuple #[.int .i64 k, .bool b]) ∧ AtIdx os key k ∧ (∀ h : k < os.length, Op.bytesLess os[k].key.toList key.toList = false ∧ b = (os[k].key.toList == key.toList)) ∧ (os.length ≤ k → b = false) ∧ Below w.heap.size w w'

set_option maxHeartbeats 1000000 in
theorem l2At_any (a : Option Addr) (os : List ObjD) (cap : Nat) (key : ByteArray) (w : World) (hv : ObjsIn w a os) (hn : os.length ≤ 1048576) :
    Calls Try.prog 91 #[.agg #[.slice a os.length cap], .string key] w (L2At os key w) := by
  have HV := Lib.hid hv
  clear hv
  have HW := Lib.hid ((Below.refl w.heap.size w).alloc (Nat.le_refl _) (.cells #[.slice a os.length cap] 25))
  go_enter Try.func91, Try.ntmps91
  go_wp2_with fail
  go_loop [6] (fun i => ∃ k : Nat, i = .int .i64 k ∧ AtIdx os key k) (fun i => os.length - (intOf i).toNat)
  case atStart => exact ⟨0, rfl, Nat.zero_le _, fun i h hk => absurd hk (by omega)⟩
  case round =>
    obtain ⟨k, rfl, hA⟩ := hrel
    have hk := hA.1
    have HA := Lib.hid hA
    clear hA
    by_cases hlt : k < os.length
    · rcases HV.out.below HW.out with hnil | ⟨b1, o1, rfl, hb1, hc1⟩
      · rw [hnil] at hlt; simp at hlt
      obtain ⟨c0, c1, c2⟩ := hc1 k hlt
      clear hc1 c2
      cases hb : Op.bytesLess os[k].key.toList key.toList
      · cases he : (os[k].key.toList == key.toList)
        all_goals
          go_wp2_with fail
          go_quiet (fail)
          go_wp2_with fail
          go_ret2
          exact ⟨k, _, rfl, HA.out, fun _ => ⟨hb, he.symm⟩, fun h => absurd h (by omega), Below.drewN HW.out _⟩
      · go_wp2_with fail
        go_round
        case rel => exact ⟨k + 1, by go_num, by omega, fun i h hik => by
          by_cases e : i = k
          · subst e; exact hb
          · exact HA.out.2 i h (by omega)⟩
        case measure => simp [intOf]; omega
    · go_wp2_with fail
      go_quiet (fail)
      go_wp2_with fail
      go_ret2
      exact ⟨k, false, rfl, HA.out, fun h => absurd h hlt, fun _ => rfl, Below.drewN HW.out _⟩
end Go.Proofs.Ytjijichgoodocaa
