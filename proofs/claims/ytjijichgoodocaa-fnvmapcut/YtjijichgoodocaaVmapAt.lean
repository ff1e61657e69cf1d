/- What the functions of maps say, as plain functions of what a map holds. -/
import Derived.Test.YtjijichgoodocaaVmMk
import Derived.Test.YtjijichgoodocaaUpTo
import Derived.Test.YtjijichgoodocaaSpan
namespace Go.Proofs.Ytjijichgoodocaa
open Go.RowKit

def kObj (p : Kv) : ObjD := ⟨p.1, none, 0, p.2⟩
def KvOk (kvs : List Kv) : Prop := MapOkTo (kvs.map kObj) (kvs.map kObj).length
theorem kv_kObj (p : Kv) : (kObj p).kv = p := rfl
theorem mapOk_same {xs ys : List ObjD} (h : xs.map ObjD.kv = ys.map ObjD.kv) (hx : MapOkTo xs xs.length) : MapOkTo ys ys.length := by
  have hs := same_of_kv h
  intro i hi hk
  have hi' : i < xs.length := by rw [hs.1]; exact hi
  obtain ⟨h1, h2, h3, h4⟩ := hx i hi' hi'
  obtain ⟨e1, e2⟩ := hs.2 i hi' hi
  refine ⟨by rw [← e1]; exact h1, fun j hj e => ?_, by rw [← e2]; exact h3, by rw [← e2]; exact h4⟩
  have hj' : j < xs.length := by rw [hs.1]; exact hj
  have := h2 j hj' e
  rw [← e1, ← (hs.2 j hj' hj).1]
  exact this
theorem mapOk_kv (os : List ObjD) : MapOkTo os os.length ↔ KvOk (os.map ObjD.kv) := by
  have e : os.map ObjD.kv = ((os.map ObjD.kv).map kObj).map ObjD.kv := by
    simp [List.map_map, Function.comp_def, kv_kObj]
  exact ⟨fun h => mapOk_same e h, fun h => mapOk_same e.symm h⟩
theorem KvOk.nil : KvOk [] := fun i hi => by simp at hi
theorem KvOk.at_ {kvs : List Kv} (h : KvOk kvs) (i : Nat) (hi : i < kvs.length) : keyOkB kvs[i].1 = true ∧ 0 < kvs[i].2.length ∧ VersOkTo kvs[i].2 kvs[i].2.length := by
  have := h i (by simpa using hi) (by simpa using hi)
  simp only [ObjOkAt, List.getElem_map, kObj] at this
  exact ⟨this.1, this.2.2.1, this.2.2.2⟩
theorem KvOk.vers {kvs : List Kv} (h : KvOk kvs) {p : Kv} (hp : p ∈ kvs) : keyOkB p.1 = true ∧ 0 < p.2.length ∧ VersOkTo p.2 p.2.length := by
  obtain ⟨i, hi, rfl⟩ := List.getElem_of_mem hp
  exact h.at_ i hi
theorem versUp_of {vs : List VerD} (h : VersOkTo vs vs.length) : VersUp vs vs.length := fun i hi hk j hj e => (h i hi hk).2 j hj e
theorem keyLess_iff (a b : ByteArray) : (Op.bytesLess a.toList b.toList || a.toList == b.toList) = false ↔ b.toList < a.toList := by
  rw [bytesLess_le, ← less_iff]
  simp
/-- A map is ok: each object is, and the keys go up. -/
theorem kvOk_iff (kvs : List Kv) : KvOk kvs ↔ (∀ p ∈ kvs, keyOkB p.1 = true ∧ 0 < p.2.length ∧ VersOkTo p.2 p.2.length) ∧ ∀ i (h : i + 1 < kvs.length), (kvs[i]'(by omega)).1.toList < kvs[i + 1].1.toList := by
  constructor
  · intro h
    refine ⟨fun p hp => h.vers hp, fun i hi => ?_⟩
    have := (h (i + 1) (by simpa using hi) (by simpa using hi)).2.1 i (by simp; omega) rfl
    simp only [List.getElem_map, kObj] at this
    exact (keyLess_iff _ _).1 this
  · intro ⟨h1, h2⟩ i hi hk
    have hi' : i < kvs.length := by simpa using hi
    obtain ⟨a, b, c⟩ := h1 _ (List.getElem_mem hi')
    simp only [ObjOkAt, List.getElem_map, kObj]
    refine ⟨a, fun j hj e => ?_, b, c⟩
    subst e
    exact (keyLess_iff _ _).2 (h2 j hi')
theorem KvOk.left {xs bs : List Kv} (h : KvOk (xs ++ bs)) : KvOk xs := by
  rw [kvOk_iff] at h ⊢
  refine ⟨fun p hp => h.1 p (List.mem_append_left _ hp), fun i hi => ?_⟩
  have := h.2 i (by simp; omega)
  rw [List.getElem_append_left (by omega), List.getElem_append_left (by omega)] at this
  exact this
theorem KvOk.right {xs bs : List Kv} (h : KvOk (xs ++ bs)) : KvOk bs := by
  rw [kvOk_iff] at h ⊢
  refine ⟨fun p hp => h.1 p (List.mem_append_right _ hp), fun i hi => ?_⟩
  have := h.2 (xs.length + i) (by simp; omega)
  rw [List.getElem_append_right (by omega), List.getElem_append_right (by omega)] at this
  simp only [Nat.add_sub_cancel_left, show xs.length + i + 1 - xs.length = i + 1 by omega] at this
  exact this

/-! ### Sizes -/
def kvFits (kvs : List Kv) : Prop := ∀ p ∈ kvs, p.1.size ≤ maxLen ∧ p.2.length ≤ maxLen ∧ ∀ v ∈ p.2, v.text.size ≤ maxLen
theorem kvFits_of {os : List ObjD} (h : ∀ o ∈ os, o.fits) : kvFits (os.map ObjD.kv) := fun p hp => by
  obtain ⟨o, ho, rfl⟩ := List.mem_map.1 hp
  exact h o ho
theorem fits_of_kv {os : List ObjD} {kvs : List Kv} (e : os.map ObjD.kv = kvs) (h : kvFits kvs) : ∀ o ∈ os, o.fits := fun o ho => by
  subst e
  exact h o.kv (List.mem_map_of_mem ho)
def kvOff (kvs : List Kv) : Nat := (kvs.map fun p => 1 + p.2.length * 3).sum
theorem kvOff_append (xs bs : List Kv) : kvOff (xs ++ bs) = kvOff xs + kvOff bs := by simp [kvOff]
theorem kvOff_cons (a : Kv) (bs : List Kv) : kvOff (a :: bs) = 1 + a.2.length * 3 + kvOff bs := by simp [kvOff]
theorem kvOff_len (kvs : List Kv) : kvs.length ≤ kvOff kvs := by
  induction kvs with
  | nil => simp
  | cons a t ih => rw [kvOff_cons, List.length_cons]; omega
theorem kvOff_at {kvs : List Kv} {p : Kv} (h : p ∈ kvs) : 1 + p.2.length * 3 ≤ kvOff kvs := by
  induction kvs with
  | nil => cases h
  | cons a t ih =>
    rw [kvOff_cons]
    rcases List.mem_cons.1 h with rfl | h
    · omega
    · have := ih h; omega
theorem objOff_kv (os : List ObjD) : objOffAll os = kvOff (os.map ObjD.kv) := by simp only [objOffAll, kvOff, List.map_map]; rfl
theorem kvOff_size (os : List ObjD) : kvOff (os.map ObjD.kv) ≤ 3 * mapSize os := by
  rw [mapSize]
  have : ∀ os : List ObjD, kvOff (os.map ObjD.kv) ≤ 3 * (os.length + (os.map fun o => o.key.size + versSize o.vers).sum) := by
    intro os
    induction os with
    | nil => simp [kvOff]
    | cons o t ih =>
      rw [List.map_cons, kvOff_cons, List.length_cons, List.map_cons, List.sum_cons]
      have : o.vers.length ≤ versSize o.vers := Nat.le_add_right _ _
      simp only [ObjD.kv]
      omega
  have h := this os
  rwa [objsTo, List.take_length]

/-! ### Cut -/
open Classical in
noncomputable def cutF (lo hi : ByteArray) (kvs : List Kv) : List Kv := if KvOk kvs ∧ spanOkB lo hi = true then kvs.filter (fun p => hasB lo hi p.1) else []
theorem cutF_yes {lo hi : ByteArray} {kvs : List Kv} (h : KvOk kvs) (hs : spanOkB lo hi = true) : cutF lo hi kvs = kvs.filter (fun p => hasB lo hi p.1) := by rw [cutF, if_pos ⟨h, hs⟩]
theorem cutF_no {lo hi : ByteArray} {kvs : List Kv} (h : ¬ (KvOk kvs ∧ spanOkB lo hi = true)) : cutF lo hi kvs = [] := by rw [cutF, if_neg h]
theorem kvOff_filter (p : Kv → Bool) (kvs : List Kv) : kvOff (kvs.filter p) ≤ kvOff kvs := by
  induction kvs with
  | nil => simp
  | cons a t ih =>
    rw [List.filter_cons]
    split
    · rw [kvOff_cons, kvOff_cons]; omega
    · rw [kvOff_cons]; omega
theorem cutF_off (lo hi : ByteArray) (kvs : List Kv) : kvOff (cutF lo hi kvs) ≤ kvOff kvs := by
  unfold cutF; split
  · exact kvOff_filter _ _
  · simp [kvOff]
theorem cutF_fits {lo hi : ByteArray} {kvs : List Kv} (h : kvFits kvs) : kvFits (cutF lo hi kvs) := by
  unfold cutF; split
  · exact fun p hp => h p (List.mem_filter.1 hp).1
  · exact fun p hp => by cases hp

/-! ### Join -/
open Classical in
noncomputable def joinF (xs bs : List Kv) : List Kv := if KvOk (xs ++ bs) then xs ++ bs else []
open Classical in
noncomputable def joinB (xs bs : List Kv) : Bool := decide (KvOk (xs ++ bs))
theorem joinF_off (xs bs : List Kv) : kvOff (joinF xs bs) ≤ kvOff xs + kvOff bs := by
  unfold joinF; split
  · rw [kvOff_append]; exact Nat.le_refl _
  · simp [kvOff]
theorem joinF_fits {xs bs : List Kv} (h : kvFits xs) (h2 : kvFits bs) : kvFits (joinF xs bs) := by
  unfold joinF; split
  · exact fun p hp => (List.mem_append.1 hp).elim (h p) (h2 p)
  · exact fun p hp => by cases hp

/-! ### Prune -/
def upN (id : Int) (vs : List VerD) : Nat := (vs.filter fun v => decide (v.id ≤ id)).length
def unreadN (id : Int) (vs : List VerD) : Nat := match upF vs id with
  | none => 0
  | some v => if v.gone then upN id vs else upN id vs - 1
def pruneOne (id : Int) (p : Kv) : Option Kv := if unreadN id p.2 < p.2.length then some (p.1, p.2.drop (unreadN id p.2)) else none
open Classical in
noncomputable def pruneF (id : Int) (kvs : List Kv) : List Kv := if KvOk kvs then kvs.filterMap (pruneOne id) else []
theorem pruneOne_off {id : Int} {p q : Kv} (h : pruneOne id p = some q) : q.1 = p.1 ∧ q.2.length ≤ p.2.length ∧ ∀ v ∈ q.2, v ∈ p.2 := by
  unfold pruneOne at h
  split at h
  · cases h
    exact ⟨rfl, by simp, fun v hv => List.mem_of_mem_drop hv⟩
  · cases h
theorem pruneF_off (id : Int) (kvs : List Kv) : kvOff (pruneF id kvs) ≤ kvOff kvs := by
  unfold pruneF; split
  · rename_i hk; clear hk
    induction kvs with
    | nil => simp
    | cons a t ih =>
      rw [List.filterMap_cons]
      split
      · rw [kvOff_cons]; omega
      · rename_i q hq
        have := (pruneOne_off hq).2.1
        rw [kvOff_cons, kvOff_cons]; omega
  · simp [kvOff]
theorem pruneF_fits {id : Int} {kvs : List Kv} (h : kvFits kvs) : kvFits (pruneF id kvs) := by
  unfold pruneF; split
  · intro p hp
    obtain ⟨q, hq, e⟩ := List.mem_filterMap.1 hp
    obtain ⟨e1, e2, e3⟩ := pruneOne_off e
    obtain ⟨f1, f2, f3⟩ := h q hq
    exact ⟨by rw [e1]; exact f1, Nat.le_trans e2 f2, fun v hv => f3 v (e3 v hv)⟩
  · exact fun p hp => by cases hp
theorem cut_upN {vs : List VerD} {id : Int} {r : Nat} (hu : VersUp vs vs.length) (hc : Cut (verP vs id) vs.length r) : r = upN id vs := by
  obtain ⟨hr, h0, h1⟩ := hc
  rw [upN, filter_take vs _ r, List.length_take]
  · omega
  · intro i hi hir
    have hk : r - 1 < vs.length := by omega
    have h := h0 (r - 1) (by omega)
    rw [verP_at hk] at h
    have h : ¬ id < vs[r - 1].id := by simpa using h
    by_cases e : i = r - 1
    · subst e; simp; omega
    · have := hu.mono (i := i) (j := r - 1) hi hk (by omega)
      simp; omega
  · intro i hi hir
    have hk : r < vs.length := by omega
    have h := h1 hk
    rw [verP_at hk] at h
    have h : id < vs[r].id := by simpa using h
    by_cases e : i = r
    · subst e; simp; omega
    · have := hu.mono (i := r) (j := i) hk hi (by omega)
      simp; omega
end Go.Proofs.Ytjijichgoodocaa

/- Where a key stands, and its newest version, as the model finds them. -/
namespace Go.Proofs.Ytjijichgoodocaa
open Go.RowKit

def AtIdx (os : List ObjD) (key : ByteArray) (k : Nat) : Prop := k ≤ os.length ∧ ∀ i (h : i < os.length), i < k → Op.bytesLess os[i].key.toList key.toList = true
def L2At (os : List ObjD) (key : ByteArray) (w : World) (e : Ending) (w' : World) : Prop :=
  ∃ (k : Nat) (b : Bool), e = .returned (.tuple #[.int .i64 k, .bool b]) ∧ AtIdx os key k ∧ (∀ h : k < os.length, Op.bytesLess os[k].key.toList key.toList = false ∧ b = (os[k].key.toList == key.toList)) ∧ (os.length ≤ k → b = false) ∧ Below w.heap.size w w'

set_option maxHeartbeats 1000000 in
theorem l2At_any (a : Option Addr) (os : List ObjD) (cap : Nat) (key : ByteArray) (w : World) (hv : ObjsIn w a os) (hn : os.length ≤ 1048576) :
    Calls Try.prog 91 #[.agg #[.slice a os.length cap], .string key] w (L2At os key w) := by
  have HV := Lib.hid hv
  clear hv
  have HW := Lib.hid ((Below.refl w.heap.size w).alloc (Nat.le_refl _) (.cells #[.slice a os.length cap] 25))
  go_enter Try.func91, Try.ntmps91
  go_wp2_with fail
  go_loop [6] (fun i => ∃ k : Nat, i = .int .i64 k ∧ AtIdx os key k) (fun i => os.length - (intOf i).toNat)
  case atStart => exact ⟨0, rfl, Nat.zero_le _, fun i h hk => absurd hk (by omega)⟩
  case round =>
    obtain ⟨k, rfl, hA⟩ := hrel
    have hk := hA.1
    have HA := Lib.hid hA
    clear hA
    by_cases hlt : k < os.length
    · rcases HV.out.below HW.out with hnil | ⟨b1, o1, rfl, hb1, hc1⟩
      · rw [hnil] at hlt; simp at hlt
      obtain ⟨c0, c1, c2⟩ := hc1 k hlt
      clear hc1 c2
      cases hb : Op.bytesLess os[k].key.toList key.toList
      · cases he : (os[k].key.toList == key.toList)
        all_goals
          go_wp2_with fail
          go_quiet (fail)
          go_wp2_with fail
          go_ret2
          exact ⟨k, _, rfl, HA.out, fun _ => ⟨hb, he.symm⟩, fun h => absurd h (by omega), Below.drewN HW.out _⟩
      · go_wp2_with fail
        go_round
        case rel => exact ⟨k + 1, by go_num, by omega, fun i h hik => by
          by_cases e : i = k
          · subst e; exact hb
          · exact HA.out.2 i h (by omega)⟩
        case measure => simp [intOf]; omega
    · go_wp2_with fail
      go_quiet (fail)
      go_wp2_with fail
      go_ret2
      exact ⟨k, false, rfl, HA.out, fun h => absurd h hlt, fun _ => rfl, Below.drewN HW.out _⟩
end Go.Proofs.Ytjijichgoodocaa

/- VmapAt and VmapGet, as the program has them. -/
namespace Go.Proofs.Ytjijichgoodocaa
open Go.RowKit

def AtPost (os : List ObjD) (key : ByteArray) (id : Int) (w : World) (e : Ending) (w' : World) : Prop :=
  ∃ x : Option VerD, e = .returned (verRes x) ∧ (MapOkTo os os.length → keyOkB key = true → x = atF os key id) ∧ (¬ (MapOkTo os os.length ∧ keyOkB key = true) → x = none) ∧ Below w.heap.size w w'

set_option maxHeartbeats 2000000 in
theorem vmapAt_any (a : Option Addr) (os : List ObjD) (cap : Nat) (key : ByteArray) (id : Int) (w : World) (hv : ObjsIn w a os) (hf : ∀ o ∈ os, o.fits) (hn : os.length ≤ 1048576) (hvl : ∀ o ∈ os, o.vers.length ≤ 1048576) (hkey : key.size ≤ maxLen) :
    Calls Try.prog 22 #[.agg #[.slice a os.length cap], .string key, .int .i64 id] w (AtPost os key id w) := by
  have HV := Lib.hid hv
  have HF := Lib.hid hf
  have HL := Lib.hid hvl
  clear hv hf hvl
  go_enter Try.func22, Try.ntmps22
  go_wp2_with fail
  have hb0 : Below w.heap.size w ((w.alloc (.cells #[.slice a os.length cap] 25)).alloc (.cells #[.int .i64 0, .string ⟨#[]⟩, .bool false] 27)) := ((Below.refl _ _).alloc (Nat.le_refl _) _).alloc (by simp) _
  refine (vmapOk_any a os cap _ (HV.out.below hb0) HF.out (by unfold maxLen; omega)).mono ?_
  rintro e w2 ⟨b, rfl, hb, hb2⟩
  have cm := hb2.cell (p := ⟨w.heap.size, 0, none⟩) (by simp; omega)
  have c0 := hb2.cell (p := ⟨w.heap.size + 1, 0, none⟩) (by simp)
  have c1 := hb2.cell (p := ⟨w.heap.size + 1, 1, none⟩) (by simp)
  have c2 := hb2.cell (p := ⟨w.heap.size + 1, 2, none⟩) (by simp)
  have f0 := hb2.frozen (p := ⟨w.heap.size + 1, 0, none⟩) (by simp)
  have f1 := hb2.frozen (p := ⟨w.heap.size + 1, 1, none⟩) (by simp)
  have f2 := hb2.frozen (p := ⟨w.heap.size + 1, 2, none⟩) (by simp)
  simp [go_sem] at cm c0 c1 c2 f0 f1 f2
  have hs0 : w.heap.size < w2.heap.size := by have := hb2.size; simp at this; omega
  have hs2 : w.heap.size + 1 < w2.heap.size := by have := hb2.size; simp at this; omega
  have HOk := Lib.hid hb
  have B2 := Lib.hid (hb0.trans (hb2.mono (by simp; omega)))
  clear hb0 hb hb2
  cases b
  · have hno : ¬ MapOkTo os os.length := fun h => absurd (HOk.out.2 h) (by decide)
    have HNO := Lib.hid hno
    clear hno
    go_wp2_with fail
    exact bodyPost_ret (v := verRes none) (by simp [results, Try.results22, go_sem, verRes, c0, c1, c2, hs2]) rfl ⟨none, rfl, fun h => absurd h HNO.out, fun _ => rfl, ((B2.out.setCell (p := ⟨w.heap.size + 1, 0, none⟩) (by simp) _).setCell (p := ⟨w.heap.size + 1, 1, none⟩) (by simp) _).setCell (p := ⟨w.heap.size + 1, 2, none⟩) (by simp) _⟩
  · have hyes : MapOkTo os os.length := HOk.out.1 rfl
    have HYES := Lib.hid hyes
    clear hyes
    cases hk : keyOkB key
    · go_wp2_with (go_at_call 60; refine (keyOk_is hk hkey _).mono ?_; rintro e w' ⟨rfl, rfl⟩)
      exact bodyPost_ret (v := verRes none) (by simp [results, Try.results22, go_sem, verRes, c0, c1, c2, hs2]) rfl ⟨none, rfl, fun _ h => absurd h (by simp [hk]), fun _ => rfl, ((B2.out.setCell (p := ⟨w.heap.size + 1, 0, none⟩) (by simp) _).setCell (p := ⟨w.heap.size + 1, 1, none⟩) (by simp) _).setCell (p := ⟨w.heap.size + 1, 2, none⟩) (by simp) _⟩
    · obtain ⟨hok, hup⟩ := (mapOk_iff os).1 HYES.out
      have HOB := Lib.hid hok
      have HUP := Lib.hid hup
      clear hok hup
      go_wp2_with (first
        | (go_at_call 60; refine (keyOk_is hk hkey _).mono ?_; rintro e w' ⟨rfl, rfl⟩)
        | (go_at_call 85; refine (objs_is _ _ _ _).mono ?_; rintro e w' ⟨rfl, rfl⟩))
      refine (objGet_any a os cap key _ (HV.out.below (B2.out.alloc B2.out.size _)) hn).mono ?_
      rintro e w3 ⟨r, hr, rfl, hb3⟩
      rw [cut_found HUP.out hr]
      have k0 := hb3.cell (p := ⟨w.heap.size + 1, 0, none⟩) (by simp; omega)
      have k1 := hb3.cell (p := ⟨w.heap.size + 1, 1, none⟩) (by simp; omega)
      have k2 := hb3.cell (p := ⟨w.heap.size + 1, 2, none⟩) (by simp; omega)
      have g0 := hb3.frozen (p := ⟨w.heap.size + 1, 0, none⟩) (by simp; omega)
      have g1 := hb3.frozen (p := ⟨w.heap.size + 1, 1, none⟩) (by simp; omega)
      have g2 := hb3.frozen (p := ⟨w.heap.size + 1, 2, none⟩) (by simp; omega)
      simp [go_sem, hs2, c0, c1, c2, f0, f1, f2] at k0 k1 k2 g0 g1 g2
      have hs3 : w.heap.size + 1 < w3.heap.size := by have := hb3.size; simp at this; omega
      have B3 := Lib.hid ((B2.out.alloc B2.out.size (.cells #[.slice a os.length cap] 25)).trans (hb3.mono (by simp; omega)))
      clear hb3 hr c0 c1 c2 f0 f1 f2 cm hs2 hs0
      have hs3' : w.heap.size + 1 < w3.heap.size + 1 := by omega
      cases hkf : keyF os key with
      | none =>
        rw [objRes]
        go_wp2_with fail
        refine (visible_any _ none [] 0 id _ (.inl rfl) (by simp)).mono ?_
        rintro e w4 ⟨r, hr, rfl, hb4⟩
        obtain rfl : r = 0 := by have := hr.1; simpa using this
        have k0' := (hb4.cell (p := ⟨w.heap.size + 1, 0, none⟩) (by simp; omega))
        have k1' := (hb4.cell (p := ⟨w.heap.size + 1, 1, none⟩) (by simp; omega))
        have k2' := (hb4.cell (p := ⟨w.heap.size + 1, 2, none⟩) (by simp; omega))
        have g0' := (hb4.frozen (p := ⟨w.heap.size + 1, 0, none⟩) (by simp; omega))
        have g1' := (hb4.frozen (p := ⟨w.heap.size + 1, 1, none⟩) (by simp; omega))
        have g2' := (hb4.frozen (p := ⟨w.heap.size + 1, 2, none⟩) (by simp; omega))
        simp [go_sem, hs3, k0, k1, k2, g0, g1, g2] at k0' k1' k2' g0' g1' g2'
        have hs4 : w.heap.size + 1 < w4.heap.size := by have := hb4.size; simp at this; omega
        have B4 := Lib.hid ((B3.out.alloc B3.out.size (.cells #[.string ⟨#[]⟩, .slice none 0 0] 45)).trans (hb4.mono (by simp; omega)))
        clear hb4 hr k0 k1 k2 g0 g1 g2
        rw [show seenAt [] 0 = none from rfl, verRes]
        go_wp2_with fail
        exact bodyPost_ret (v := verRes none) (by simp [results, Try.results22, go_sem, verRes, k0', k1', k2', hs4]) rfl ⟨none, rfl, fun _ _ => by rw [atF, hkf]; rfl, fun h => absurd ⟨HYES.out, hk⟩ h, ((B4.out.setCell (p := ⟨w.heap.size + 1, 0, none⟩) (by simp) _).setCell (p := ⟨w.heap.size + 1, 1, none⟩) (by simp) _).setCell (p := ⟨w.heap.size + 1, 2, none⟩) (by simp) _⟩
      | some o =>
        have ho : o ∈ os := List.mem_of_find?_eq_some hkf
        have HOV := Lib.hid ((HV.out.mem ho).below (B3.out.alloc B3.out.size (.cells #[.string o.key, .slice o.at_ o.vers.length o.cap] 45)))
        have hol := HL.out o ho
        have HUV := Lib.hid ((versOk_iff _).1 (HOB.out o ho).2.2).2
        rw [objRes]
        go_wp2_with fail
        refine (visible_any _ _ o.vers _ id _ HOV.out hol).mono ?_
        rintro e w4 ⟨r, hr, rfl, hb4⟩
        rw [cut_seen HUV.out hr]
        have k0' := (hb4.cell (p := ⟨w.heap.size + 1, 0, none⟩) (by simp; omega))
        have k1' := (hb4.cell (p := ⟨w.heap.size + 1, 1, none⟩) (by simp; omega))
        have k2' := (hb4.cell (p := ⟨w.heap.size + 1, 2, none⟩) (by simp; omega))
        have g0' := (hb4.frozen (p := ⟨w.heap.size + 1, 0, none⟩) (by simp; omega))
        have g1' := (hb4.frozen (p := ⟨w.heap.size + 1, 1, none⟩) (by simp; omega))
        have g2' := (hb4.frozen (p := ⟨w.heap.size + 1, 2, none⟩) (by simp; omega))
        simp [go_sem, hs3, k0, k1, k2, g0, g1, g2] at k0' k1' k2' g0' g1' g2'
        have hs4 : w.heap.size + 1 < w4.heap.size := by have := hb4.size; simp at this; omega
        have B4 := Lib.hid ((B3.out.alloc B3.out.size (.cells #[.string o.key, .slice o.at_ o.vers.length o.cap] 45)).trans (hb4.mono (by simp; omega)))
        clear hb4 hr k0 k1 k2 g0 g1 g2
        cases hx : seenF o.vers id with
        | none =>
          rw [verRes]
          go_wp2_with fail
          exact bodyPost_ret (v := verRes none) (by simp [results, Try.results22, go_sem, verRes, k0', k1', k2', hs4]) rfl ⟨none, rfl, fun _ _ => by rw [atF, hkf]; exact hx.symm, fun h => absurd ⟨HYES.out, hk⟩ h, ((B4.out.setCell (p := ⟨w.heap.size + 1, 0, none⟩) (by simp) _).setCell (p := ⟨w.heap.size + 1, 1, none⟩) (by simp) _).setCell (p := ⟨w.heap.size + 1, 2, none⟩) (by simp) _⟩
        | some v =>
          rw [verRes]
          go_wp2_with fail
          exact bodyPost_ret (v := verRes (some v)) (by simp [results, Try.results22, go_sem, verRes, k0', k1', k2', hs4]) rfl ⟨(some v), rfl, fun _ _ => by rw [atF, hkf]; exact hx.symm, fun h => absurd ⟨HYES.out, hk⟩ h, ((B4.out.setCell (p := ⟨w.heap.size + 1, 0, none⟩) (by simp) _).setCell (p := ⟨w.heap.size + 1, 1, none⟩) (by simp) _).setCell (p := ⟨w.heap.size + 1, 2, none⟩) (by simp) _⟩

set_option maxHeartbeats 1000000 in
theorem vmapGet_any (a : Option Addr) (os : List ObjD) (cap : Nat) (key : ByteArray) (w : World) (hv : ObjsIn w a os) (hf : ∀ o ∈ os, o.fits) (hn : os.length ≤ 1048576) (hvl : ∀ o ∈ os, o.vers.length ≤ 1048576) (hkey : key.size ≤ maxLen) :
    Calls Try.prog 21 #[.agg #[.slice a os.length cap], .string key] w (AtPost os key 9999 w) := by
  have HV := Lib.hid hv
  have HF := Lib.hid hf
  have HL := Lib.hid hvl
  clear hv hf hvl
  go_enter Try.func21, Try.ntmps21
  go_wp2_with fail
  have hb0 : Below w.heap.size w ((w.alloc (.cells #[.slice a os.length cap] 25)).alloc (.cells #[.int .i64 0, .string ⟨#[]⟩, .bool false] 27)) := ((Below.refl _ _).alloc (Nat.le_refl _) _).alloc (by simp) _
  refine (vmapAt_any a os cap key 9999 _ (HV.out.below hb0) HF.out hn HL.out hkey).mono ?_
  rintro e w2 ⟨x, rfl, hx1, hx2, hb2⟩
  have c0 := hb2.cell (p := ⟨w.heap.size + 1, 0, none⟩) (by simp)
  have c1 := hb2.cell (p := ⟨w.heap.size + 1, 1, none⟩) (by simp)
  have c2 := hb2.cell (p := ⟨w.heap.size + 1, 2, none⟩) (by simp)
  have f0 := hb2.frozen (p := ⟨w.heap.size + 1, 0, none⟩) (by simp)
  have f1 := hb2.frozen (p := ⟨w.heap.size + 1, 1, none⟩) (by simp)
  have f2 := hb2.frozen (p := ⟨w.heap.size + 1, 2, none⟩) (by simp)
  simp [go_sem] at c0 c1 c2 f0 f1 f2
  have hs2 : w.heap.size + 1 < w2.heap.size := by have := hb2.size; simp at this; omega
  have HX1 := Lib.hid hx1
  have HX2 := Lib.hid hx2
  have B2 := Lib.hid (hb0.trans (hb2.mono (by simp; omega)))
  clear hb0 hb2 hx1 hx2
  cases x with
  | none =>
    rw [verRes]
    go_wp2_with fail
    exact bodyPost_ret (v := verRes none) (by simp [results, Try.results21, go_sem, verRes, c0, c1, c2, hs2]) rfl ⟨none, rfl, HX1.out, fun _ => rfl, ((B2.out.setCell (p := ⟨w.heap.size + 1, 0, none⟩) (by simp) _).setCell (p := ⟨w.heap.size + 1, 1, none⟩) (by simp) _).setCell (p := ⟨w.heap.size + 1, 2, none⟩) (by simp) _⟩
  | some v =>
    rw [verRes]
    go_wp2_with fail
    exact bodyPost_ret (v := verRes (some v)) (by simp [results, Try.results21, go_sem, verRes, c0, c1, c2, hs2]) rfl ⟨some v, rfl, HX1.out, HX2.out, ((B2.out.setCell (p := ⟨w.heap.size + 1, 0, none⟩) (by simp) _).setCell (p := ⟨w.heap.size + 1, 1, none⟩) (by simp) _).setCell (p := ⟨w.heap.size + 1, 2, none⟩) (by simp) _⟩
end Go.Proofs.Ytjijichgoodocaa
