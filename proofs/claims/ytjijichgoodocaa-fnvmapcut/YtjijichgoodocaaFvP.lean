/- What is seen of a key, as the promises use it: four values and what they stand for. -/
import Derived.Test.YtjijichgoodocaaFvM
import Derived.Test.YtjijichgoodocaaVOwn
import Derived.Test.YtjijichgoodocaaDrawM
namespace Go.Proofs.Ytjijichgoodocaa
open Go.RowKit

def VerIs (i : Int) (t : ByteArray) (g b : Bool) (x : Option VerD) : Prop := verRes x = .tuple #[.agg #[.int .i64 i, .string t, .bool g], .bool b]
theorem VerIs.one {i i' : Int} {t t' : ByteArray} {g b g' b' : Bool} {x : Option VerD} (h : VerIs i t g b x) (k : VerIs i' t' g' b' x) : i = i' ∧ t = t' ∧ g = g' ∧ b = b' := by
  unfold VerIs at h k
  rw [h] at k
  simp at k
  exact ⟨k.1.1, k.1.2.1, k.1.2.2, k.2⟩
theorem VerIs.some_ {i : Int} {t : ByteArray} {g : Bool} {x : Option VerD} (h : VerIs i t g true x) : x = some ⟨i, t, g⟩ := by
  unfold VerIs at h
  cases x with
  | none => simp [verRes] at h
  | some v => 
    simp [verRes] at h
    obtain ⟨h1, h2, h3⟩ := h
    cases v
    simp at h1 h2 h3
    rw [h1, h2, h3]
theorem VerIs.none_ {i : Int} {t : ByteArray} {g : Bool} {x : Option VerD} (h : VerIs i t g false x) : x = none ∧ i = 0 ∧ t = ⟨#[]⟩ ∧ g = false := by
  unfold VerIs at h
  cases x with
  | none => simp [verRes] at h; exact ⟨rfl, h.1.symm, h.2.1.symm, by simpa using h.2.2.symm⟩
  | some v => simp [verRes] at h
theorem VerIs.of_some (v : VerD) : VerIs v.id v.text v.gone true (some v) := rfl
theorem VerIs.bool {i : Int} {t : ByteArray} {g b : Bool} {x : Option VerD} (h : VerIs i t g b x) : b = x.isSome := by
  cases b
  · rw [h.none_.1]; rfl
  · rw [h.some_]; rfl
/-- A map that reads so, wherever it lies, and is small. -/
structure Mr (w : World) (a : Option Addr) (os : List ObjD) : Prop where
  inn : ObjsIn w a os
  fits : ∀ o ∈ os, o.fits
  pl : ∀ o ∈ os, o.plain
  len : os.length ≤ 1000
  vl : ∀ o ∈ os, o.vers.length ≤ 1000
theorem Mr.below {w u : World} {a : Option Addr} {os : List ObjD} (h : Mr w a os) (hb : Below w.heap.size w u) : Mr u a os := ⟨h.inn.below hb, h.fits, h.pl, h.len, h.vl⟩
theorem Mr.n {w : World} {a : Option Addr} {os : List ObjD} (h : Mr w a os) : os.length ≤ 1048576 := Nat.le_trans h.len (by omega)
theorem Mr.nm {w : World} {a : Option Addr} {os : List ObjD} (h : Mr w a os) : os.length ≤ maxLen := Nat.le_trans h.len (by unfold maxLen; omega)
theorem Mr.vn {w : World} {a : Option Addr} {os : List ObjD} (h : Mr w a os) : ∀ o ∈ os, o.vers.length ≤ 1048576 := fun o ho => Nat.le_trans (h.vl o ho) (by omega)
theorem Md.mr {lo : Nat} {w : World} {a : Option Addr} {os : List ObjD} (h : Md lo w a os) : Mr w a os := ⟨h.inn, h.fits, h.pl, Nat.le_trans h.len (by omega), fun o ho => Nat.le_trans (h.vl o ho) (by omega)⟩
def SeenV (x : Option VerD) (w : World) (e : Ending) (w' : World) : Prop := ∃ i t g b, VerIs i t g b x ∧ e = .returned (.tuple #[.agg #[.int .i64 i, .string t, .bool g], .bool b]) ∧ Below w.heap.size w w'
theorem SeenV.of_at {os : List ObjD} {key : ByteArray} {id : Int} {w w' : World} {e : Ending} (h : AtPost os key id w e w') : SeenV (atR os key id) w e w' := by
  obtain ⟨x, he, h1, h2, hb⟩ := h
  obtain ⟨i, t, g, b, hx⟩ := verRes_form x
  have := atR_of h1 h2
  subst this
  exact ⟨i, t, g, b, hx, by rw [he, hx], hb⟩
theorem vmapAt_v {a : Option Addr} {os : List ObjD} {w : World} (h : Mr w a os) (cap : Nat) (key : ByteArray) (id : Int) (hkey : key.size ≤ maxLen) : Calls Try.prog 22 #[.agg #[.slice a os.length cap], .string key, .int .i64 id] w (SeenV (atR os key id) w) :=
  (vmapAt_any a os cap key id w h.inn h.fits h.n h.vn hkey).mono fun _ _ q => SeenV.of_at q

theorem specVmapAt_v {a : Option Addr} {os : List ObjD} {w : World} (h : Mr w a os) (cap : Nat) (key : ByteArray) (id : Int) (hkey : key.size ≤ maxLen) : Calls Try.prog 25 #[.agg #[.slice a os.length cap], .string key, .int .i64 id] w (SeenV (atR os key id) w) :=
  (specVmapAt_any a os cap key id w h.inn h.fits h.n h.vn hkey).mono fun _ _ q => SeenV.of_at q

theorem vmapGet_v {a : Option Addr} {os : List ObjD} {w : World} (h : Mr w a os) (cap : Nat) (key : ByteArray) (hkey : key.size ≤ maxLen) : Calls Try.prog 21 #[.agg #[.slice a os.length cap], .string key] w (SeenV (atR os key 9999) w) :=
  (vmapGet_any a os cap key w h.inn h.fits h.n h.vn hkey).mono fun _ _ q => SeenV.of_at q

theorem specVmapGet_v {a : Option Addr} {os : List ObjD} {w : World} (h : Mr w a os) (cap : Nat) (key : ByteArray) (hkey : key.size ≤ maxLen) : Calls Try.prog 26 #[.agg #[.slice a os.length cap], .string key] w (SeenV (atR os key 9999) w) :=
  (specVmapGet_any a os cap key w h.inn h.fits h.n h.vn hkey).mono fun _ _ q => SeenV.of_at q

/-- Kept whole, so that no walk takes it apart. -/
def MokIs (b : Bool) (os : List ObjD) : Prop := b = true ↔ MapOkTo os os.length
theorem mok_ex (os : List ObjD) : ∃ b, MokIs b os := by
  unfold MokIs
  by_cases h : MapOkTo os os.length
  · exact ⟨true, by simp [h]⟩
  · exact ⟨false, by simp [h]⟩
theorem vmapOk_is {b : Bool} {a : Option Addr} {os : List ObjD} {w : World} (hb : MokIs b os) (h : Mr w a os) (cap : Nat) : Calls Try.prog 19 #[.agg #[.slice a os.length cap]] w fun e w' => e = .returned (.bool b) ∧ Below w.heap.size w w' :=
  (vmapOk_any a os cap w h.inn h.fits h.nm).mono fun e w' ⟨b', he, hk, hbl⟩ => ⟨by rw [he, show b' = b from by rw [Bool.eq_iff_iff, hk, show (b = true ↔ MapOkTo os os.length) from hb]], hbl⟩
theorem specVmapOk_is {b : Bool} {a : Option Addr} {os : List ObjD} {w : World} (hb : MokIs b os) (h : Mr w a os) (cap : Nat) : Calls Try.prog 20 #[.agg #[.slice a os.length cap]] w fun e w' => e = .returned (.bool b) ∧ Below w.heap.size w w' :=
  (specVmapOk_any a os cap w h.inn h.fits h.nm).mono fun e w' ⟨b', he, hk, hbl⟩ => ⟨by rw [he, show b' = b from by rw [Bool.eq_iff_iff, hk, show (b = true ↔ MapOkTo os os.length) from hb]], hbl⟩

end Go.Proofs.Ytjijichgoodocaa

/- What is struck of a map: plain lists. -/
namespace Go.Proofs.Ytjijichgoodocaa
open Go.RowKit

theorem pair_versUp {vs : List VerD} (h : vs.Pairwise (fun a b => a.id < b.id)) : VersUp vs vs.length := fun i hi hk j hj e => by
  subst e
  exact (List.pairwise_iff_getElem.1 h) j (j + 1) hj hi (by omega)
theorem filter_id_take {vs : List VerD} (hp : vs.Pairwise (fun a b => a.id < b.id)) (id : Int) : vs.filter (fun v => decide (v.id ≤ id)) = vs.take (upN id vs) ∧ ∀ v ∈ vs.drop (upN id vs), ¬ v.id ≤ id := by
  unfold upN
  induction vs with
  | nil => simp
  | cons a t ih =>
    rw [List.pairwise_cons] at hp
    obtain ⟨i1, i2⟩ := ih hp.2
    by_cases ha : a.id ≤ id
    · rw [List.filter_cons, if_pos (by simpa using ha), List.length_cons, List.take_succ_cons, List.drop_succ_cons]
      exact ⟨by rw [← i1], i2⟩
    · have : t.filter (fun v => decide (v.id ≤ id)) = [] := by
        rw [List.filter_eq_nil_iff]
        intro x hx
        have := hp.1 x hx
        simp; omega
      rw [List.filter_cons, if_neg (by simpa using ha), this]
      refine ⟨by simp, fun v hv => ?_⟩
      simp at hv
      rcases hv with rfl | hv
      · exact ha
      · have := hp.1 v hv; omega
theorem upF_split {vs : List VerD} (hp : vs.Pairwise (fun a b => a.id < b.id)) {id at' : Int} (hle : id ≤ at') : upF vs at' = ((upF (vs.drop (upN id vs)) at').or (upF vs id)) := by
  obtain ⟨h1, h2⟩ := filter_id_take hp id
  unfold upF
  rw [h1]
  conv => lhs; rw [← List.take_append_drop (upN id vs) vs, List.filter_append, List.getLast?_append]
  congr 2
  rw [List.filter_eq_self]
  intro v hv
  rw [← h1] at hv
  have := (List.mem_filter.1 hv).2
  simp at this ⊢; omega
/-- What is left reads the same from then on. -/
theorem seen_drop {vs : List VerD} (hp : vs.Pairwise (fun a b => a.id < b.id)) {id at' : Int} (hle : id ≤ at') : seenF (vs.drop (unreadN id vs)) at' = seenF vs at' := by
  have hs := upF_split hp hle
  unfold unreadN
  cases hu : upF vs id with
  | none => rfl
  | some v =>
    simp only
    by_cases hg : v.gone = true
    · rw [if_pos hg]
      unfold seenF
      rw [hs, hu]
      cases upF (vs.drop (upN id vs)) at' with
      | none => simp [hg]
      | some x => rfl
    · rw [if_neg hg]
      obtain ⟨h1, h2⟩ := filter_id_take hp id
      have hu' := hu
      unfold upF at hu'
      rw [h1] at hu'
      obtain ⟨l, hl⟩ := List.getLast?_eq_some_iff.1 hu'
      have hlen : l.length = upN id vs - 1 := by
        have := congrArg List.length hl
        have h3 : (vs.take (upN id vs)).length = upN id vs := by rw [← h1]; rfl
        rw [h3] at this; simp at this; omega
      have hv : vs = l ++ (v :: vs.drop (upN id vs)) := by
        conv => lhs; rw [← List.take_append_drop (upN id vs) vs, hl]
        simp
      have hd : vs.drop (upN id vs - 1) = v :: vs.drop (upN id vs) := by
        rw [← hlen]
        generalize vs.drop (upN id vs) = r at hv ⊢
        rw [hv]
        simp
      have hvi : v.id ≤ at' := by
        have hm : v ∈ vs.filter (fun v => decide (v.id ≤ id)) := by rw [h1, hl]; simp
        have := (List.mem_filter.1 hm).2
        simp at this; omega
      unfold seenF
      rw [hd, hs, hu]
      congr 1
      unfold upF
      rw [List.filter_cons, if_pos (by simpa using hvi), List.getLast?_cons]
      cases (List.filter (fun v => decide (v.id ≤ at')) (vs.drop (upN id vs))).getLast? <;> rfl
theorem unread_drop {vs : List VerD} (hp : vs.Pairwise (fun a b => a.id < b.id)) (id : Int) : unreadN id (vs.drop (unreadN id vs)) = 0 := by
  obtain ⟨h1, h2⟩ := filter_id_take hp id
  cases hu : upF vs id with
  | none =>
    have e : unreadN id vs = 0 := by unfold unreadN; rw [hu]
    rw [e, List.drop_zero, e]
  | some v =>
    have hd0 : (vs.drop (upN id vs)).filter (fun v => decide (v.id ≤ id)) = [] := by
      rw [List.filter_eq_nil_iff]
      intro x hx
      simpa using h2 x hx
    by_cases hg : v.gone = true
    · have e : unreadN id vs = upN id vs := by unfold unreadN; rw [hu]; simp [hg]
      rw [e]
      unfold unreadN upF
      rw [hd0]; rfl
    · have e : unreadN id vs = upN id vs - 1 := by unfold unreadN; rw [hu]; simp [hg]
      have hu' := hu
      unfold upF at hu'
      rw [h1] at hu'
      obtain ⟨l, hl⟩ := List.getLast?_eq_some_iff.1 hu'
      have hlen : l.length = upN id vs - 1 := by
        have := congrArg List.length hl
        have h3 : (vs.take (upN id vs)).length = upN id vs := by rw [← h1]; rfl
        rw [h3] at this; simp at this; omega
      have hv : vs = l ++ (v :: vs.drop (upN id vs)) := by
        conv => lhs; rw [← List.take_append_drop (upN id vs) vs, hl]
        simp
      have hd : vs.drop (upN id vs - 1) = v :: vs.drop (upN id vs) := by
        rw [← hlen]
        generalize vs.drop (upN id vs) = r at hv ⊢
        rw [hv]
        simp
      have hvi : v.id ≤ id := by
        have hm : v ∈ vs.filter (fun v => decide (v.id ≤ id)) := by rw [h1, hl]; simp
        simpa using (List.mem_filter.1 hm).2
      rw [e, hd]
      generalize vs.drop (upN id vs) = r at hd0 ⊢
      have hf : (v :: r).filter (fun v => decide (v.id ≤ id)) = [v] := by
        rw [List.filter_cons, if_pos (by simpa using hvi), hd0]
      unfold unreadN upF upN
      rw [hf]
      simp [hg]
theorem pruneOne_key {id : Int} {p q : Kv} (h : pruneOne id p = some q) : q.1 = p.1 := (pruneOne_off h).1
theorem KvOk.versPair {kvs : List Kv} (h : KvOk kvs) {p : Kv} (hp : p ∈ kvs) : p.2.Pairwise (fun a b => a.id < b.id) := versUp_pair (versUp_of (h.vers hp).2.2)
theorem pruneF_ok {id : Int} {kvs : List Kv} (h : KvOk kvs) : KvOk (pruneF id kvs) := by
  unfold pruneF
  rw [if_pos h]
  refine kvOk_of (fun q hq => ?_) ?_
  · obtain ⟨p, hp, e⟩ := List.mem_filterMap.1 hq
    obtain ⟨k1, k2, k3⟩ := h.vers hp
    have hpp := h.versPair hp
    unfold pruneOne at e
    split at e
    · rename_i hlt
      cases e
      refine ⟨k1, by simp; omega, (versOk_iff _).2 ⟨fun v hv => ((versOk_iff _).1 k3).1 v (List.mem_of_mem_drop hv), pair_versUp (hpp.sublist (List.drop_sublist _ _))⟩⟩
    · cases e
  · rw [List.pairwise_filterMap]
    refine (kvOk_pair h).imp fun {a b} hab q hq r hr => ?_
    rw [pruneOne_key hq, pruneOne_key hr]
    exact hab
theorem pruneF_yes {id : Int} {kvs : List Kv} (h : KvOk kvs) : pruneF id kvs = kvs.filterMap (pruneOne id) := by unfold pruneF; rw [if_pos h]
theorem filterMap_self {α : Type} {f : α → Option α} {l : List α} (h : ∀ x ∈ l, f x = some x) : l.filterMap f = l := by
  induction l with
  | nil => rfl
  | cons a t ih => rw [List.filterMap_cons, h a (List.mem_cons_self ..)]; simp only; rw [ih (fun x hx => h x (List.mem_cons_of_mem _ hx))]
theorem pruneF_again {id : Int} {kvs : List Kv} (h : KvOk kvs) : pruneF id (pruneF id kvs) = pruneF id kvs := by
  have hk := pruneF_ok (id := id) h
  rw [pruneF_yes hk]
  apply filterMap_self
  intro q hq
  have hq' := hq
  rw [pruneF_yes h] at hq'
  obtain ⟨p, hp, e⟩ := List.mem_filterMap.1 hq'
  have hu := unread_drop (h.versPair hp) id
  have hl := (hk.vers hq).2.1
  unfold pruneOne at e
  split at e
  · cases e
    unfold pruneOne
    simp only at hl
    rw [hu, if_pos hl, List.drop_zero]
  · cases e

/-- What is seen, told from what a map holds. -/
def atKF (kvs : List Kv) (key : ByteArray) (id : Int) : Option VerD := (kvs.find? fun p => p.1.toList == key.toList).bind fun p => seenF p.2 id
theorem atF_kv (os : List ObjD) (key : ByteArray) (id : Int) : atF os key id = atKF (os.map ObjD.kv) key id := by
  unfold atF keyF atKF
  rw [List.find?_map]
  cases h : os.find? (fun o => o.key.toList == key.toList) with
  | none =>
    have : os.find? ((fun p : Kv => p.1.toList == key.toList) ∘ ObjD.kv) = none := h
    rw [this]; rfl
  | some o =>
    have : os.find? ((fun p : Kv => p.1.toList == key.toList) ∘ ObjD.kv) = some o := h
    rw [this]; rfl
theorem find_none_of {kvs : List Kv} {key : ByteArray} (h : ∀ p ∈ kvs, p.1.toList ≠ key.toList) : (kvs.find? fun p => p.1.toList == key.toList) = none := by
  rw [List.find?_eq_none]
  intro p hp
  simpa using h p hp
theorem atKF_prune {kvs : List Kv} (hk : kvs.Pairwise (fun a b => a.1.toList < b.1.toList)) (hv : ∀ p ∈ kvs, p.2.Pairwise (fun a b => a.id < b.id)) {id at' : Int} (hle : id ≤ at') (key : ByteArray) : atKF (kvs.filterMap (pruneOne id)) key at' = atKF kvs key at' := by
  induction kvs with
  | nil => rfl
  | cons p t ih =>
    rw [List.pairwise_cons] at hk
    have ih := ih hk.2 (fun q hq => hv q (List.mem_cons_of_mem _ hq))
    have hp := seen_drop (hv p (List.mem_cons_self ..)) hle
    by_cases he : p.1.toList = key.toList
    · have hr : atKF (p :: t) key at' = seenF p.2 at' := by
        unfold atKF
        rw [List.find?_cons, show (p.1.toList == key.toList) = true by simpa using he]; rfl
      rw [hr, List.filterMap_cons]
      cases hq : pruneOne id p with
      | none =>
        simp only
        have hn : atKF (t.filterMap (pruneOne id)) key at' = none := by
          unfold atKF
          rw [find_none_of (fun q hq' => ?_)]; rfl
          obtain ⟨x, hx, e⟩ := List.mem_filterMap.1 hq'
          rw [pruneOne_key e]
          intro e2
          have := hk.1 x hx
          rw [e2, he] at this
          exact List.lt_irrefl _ this
        rw [hn, ← hp]
        unfold pruneOne at hq
        split at hq
        · cases hq
        · rename_i hlt
          rw [List.drop_eq_nil_of_le (by omega)]; rfl
      | some q =>
        simp only
        unfold atKF
        rw [List.find?_cons, show (q.1.toList == key.toList) = true by rw [pruneOne_key hq]; simpa using he]
        simp only [Option.bind_some]
        rw [← hp]
        unfold pruneOne at hq
        split at hq
        · cases hq; rfl
        · cases hq
    · have hr : atKF (p :: t) key at' = atKF t key at' := by
        unfold atKF
        rw [List.find?_cons, show (p.1.toList == key.toList) = false by simpa using he]
      rw [hr, ← ih, List.filterMap_cons]
      cases hq : pruneOne id p with
      | none => rfl
      | some q =>
        simp only
        unfold atKF
        rw [List.find?_cons, show (q.1.toList == key.toList) = false by rw [pruneOne_key hq]; simpa using he]
theorem atR_prune {os cs : List ObjD} {key : ByteArray} {id at' : Int} (hm : MapOkTo os os.length) (e : cs.map ObjD.kv = pruneF id (os.map ObjD.kv)) (hle : id ≤ at') : atR cs key at' = atR os key at' := by
  have hk := (mapOk_kv os).1 hm
  have hc : MapOkTo cs cs.length := by rw [mapOk_kv, e]; exact pruneF_ok hk
  unfold atR
  by_cases hkey : keyOkB key = true
  · rw [if_pos ⟨hc, hkey⟩, if_pos ⟨hm, hkey⟩, atF_kv, atF_kv, e]
    unfold pruneF
    rw [if_pos hk]
    exact atKF_prune (kvOk_pair hk) (fun p hp => hk.versPair hp) hle key
  · rw [if_neg (fun h => hkey h.2), if_neg (fun h => hkey h.2)]
theorem pruneF_len (id : Int) (kvs : List Kv) : (pruneF id kvs).length ≤ kvs.length := by
  unfold pruneF; split
  · exact List.length_filterMap_le _ _
  · simp
theorem cutF_len (lo hi : ByteArray) (kvs : List Kv) : (cutF lo hi kvs).length ≤ kvs.length := by
  unfold cutF; split
  · exact List.length_filter_le _ _
  · simp
theorem pruneF_vl {id : Int} {kvs : List Kv} {N : Nat} (h : ∀ p ∈ kvs, p.2.length ≤ N) : ∀ p ∈ pruneF id kvs, p.2.length ≤ N := by
  unfold pruneF; split
  · intro q hq
    obtain ⟨p, hp, e⟩ := List.mem_filterMap.1 hq
    exact Nat.le_trans (pruneOne_off e).2.1 (h p hp)
  · intro q hq; cases hq
theorem cutF_vl {lo hi : ByteArray} {kvs : List Kv} {N : Nat} (h : ∀ p ∈ kvs, p.2.length ≤ N) : ∀ p ∈ cutF lo hi kvs, p.2.length ≤ N := by
  unfold cutF; split
  · intro q hq; exact h q (List.mem_filter.1 hq).1
  · intro q hq; cases hq
end Go.Proofs.Ytjijichgoodocaa
