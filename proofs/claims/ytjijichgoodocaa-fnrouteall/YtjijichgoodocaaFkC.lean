/- What the promises of maps ask, of plain lists: what is seen, pieces, joins, what is struck. -/
import Derived.Test.YtjijichgoodocaaVmF
import Derived.Test.YtjijichgoodocaaCut
import Derived.Test.YtjijichgoodocaaMeetP
import Derived.Test.YtjijichgoodocaaDrawO
import Derived.Test.YtjijichgoodocaaRfI
import Derived.Test.YtjijichgoodocaaKnS
namespace Go.Proofs.Ytjijichgoodocaa
open Go.RowKit

open Classical in
noncomputable def atR (os : List ObjD) (key : ByteArray) (id : Int) : Option VerD := if MapOkTo os os.length ∧ keyOkB key = true then atF os key id else none
theorem atR_of {os : List ObjD} {key : ByteArray} {id : Int} {x : Option VerD} (h1 : MapOkTo os os.length → keyOkB key = true → x = atF os key id) (h2 : ¬ (MapOkTo os os.length ∧ keyOkB key = true) → x = none) : x = atR os key id := by
  unfold atR
  split
  · rename_i h; exact h1 h.1 h.2
  · rename_i h; exact h2 h
theorem versUp_pair {vs : List VerD} (hu : VersUp vs vs.length) : vs.Pairwise (fun a b => a.id < b.id) := by
  rw [List.pairwise_iff_getElem]
  intro i j hi hj hij
  exact hu.mono hi hj hij
theorem upF_self {vs : List VerD} {id : Int} {v : VerD} (hu : VersUp vs vs.length) (h : upF vs id = some v) : v.id ≤ id ∧ upF vs v.id = some v := by
  unfold upF at h ⊢
  have hp := (versUp_pair hu).filter (fun v => decide (v.id ≤ id))
  obtain ⟨l, hl⟩ := List.getLast?_eq_some_iff.1 h
  have hv : v ∈ vs.filter (fun v => decide (v.id ≤ id)) := by rw [hl]; simp
  have hvi : v.id ≤ id := by simpa using (List.mem_filter.1 hv).2
  refine ⟨hvi, ?_⟩
  rw [← h]
  congr 1
  apply List.filter_congr
  intro u hu'
  rw [hl] at hp
  have hle : u.id ≤ id → u.id ≤ v.id := fun q => by
    have hm : u ∈ vs.filter (fun v => decide (v.id ≤ id)) := List.mem_filter.2 ⟨hu', by simpa using q⟩
    rw [hl] at hm
    rcases List.mem_append.1 hm with hm | hm
    · exact Int.le_of_lt ((List.pairwise_append.1 hp).2.2 u hm v (by simp))
    · rw [List.mem_singleton] at hm; rw [hm]; exact Int.le_refl _
  rw [decide_eq_decide]
  exact ⟨fun q => by omega, hle⟩
theorem keyF_versUp {os : List ObjD} {key : ByteArray} {o : ObjD} (hm : MapOkTo os os.length) (h : keyF os key = some o) : VersUp o.vers o.vers.length := by
  have ho : o ∈ os := List.mem_of_find?_eq_some h
  exact versUp_of (((mapOk_iff os).1 hm).1 o ho).2.2
theorem atR_self {os : List ObjD} {key : ByteArray} {id : Int} {v : VerD} (h : atR os key id = some v) : v.id ≤ id ∧ v.gone = false ∧ atR os key v.id = some v := by
  unfold atR at h ⊢
  split at h
  · rename_i hp
    rw [if_pos hp]
    unfold atF at h ⊢
    cases hk : keyF os key with
    | none => rw [hk] at h; cases h
    | some o =>
      rw [hk] at h
      simp only [Option.bind_some] at h ⊢
      unfold seenF at h ⊢
      cases hu : upF o.vers id with
      | none => rw [hu] at h; cases h
      | some u =>
        rw [hu] at h
        simp only [Option.bind_some] at h
        by_cases hg : u.gone = true
        · rw [if_pos hg] at h; cases h
        · rw [if_neg hg] at h
          cases h
          obtain ⟨h1, h2⟩ := upF_self (keyF_versUp hp.1 hk) hu
          exact ⟨h1, by simpa using hg, by rw [h2]; simp [hg]⟩
  · cases h

/-- The object of a key that can be seen. -/
def seenO (key : ByteArray) (o : ObjD) : Bool := (o.key.toList == key.toList) && (match o.vers.getLast? with | some v => !v.gone | none => false)
theorem seen_any {os : List ObjD} {key : ByteArray} (hm : MapOkTo os os.length) : os.any (seenO key) = (atR os key 9999).isSome := by
  obtain ⟨h1, h2⟩ := (mapOk_iff os).1 hm
  unfold atR
  by_cases hk : keyOkB key = true
  · rw [if_pos ⟨hm, hk⟩, atF_last hm, lastF]
    cases hf : keyF os key with
    | none =>
      simp only [Option.bind_none, Option.isSome_none]
      rw [List.any_eq_false]
      intro o ho
      have := List.find?_eq_none.1 hf o ho
      simp [seenO]
      intro e; exact absurd (by simpa using e) (by simpa using this)
    | some o =>
      simp only [Option.bind_some]
      have hoo := List.find?_eq_some_iff_getElem.1 hf
      obtain ⟨hke, k, hkl, hkk, _⟩ := hoo
      have hun : ∀ i (hi : i < os.length), (os[i].key.toList == key.toList) = true → i = k := fun i hi he => by
        have e1 : os[i].key.toList = key.toList := by simpa using he
        have e2 : os[k].key.toList = key.toList := by rw [hkk]; simpa using hke
        rcases Nat.lt_trichotomy i k with q | q | q
        · have := h2.mono hi hkl q; rw [e1, e2] at this; exact absurd this (List.lt_irrefl _)
        · exact q
        · have := h2.mono hkl hi q; rw [e1, e2] at this; exact absurd this (List.lt_irrefl _)
      have hiff : os.any (seenO key) = seenO key o := by
        rw [Bool.eq_iff_iff, List.any_eq_true]
        constructor
        · rintro ⟨x, hx, hs⟩
          obtain ⟨i, hi, rfl⟩ := List.getElem_of_mem hx
          have : i = k := hun i hi (by unfold seenO at hs; rw [Bool.and_eq_true] at hs; exact hs.1)
          subst this
          rw [← hkk]; exact hs
        · intro hs
          exact ⟨o, by rw [← hkk]; exact List.getElem_mem hkl, hs⟩
      rw [hiff]
      unfold seenO
      rw [hke]
      cases o.vers.getLast? with
      | none => simp
      | some v => cases hg : v.gone <;> simp [hg]
  · rw [if_neg (fun h => hk h.2)]
    simp only [Option.isSome_none]
    rw [List.any_eq_false]
    intro o ho
    have := (h1 o ho).1
    simp [seenO]
    intro e
    have e' : o.key = key := by
      have : o.key.toList = key.toList := by simpa using e
      exact bytes_eq this
    rw [e'] at this
    exact absurd this hk
/-- At the object of a key that can be seen, the last version is what is seen. -/
theorem seen_last {os : List ObjD} {key : ByteArray} (hm : MapOkTo os os.length) {o : ObjD} (ho : o ∈ os) (hs : seenO key o = true) : ∃ v, o.vers.getLast? = some v ∧ atR os key 9999 = some v := by
  obtain ⟨h1, h2⟩ := (mapOk_iff os).1 hm
  unfold seenO at hs
  rw [Bool.and_eq_true] at hs
  obtain ⟨i, hi, rfl⟩ := List.getElem_of_mem ho
  have hf := keyF_at h2 hi hs.1
  have hkey : keyOkB key = true := by
    have e' : os[i].key = key := bytes_eq (by simpa using hs.1)
    rw [← e']; exact (h1 _ ho).1
  cases hg : os[i].vers.getLast? with
  | none => rw [hg] at hs; simp at hs
  | some v =>
    rw [hg] at hs
    refine ⟨v, rfl, ?_⟩
    unfold atR
    rw [if_pos ⟨hm, hkey⟩, atF_last hm, lastF, hf]
    simp only [Option.bind_some]
    rw [hg]
    simp only [Option.bind_some]
    have : v.gone = false := by simpa using hs.2
    simp [this]

/-! ### Pieces -/
theorem keyOk_parts {key : ByteArray} (h : keyOkB key = true) : key.toList ≠ [] ∧ okB keyB 6 key = true := by
  unfold keyOkB at h
  rw [Bool.and_eq_true, Bool.not_eq_true', ← Bool.not_eq_true, List.isEmpty_iff] at h
  exact h
theorem kvOk_pair {kvs : List Kv} (h : KvOk kvs) : kvs.Pairwise (fun a b => a.1.toList < b.1.toList) := by
  have h2 := ((kvOk_iff kvs).1 h).2
  have step : ∀ (d i : Nat) (hi : i < kvs.length) (hj : i + d + 1 < kvs.length), kvs[i].1.toList < kvs[i + d + 1].1.toList := by
    intro d
    induction d with
    | zero => intro i hi hj; exact h2 i hj
    | succ d ih => intro i hi hj; exact List.lt_trans (ih i hi (by omega)) (h2 (i + d + 1) (by omega))
  rw [List.pairwise_iff_getElem]
  intro i j hi hj hij
  obtain ⟨d, rfl⟩ : ∃ d, j = i + d + 1 := ⟨j - i - 1, by omega⟩
  exact step d i hi hj
theorem kvOk_of {kvs : List Kv} (h1 : ∀ p ∈ kvs, keyOkB p.1 = true ∧ 0 < p.2.length ∧ VersOkTo p.2 p.2.length) (h2 : kvs.Pairwise (fun a b => a.1.toList < b.1.toList)) : KvOk kvs := by
  rw [kvOk_iff]
  exact ⟨h1, fun i hi => (List.pairwise_iff_getElem.1 h2) i (i + 1) (by omega) hi (by omega)⟩
theorem KvOk.filter {kvs : List Kv} (h : KvOk kvs) (p : Kv → Bool) : KvOk (kvs.filter p) :=
  kvOk_of (fun q hq => h.vers (List.mem_filter.1 hq).1) ((kvOk_pair h).filter _)
theorem cutF_ok {lo hi : ByteArray} {kvs : List Kv} (h : KvOk kvs) : KvOk (cutF lo hi kvs) := by
  unfold cutF; split
  · exact h.filter _
  · exact KvOk.nil
theorem cutF_cut {lo hi : ByteArray} {kvs : List Kv} (h : KvOk kvs) (hs : spanOkB lo hi = true) : cutF lo hi (cutF lo hi kvs) = cutF lo hi kvs := by
  rw [cutF_yes h hs, cutF_yes (h.filter _) hs, List.filter_filter]
  simp
theorem nilList : (⟨#[]⟩ : ByteArray).toList = [] := by rw [ByteArray.toList_eq]
theorem spanOk_nil : spanOkB ⟨#[]⟩ ⟨#[]⟩ = true := by unfold spanOkB; rw [nilList]; rfl
theorem hasB_nil (key : ByteArray) : hasB ⟨#[]⟩ ⟨#[]⟩ key = true := by
  unfold hasB
  rw [nilList]
  cases h : Op.bytesLess key.toList []
  · rfl
  · rw [less_iff] at h; exact absurd h (by simp)
theorem cutF_all {kvs : List Kv} (h : KvOk kvs) : cutF ⟨#[]⟩ ⟨#[]⟩ kvs = kvs := by
  rw [cutF_yes h spanOk_nil, List.filter_eq_self]
  intro p _
  exact hasB_nil p.1
theorem hasB_iff (lo hi key : ByteArray) : hasB lo hi key = true ↔ ¬ key.toList < lo.toList ∧ (hi.toList = [] ∨ key.toList < hi.toList) := by
  unfold hasB
  rw [Bool.and_eq_true, Bool.or_eq_true, less_iff, Bool.not_eq_true', ← Bool.not_eq_true, less_iff, List.isEmpty_iff]
theorem filter_parts {α : Type} {R : α → α → Prop} {l : List α} (hl : l.Pairwise R) (p q r : α → Bool) (h1 : ∀ x ∈ l, r x = (p x || q x)) (h2 : ∀ x ∈ l, ∀ y ∈ l, R x y → q x = true → p y = false) (h3 : ∀ x ∈ l, ¬ (p x = true ∧ q x = true)) : l.filter p ++ l.filter q = l.filter r := by
  induction l with
  | nil => rfl
  | cons x t ih =>
    rw [List.pairwise_cons] at hl
    have ih := ih hl.2 (fun y hy => h1 y (List.mem_cons_of_mem _ hy)) (fun y hy z hz => h2 y (List.mem_cons_of_mem _ hy) z (List.mem_cons_of_mem _ hz)) (fun y hy => h3 y (List.mem_cons_of_mem _ hy))
    have hx := h1 x (List.mem_cons_self ..)
    have h3x := h3 x (List.mem_cons_self ..)
    rw [List.filter_cons, List.filter_cons, List.filter_cons, hx]
    cases hp : p x
    · cases hq : q x
      · simpa using ih
      · simp only [Bool.false_or, if_true]
        have : t.filter p = [] := by
          rw [List.filter_eq_nil_iff]
          intro y hy
          rw [h2 x (List.mem_cons_self ..) y (List.mem_cons_of_mem _ hy) (hl.1 y hy) hq]
          decide
        rw [this] at ih ⊢
        simp at ih ⊢
        exact ih
    · have hq : q x = false := by
        cases hq : q x
        · rfl
        · exact absurd ⟨hp, hq⟩ h3x
      simp only [hq, Bool.true_or, if_true, List.cons_append]
      simpa using ih
/-- What is cut at a key, joined again. -/
theorem cutF_join {lo hi key : ByteArray} {kvs : List Kv} (h : KvOk kvs) (hs : spanOkB lo hi = true) (hc : cutOkB lo hi key = true) : cutF lo key kvs ++ cutF key hi kvs = cutF lo hi kvs ∧ joinF (cutF lo key kvs) (cutF key hi kvs) = cutF lo hi kvs ∧ joinB (cutF lo key kvs) (cutF key hi kvs) = true := by
  have hcs : spanOkB lo key = true ∧ spanOkB key hi = true ∧ key.toList ≠ [] ∧ ¬ key.toList < lo.toList ∧ (hi.toList = [] ∨ key.toList < hi.toList) := by
    rw [cut_split, Bool.and_eq_true, Bool.and_eq_true, Bool.and_eq_true, hasB_iff] at hc
    obtain ⟨⟨⟨_, hk⟩, h1, h2⟩, h3⟩ := hc
    obtain ⟨hne, hkk⟩ := keyOk_parts hk
    have hne2 : ¬ key.toList = lo.toList := by simpa using h3
    unfold spanOkB at hs ⊢
    rw [Bool.and_eq_true, Bool.and_eq_true, Bool.or_eq_true] at hs
    have hlt : lo.toList < key.toList := by
      rcases List.le_iff_lt_or_eq.1 (List.not_lt.1 h1) with q | q
      · exact q
      · exact absurd q.symm hne2
    refine ⟨?_, ?_, hne, h1, h2⟩
    · rw [hs.1.1, hkk, (less_iff _ _).2 hlt]; simp
    · rw [hkk, hs.1.2]
      rcases h2 with h2 | h2
      · rw [h2]; rfl
      · rw [(less_iff _ _).2 h2]; simp
  obtain ⟨s1, s2, hne, h1, h2⟩ := hcs
  have e : cutF lo key kvs ++ cutF key hi kvs = cutF lo hi kvs := by
    rw [cutF_yes h s1, cutF_yes h s2, cutF_yes h hs]
    refine filter_parts (kvOk_pair h) _ _ _ ?_ ?_ ?_
    · intro x _
      rw [Bool.eq_iff_iff, Bool.or_eq_true, hasB_iff, hasB_iff, hasB_iff]
      grind
    · intro x _ y _ hxy hq
      rw [hasB_iff] at hq
      rw [← Bool.not_eq_true, hasB_iff]
      grind
    · intro x _ hpq
      rw [hasB_iff, hasB_iff] at hpq
      grind
  refine ⟨e, ?_, ?_⟩
  · unfold joinF; rw [e, if_pos (cutF_ok h)]
  · unfold joinB; rw [e]; exact @decide_eq_true _ (_) (cutF_ok h)
end Go.Proofs.Ytjijichgoodocaa

/- What is known, as the promises use it. -/
namespace Go.Proofs.Ytjijichgoodocaa
open Go.RowKit

def KokIs (b : Bool) (vs : List KnownD) : Prop := b = true ↔ RouteOkP vs
theorem kok_ex (vs : List KnownD) : ∃ b, KokIs b vs := by
  unfold KokIs
  by_cases h : RouteOkP vs
  · exact ⟨true, by simp [h]⟩
  · exact ⟨false, by simp [h]⟩
theorem routeOk_is {ok : Bool} {vs : List KnownD} (hok : KokIs ok vs) (a : Option Addr) (cap : Nat) (w : World) (hv : KnownsIn w a vs) (hf : ∀ v ∈ vs, v.fits) (hn : vs.length ≤ 1000) : Calls Try.prog 53 #[.slice a vs.length cap] w fun e w' => e = .returned (.bool ok) ∧ Below w.heap.size w w' :=
  (routeOk_any a vs cap w hv hf (by unfold maxLen; omega)).mono fun e w' ⟨b', he, hk, hbl⟩ => ⟨by rw [he, show b' = ok from by rw [Bool.eq_iff_iff, hk, show (ok = true ↔ RouteOkP vs) from hok]], hbl⟩

def hasK (key : ByteArray) (v : KnownD) : Bool := spanHasB v.f0 v.f1 key
theorem apt_cnt {key : ByteArray} {vs : List KnownD} (h : Apt vs) : (vs.filter (fun v => hasB v.f0 v.f1 key)).length = if (findK vs key).isSome then 1 else 0 := by
  induction h with
  | nil => rfl
  | @cons v vs hv h g ih =>
    unfold findK at ih ⊢
    rw [List.filter_cons, List.find?_cons]
    cases hh : hasB v.f0 v.f1 key
    · simpa using ih
    · have : vs.filter (fun v => hasB v.f0 v.f1 key) = [] := by
        rw [List.filter_eq_nil_iff]
        intro u hu
        have ht := h u hu
        rw [hasB_iff] at hh
        unfold touchB at ht
        rw [Bool.or_eq_false_iff] at ht
        obtain ⟨t1, t2⟩ := ht
        have t3 : ¬ v.f1.toList = [] := by intro e; rw [e] at t1; cases t1
        have t4 : ¬ u.f0.toList < v.f1.toList := by rw [← less_iff, t2]; decide
        intro hx
        have hx' : hasB u.f0 u.f1 key = true := hx
        rw [hasB_iff] at hx'
        grind
      rw [this]
      rfl
theorem find_cnt {key : ByteArray} {vs : List KnownD} {r : KnownD} {b : Bool} (h : RouteOkP vs) (hr : RfRel vs key r b) : (vs.filter (hasK key)).length = if b then 1 else 0 := by
  by_cases hk : keyOkB key = true
  · have e : vs.filter (hasK key) = vs.filter (fun v => hasB v.f0 v.f1 key) := by
      apply List.filter_congr
      intro v hv
      obtain ⟨i, hi, rfl⟩ := List.getElem_of_mem hv
      unfold hasK spanHasB
      rw [spanOk_at h hi, hk]; rfl
    rw [e, apt_cnt (apt_ok h)]
    rcases hr with ⟨_, _, ⟨h3, h4⟩ | ⟨h3, _, h4⟩⟩ | ⟨h1, _, _⟩
    · rw [h3, h4]; rfl
    · rw [h3, h4]; rfl
    · exact absurd ⟨h, hk⟩ h1
  · have e : vs.filter (hasK key) = [] := by
      rw [List.filter_eq_nil_iff]
      intro v _
      unfold hasK spanHasB
      simp [hk]
    rw [e]
    rcases hr with ⟨_, h2, _⟩ | ⟨_, _, h4⟩
    · exact absurd h2 hk
    · rw [h4]; rfl
theorem cnt_succ (vs : List KnownD) (p : KnownD → Bool) (t : Nat) (h : t < vs.length) : ((vs.take (t + 1)).filter p).length = ((vs.take t).filter p).length + if p vs[t] then 1 else 0 := by
  rw [List.take_succ_eq_append_getElem h, List.filter_append, List.length_append]
  congr 1
  rw [List.filter_cons]
  split <;> rfl
end Go.Proofs.Ytjijichgoodocaa
