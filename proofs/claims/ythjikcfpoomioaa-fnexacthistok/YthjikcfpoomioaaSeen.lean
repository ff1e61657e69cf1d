/- A set of strings that a call makes and asks; lists whose keys are different. -/
import Derived.Test.YthjikcfpoomioaaTxE
import Derived.Maps.OwnOps
import Derived.Maps.OwnSet
import Derived.Maps.Views
namespace Go.Proofs.Ythjikcfpoomioaa
open Go.RowKit Go.Maps Go.WideMaps

theorem plainElem_bool_inv {H : Type} {P : Program} {e : TypeId} (he : P.underlying e = some .bool) {v : Value} {z : DataW H × List MemPlace} (h : plainElem P e v = some z) : ∃ x, v = .bool x ∧ z = (.lit (.bool x), []) := by
  unfold plainElem at h
  rw [he] at h
  cases v <;> simp at h
  exact ⟨_, rfl, h.symm⟩

theorem atKey_fold {H : Type} (u : DataW H) (k : Lit) (z : DataW H) : ∀ (acc : List Lit) (m : DataW H), IsMap m → (∀ x ∈ acc, WideAt.IsKeyLit x) →
    (k ∈ acc → (acc.foldl (fun m x => m.put x u) m).atKey k z = u) ∧ (k ∉ acc → (acc.foldl (fun m x => m.put x u) m).atKey k z = m.atKey k z)
  | [], m, _, _ => by simp
  | x :: xs, m, hm, hk => by
    obtain ⟨h1, h2⟩ := atKey_fold u k z xs (m.put x u) (hm.put x u) (fun y hy => hk y (List.mem_cons_of_mem _ hy))
    rw [List.foldl_cons]
    constructor
    · intro hin
      by_cases hx : k ∈ xs
      · exact h1 hx
      · have e : k = x := by simpa [hx] using hin
        rw [h2 hx]
        subst e
        exact atKey_put_same hm (hk k (by simp)) _ _
    · intro hout
      have e : k ≠ x := fun e => hout (by simp [e])
      rw [h2 (fun hx => hout (List.mem_cons_of_mem _ hx)), atKey_put_other e]

section
variable {α : Type} (ok : α → Bool) (key : α → ByteArray)
def LOk (vs : List α) (k : Nat) : Prop := ∀ i (h : i < vs.length), i < k → ok vs[i] = true ∧ ∀ j (hj : j < vs.length), j < i → ((key vs[j]).toList == (key vs[i]).toList) = false
def seenB (vs : List α) (k : Nat) (s : ByteArray) : Bool := (vs.take k).any fun v => (key v).toList == s.toList
def seenD (vs : List α) (k : Nat) : DataW Unit := setOf (.lit (.bool true)) ((vs.take k).map fun v => Lit.string (key v).data.toList)
variable {ok key}
theorem LOk.zero (vs : List α) : LOk ok key vs 0 := fun _ _ h => absurd h (by omega)
theorem seenB_iff {vs : List α} {k : Nat} {s : ByteArray} : seenB key vs k s = true ↔ ∃ j, ∃ h : j < vs.length, j < k ∧ ((key vs[j]).toList == s.toList) = true := by
  unfold seenB
  rw [List.any_eq_true]
  constructor
  · rintro ⟨v, hv, he⟩
    obtain ⟨j, hj, rfl⟩ := List.getElem_of_mem hv
    simp only [List.length_take] at hj
    rw [List.getElem_take] at he
    exact ⟨j, by omega, by omega, he⟩
  · rintro ⟨j, hj, hk, he⟩
    exact ⟨vs[j], List.mem_of_getElem (i := j) (h := by simp; omega) (by simp), he⟩
theorem LOk.succ {vs : List α} {k : Nat} (h : LOk ok key vs k) (hk : k < vs.length) (hv : ok vs[k] = true) (hs : seenB key vs k (key vs[k]) = false) : LOk ok key vs (k + 1) := fun i hi hik => by
  by_cases e : i = k
  · subst e
    refine ⟨hv, fun j hj hji => ?_⟩
    cases q : ((key vs[j]).toList == (key vs[i]).toList)
    · rfl
    · rw [(seenB_iff (key := key)).2 ⟨j, hj, hji, q⟩] at hs; cases hs
  · exact h i hi (by omega)
theorem LOk.not_valid {vs : List α} {k : Nat} (hk : k < vs.length) (hv : ok vs[k] = false) : ¬ LOk ok key vs vs.length := fun h => by
  have := (h k hk hk).1; rw [hv] at this; cases this
theorem LOk.not_seen {vs : List α} {k : Nat} (hk : k < vs.length) (hs : seenB key vs k (key vs[k]) = true) : ¬ LOk ok key vs vs.length := fun h => by
  obtain ⟨j, hj, hjk, he⟩ := seenB_iff.1 hs
  rw [(h k hk hk).2 j hj hjk] at he; cases he
theorem seenD_zero (vs : List α) : seenD key vs 0 = .map [] := rfl
theorem seenD_succ {vs : List α} {k : Nat} (hk : k < vs.length) : seenD key vs (k + 1) = (seenD key vs k).put (.string (key vs[k]).data.toList) (.lit (.bool true)) := by
  unfold seenD
  rw [List.take_succ_eq_append_getElem hk, List.map_append, List.map_cons, List.map_nil, setOf_snoc]

theorem seen_at {vs : List α} {k : Nat} (s : ByteArray) : (seenD key vs k).atKey (.string s.data.toList) (.lit (.bool false)) = .lit (.bool (seenB key vs k s)) := by
  have := atKey_fold (H := Unit) (.lit (.bool true)) (.string s.data.toList) (.lit (.bool false)) ((vs.take k).map fun v => Lit.string (key v).data.toList) (.map []) isMap_empty (by
    intro x hx
    obtain ⟨v, _, rfl⟩ := List.mem_map.1 hx
    trivial)
  unfold seenD setOf
  have e : (Lit.string s.data.toList ∈ (vs.take k).map fun v => Lit.string (key v).data.toList) ↔ seenB key vs k s = true := by
    unfold seenB
    rw [List.any_eq_true, List.mem_map]
    constructor
    · rintro ⟨v, hv, he⟩
      exact ⟨v, hv, by simp only [Lit.string.injEq] at he; rw [Lib.toList_data, Lib.toList_data, he]; simp⟩
    · rintro ⟨v, hv, he⟩
      rw [Lib.toList_data, Lib.toList_data] at he
      exact ⟨v, hv, by simpa using he⟩
  by_cases h : seenB key vs k s = true
  · rw [this.1 (e.2 h), h]
  · rw [this.2 (fun g => h (e.1 g))]
    simp only [Bool.not_eq_true] at h
    rw [h]; rfl
end

theorem lawStr : Keyed Try.prog 9 := string_keyed Try.underlying9
theorem zeroBool (w : World) : (zeroValue 4).run Try.prog w = .ok (.bool false) w := by kernel_rfl

theorem seen_look {α : Type} {key : α → ByteArray} {vs : List α} {k : Nat} {w : World} {b n : Nat} (h : w.ownsMap Try.prog 9 (plainElem Try.prog 4) b n (seenD key vs k)) {s : ByteArray} (hs : s.size ≤ maxLen) :
    (Instr.lookup 237 (.map (some b)) (.string s) false).run Try.prog w = .ok (.bool (seenB key vs k s)) w := by
  obtain ⟨v, ps, hrun, hv⟩ := h.lookup lawStr Try.underlying237 (zeroBool w) (plainElem_bool Try.underlying4 false) (keyOf_string_mk Try.underlying9 hs)
  obtain ⟨c, rfl, hc⟩ := plainElem_bool_inv Try.underlying4 hv
  rw [seen_at] at hc
  simp at hc
  rw [hrun, hc.1]

theorem ownsMap_below {H : Type} {P : Program} {k : TypeId} {R : Value → Option (DataW H × List MemPlace)} {b n : Nat} {D : DataW H} {w w' : World} {N : Nat} (h : w.ownsMap P k R b n D) (hb : Below N w w') (hN : b < N) : w'.ownsMap P k R b n D := by
  obtain ⟨es, clock, hh, r⟩ := h
  exact ⟨es, clock, (hb.block b hN).trans hh, r⟩
end Go.Proofs.Ythjikcfpoomioaa
