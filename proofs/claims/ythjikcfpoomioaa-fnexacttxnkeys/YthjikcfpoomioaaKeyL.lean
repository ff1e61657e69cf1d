/- Lists of keys: in order, each once. -/
import Derived.Test.YthjikcfpoomioaaText
import Derived.Lib.SlicesCompact
namespace Go.Proofs.Ythjikcfpoomioaa
open Go.RowKit

/-- These are all of those, in order, each once. -/
def KeysRel (all R : List (List UInt8)) : Prop := R.Pairwise (· < ·) ∧ ∀ x, x ∈ R ↔ x ∈ all

theorem strict_unique : ∀ (A B : List (List UInt8)), A.Pairwise (· < ·) → B.Pairwise (· < ·) → (∀ x, x ∈ A ↔ x ∈ B) → A = B
  | [], [], _, _, _ => rfl
  | [], b :: bs, _, _, h => by have := (h b).2 (by simp); simp at this
  | a :: xs, [], _, _, h => by have := (h a).1 (by simp); simp at this
  | a :: xs, b :: bs, hA, hB, h => by
    rw [List.pairwise_cons] at hA hB
    have hab : a = b := by
      rcases List.mem_cons.1 ((h a).1 (by simp)) with e | ha
      · exact e
      · rcases List.mem_cons.1 ((h b).2 (by simp)) with e | hb
        · exact e.symm
        · exact absurd (List.lt_trans (hB.1 a ha) (hA.1 b hb)) (List.lt_irrefl _)
    subst hab
    congr 1
    refine strict_unique xs bs hA.2 hB.2 fun x => ⟨fun hx => ?_, fun hx => ?_⟩
    · rcases List.mem_cons.1 ((h x).1 (by simp [hx])) with e | hb
      · subst e; exact absurd (hA.1 x hx) (List.lt_irrefl _)
      · exact hb
    · rcases List.mem_cons.1 ((h x).2 (by simp [hx])) with e | hb
      · subst e; exact absurd (hB.1 x hx) (List.lt_irrefl _)
      · exact hb
theorem KeysRel.unique {all A B : List (List UInt8)} (h : KeysRel all A) (g : KeysRel all B) : A = B := strict_unique A B h.1 g.1 fun x => (h.2 x).trans (g.2 x).symm

theorem compact_upTo (d : Array (List UInt8)) (hs : ∀ i j, i < j → j < d.size → d[i]! ≤ d[j]!) : ∀ m, m ≤ d.size → (Lib.compactUpTo d m).Pairwise (· < ·) ∧ (∀ x, x ∈ Lib.compactUpTo d m ↔ ∃ i, i < m ∧ d[i]! = x)
  | 0, _ => by simp [Lib.compactUpTo]
  | m + 1, hm => by
    obtain ⟨h1, h2⟩ := compact_upTo d hs m (by omega)
    rw [Lib.compactUpTo_succ]
    by_cases hk : Lib.keeps d m = true
    · rw [if_pos hk]
      refine ⟨?_, fun x => ?_⟩
      · rw [List.pairwise_append]
        refine ⟨h1, by simp, fun a ha b hb => ?_⟩
        obtain ⟨i, hi, rfl⟩ := (h2 a).1 ha
        simp at hb
        subst hb
        have hne : d[m]! ≠ d[m - 1]! := by
          have : m = 0 ∨ d[m]! ≠ d[m - 1]! := by simpa [Lib.keeps] using hk
          rcases this with h | h
          · omega
          · exact h
        have hlt : d[m - 1]! < d[m]! := Std.lt_of_le_of_ne (hs (m - 1) m (by omega) (by omega)) (fun e => hne e.symm)
        by_cases e : i = m - 1
        · subst e; exact hlt
        · exact List.lt_of_le_of_lt (hs i (m - 1) (by omega) (by omega)) hlt
      · rw [List.mem_append, h2]
        constructor
        · rintro (⟨i, hi, rfl⟩ | hx)
          · exact ⟨i, by omega, rfl⟩
          · simp at hx; exact ⟨m, by omega, hx.symm⟩
        · rintro ⟨i, hi, rfl⟩
          by_cases e : i = m
          · subst e; right; simp
          · exact .inl ⟨i, by omega, rfl⟩
    · rw [if_neg hk, List.append_nil]
      refine ⟨h1, fun x => ?_⟩
      rw [h2]
      have hkk : ¬ (m = 0) ∧ d[m]! = d[m - 1]! := by simpa [Lib.keeps] using hk
      constructor
      · rintro ⟨i, hi, rfl⟩; exact ⟨i, by omega, rfl⟩
      · rintro ⟨i, hi, rfl⟩
        by_cases e : i = m
        · subst e; exact ⟨i - 1, by omega, hkk.2.symm⟩
        · exact ⟨i, by omega, rfl⟩
theorem compact_keys {zs : List (List UInt8)} (h : zs.Pairwise (· ≤ ·)) : KeysRel zs (Lib.compact zs) := by
  have hs : ∀ i j, i < j → j < zs.toArray.size → zs.toArray[i]! ≤ zs.toArray[j]! := by
    intro i j hij hj
    have hj' : j < zs.length := by simpa using hj
    rw [getElem!_pos zs.toArray i (by simp; omega), getElem!_pos zs.toArray j hj]
    simpa using List.pairwise_iff_getElem.1 h i j (by omega) hj' hij
  obtain ⟨h1, h2⟩ := compact_upTo zs.toArray hs zs.length (by simp)
  refine ⟨h1, fun x => (h2 x).trans ⟨?_, fun hx => ?_⟩⟩
  · rintro ⟨i, hi, rfl⟩
    rw [getElem!_pos zs.toArray i (by simpa using hi)]
    simp
  · obtain ⟨i, hi, rfl⟩ := List.getElem_of_mem hx
    exact ⟨i, hi, by rw [getElem!_pos zs.toArray i (by simpa using hi)]; simp⟩
theorem sort_keys (ss : List (List UInt8)) : KeysRel ss (Lib.compact (ss.mergeSort fun x y => decide (x ≤ y))) := by
  have hp : (ss.mergeSort fun x y => decide (x ≤ y)).Pairwise (· ≤ ·) := by
    have := List.pairwise_mergeSort (le := fun x y : List UInt8 => decide (x ≤ y)) (fun a b c h1 h2 => by simp at h1 h2 ⊢; exact List.le_trans h1 h2) (fun a b => by simp; exact List.le_total a b) ss
    exact this.imp fun h => by simpa using h
  obtain ⟨h1, h2⟩ := compact_keys hp
  exact ⟨h1, fun x => (h2 x).trans (List.mergeSort_perm _ _).mem_iff⟩
end Go.Proofs.Ythjikcfpoomioaa
