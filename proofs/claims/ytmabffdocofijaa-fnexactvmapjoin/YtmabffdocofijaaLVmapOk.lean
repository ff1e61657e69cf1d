/- The law of VmapOk, walked. -/
import Derived.Test.YtmabffdocofijaaMapOk
import Derived.Test.YtmabffdocofijaaVmToB
import Derived.Test.YtmabffdocofijaaAsk
import Derived.Test.YtmabffdocofijaaVmapAt
namespace Go.Proofs.Ytmabffdocofijaa
open Go.RowKit

theorem step {w u v : World} (h : Below w.heap.size w u) (hb : Below u.heap.size u v) : Below w.heap.size w v := h.trans (hb.mono h.size)
theorem fits_same {xs ys : List ObjD} (h : SameObjs xs ys) (hf : ∀ o ∈ xs, o.fits) : ∀ o ∈ ys, o.fits := by
  intro o ho
  obtain ⟨i, hi, rfl⟩ := List.getElem_of_mem ho
  have hx : i < xs.length := by have := h.1; omega
  obtain ⟨k1, k2⟩ := h.2 i hx hi
  have := hf _ (List.getElem_mem hx)
  exact ⟨k1 ▸ this.1, k2 ▸ this.2.1, k2 ▸ this.2.2⟩
theorem ok_same {xs ys : List ObjD} (h : SameObjs xs ys) : MapOkTo xs xs.length ↔ MapOkTo ys ys.length := by
  have key : ∀ {xs ys : List ObjD}, SameObjs xs ys → MapOkTo xs xs.length → MapOkTo ys ys.length := by
    intro xs ys h hx i hi _
    have hix : i < xs.length := by have := h.1; omega
    obtain ⟨k1, k2⟩ := h.2 i hix hi
    obtain ⟨a1, a2, a3, a4⟩ := hx i hix hix
    refine ⟨k1 ▸ a1, fun j hj e => ?_, k2 ▸ a3, k2 ▸ a4⟩
    have hjx : j < xs.length := by have := h.1; omega
    rw [← (h.2 j hjx hj).1, ← k1]
    exact a2 j hjx e
  exact ⟨key h, key ⟨h.1.symm, fun i hi hk => ⟨(h.2 i hk hi).1.symm, (h.2 i hk hi).2.symm⟩⟩⟩
theorem vlen_same {xs ys : List ObjD} (h : SameObjs xs ys) (hf : ∀ o ∈ xs, o.vers.length ≤ 1048576) : ∀ o ∈ ys, o.vers.length ≤ 1048576 := by
  intro o ho
  obtain ⟨i, hi, rfl⟩ := List.getElem_of_mem ho
  have hx : i < xs.length := by have := h.1; omega
  rw [← (h.2 i hx hi).2]
  exact hf _ (List.getElem_mem hx)
theorem pairs_same {xs ys : List ObjD} (h : SameObjs xs ys) : xs.map (fun o => (o.key, o.vers)) = ys.map (fun o => (o.key, o.vers)) := by
  apply List.ext_getElem
  · simp [h.1]
  · intro i h1 h2
    simp only [List.length_map] at h1 h2
    simp only [List.getElem_map]
    rw [(h.2 i h1 h2).1, (h.2 i h1 h2).2]
theorem atF_pairs (xs : List ObjD) (key : ByteArray) (id : Int) : atF xs key id = ((xs.map fun o => (o.key, o.vers)).find? fun p => p.1.toList == key.toList).bind fun p => seenF p.2 id := by
  rw [List.find?_map, atF, keyF]
  cases h : xs.find? (fun o => o.key.toList == key.toList) <;> simp [Function.comp_def, h]
theorem atF_same {xs ys : List ObjD} (h : SameObjs xs ys) (key : ByteArray) (id : Int) : atF xs key id = atF ys key id := by
  rw [atF_pairs, atF_pairs, pairs_same h]
theorem at_both {os xs ys : List ObjD} {key : ByteArray} {id : Int} {x y : Option VerD} (h : SameObjs os xs) (k : SameObjs os ys)
    (hx : MapOkTo xs xs.length → keyOkB key = true → x = atF xs key id) (nx : ¬ (MapOkTo xs xs.length ∧ keyOkB key = true) → x = none)
    (hy : MapOkTo ys ys.length → keyOkB key = true → y = atF ys key id) (ny : ¬ (MapOkTo ys ys.length ∧ keyOkB key = true) → y = none) : y = x := by
  by_cases hm : MapOkTo os os.length ∧ keyOkB key = true
  · rw [hx ((ok_same h).1 hm.1) hm.2, hy ((ok_same k).1 hm.1) hm.2, ← atF_same h, ← atF_same k]
  · rw [nx (fun q => hm ⟨(ok_same h).2 q.1, q.2⟩), ny (fun q => hm ⟨(ok_same k).2 q.1, q.2⟩)]
theorem same_symm_trans {os xs ys : List ObjD} (h : SameObjs os xs) (k : SameObjs os ys) : SameObjs xs ys := by
  refine ⟨h.1.symm.trans k.1, fun i hi hk => ?_⟩
  have ho : i < os.length := by have := h.1; omega
  exact ⟨(h.2 i ho hi).1.symm.trans (k.2 i ho hk).1, (h.2 i ho hi).2.symm.trans (k.2 i ho hk).2⟩
theorem len_of_size {os : List ObjD} (h : mapSize os ≤ 1048576) : os.length ≤ 1048576 ∧ ∀ o ∈ os, o.vers.length ≤ 1048576 := by
  have key : ∀ (xs : List ObjD) (o : ObjD), o ∈ xs → o.vers.length ≤ (xs.map fun o => o.key.size + versSize o.vers).sum := by
    intro xs o ho
    induction xs with
    | nil => cases ho
    | cons x xs ih =>
      simp only [List.map_cons, List.sum_cons]
      rcases List.mem_cons.1 ho with rfl | h
      · unfold versSize; omega
      · have := ih h; omega
  unfold mapSize objsTo at h
  rw [List.take_of_length_le (Nat.le_refl _)] at h
  refine ⟨by omega, fun o ho => ?_⟩
  have := key os o ho
  omega
end Go.Proofs.Ytmabffdocofijaa
