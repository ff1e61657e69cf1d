/- The law of VmapOk, walked. -/
import Derived.Test.YtjijichgoodocaaUpTo
import Derived.Test.YtjijichgoodocaaMark
import Derived.Test.YtjijichgoodocaaSpan
import Derived.Test.YtjijichgoodocaaVmapAt
import Derived.Test.YtjijichgoodocaaMeetP
import Derived.Deep.Cut
import Derived.Deep.RegionHeld3
import Derived.Deep.RegionWith
namespace Go.Proofs.Ytjijichgoodocaa
open Go.RowKit

theorem step {w u v : World} (h : Below w.heap.size w u) (hb : Below u.heap.size u v) : Below w.heap.size w v := h.trans (hb.mono h.size)
theorem fits_same {xs ys : List ObjD} (h : SameObjs xs ys) (hf : ∀ o ∈ xs, o.fits) : ∀ o ∈ ys, o.fits := by
  intro o ho
  obtain ⟨i, hi, rfl⟩ := List.getElem_of_mem ho
  have hx : i < xs.length := by have := h.1; omega
  obtain ⟨k1, k2⟩ := h.2 i hx hi
  have := hf _ (List.getElem_mem hx)
  exact ⟨k1 ▸ this.1, k2 ▸ this.2.1, k2 ▸ this.2.2⟩
theorem ok_same {xs ys : List ObjD} (h : SameObjs xs ys) : MapOkTo xs xs.length ↔ MapOkTo ys ys.length := by
  have key : ∀ {xs ys : List ObjD}, SameObjs xs ys → MapOkTo xs xs.length → MapOkTo ys ys.length := by
    intro xs ys h hx i hi _
    have hix : i < xs.length := by have := h.1; omega
    obtain ⟨k1, k2⟩ := h.2 i hix hi
    obtain ⟨a1, a2, a3, a4⟩ := hx i hix hix
    refine ⟨k1 ▸ a1, fun j hj e => ?_, k2 ▸ a3, k2 ▸ a4⟩
    have hjx : j < xs.length := by have := h.1; omega
    rw [← (h.2 j hjx hj).1, ← k1]
    exact a2 j hjx e
  exact ⟨key h, key ⟨h.1.symm, fun i hi hk => ⟨(h.2 i hk hi).1.symm, (h.2 i hk hi).2.symm⟩⟩⟩
theorem vlen_same {xs ys : List ObjD} (h : SameObjs xs ys) (hf : ∀ o ∈ xs, o.vers.length ≤ 1048576) : ∀ o ∈ ys, o.vers.length ≤ 1048576 := by
  intro o ho
  obtain ⟨i, hi, rfl⟩ := List.getElem_of_mem ho
  have hx : i < xs.length := by have := h.1; omega
  rw [← (h.2 i hx hi).2]
  exact hf _ (List.getElem_mem hx)
theorem pairs_same {xs ys : List ObjD} (h : SameObjs xs ys) : xs.map (fun o => (o.key, o.vers)) = ys.map (fun o => (o.key, o.vers)) := by
  apply List.ext_getElem
  · simp [h.1]
  · intro i h1 h2
    simp only [List.length_map] at h1 h2
    simp only [List.getElem_map]
    rw [(h.2 i h1 h2).1, (h.2 i h1 h2).2]
theorem atF_pairs (xs : List ObjD) (key : ByteArray) (id : Int) : atF xs key id = ((xs.map fun o => (o.key, o.vers)).find? fun p => p.1.toList == key.toList).bind fun p => seenF p.2 id := by
  rw [List.find?_map, atF, keyF]
  cases h : xs.find? (fun o => o.key.toList == key.toList) <;> simp [Function.comp_def, h]
theorem atF_same {xs ys : List ObjD} (h : SameObjs xs ys) (key : ByteArray) (id : Int) : atF xs key id = atF ys key id := by
  rw [atF_pairs, atF_pairs, pairs_same h]
theorem at_both {os xs ys : List ObjD} {key : ByteArray} {id : Int} {x y : Option VerD} (h : SameObjs os xs) (k : SameObjs os ys)
    (hx : MapOkTo xs xs.length → keyOkB key = true → x = atF xs key id) (nx : ¬ (MapOkTo xs xs.length ∧ keyOkB key = true) → x = none)
    (hy : MapOkTo ys ys.length → keyOkB key = true → y = atF ys key id) (ny : ¬ (MapOkTo ys ys.length ∧ keyOkB key = true) → y = none) : y = x := by
  by_cases hm : MapOkTo os os.length ∧ keyOkB key = true
  · rw [hx ((ok_same h).1 hm.1) hm.2, hy ((ok_same k).1 hm.1) hm.2, ← atF_same h, ← atF_same k]
  · rw [nx (fun q => hm ⟨(ok_same h).2 q.1, q.2⟩), ny (fun q => hm ⟨(ok_same k).2 q.1, q.2⟩)]
theorem same_symm_trans {os xs ys : List ObjD} (h : SameObjs os xs) (k : SameObjs os ys) : SameObjs xs ys := by
  refine ⟨h.1.symm.trans k.1, fun i hi hk => ?_⟩
  have ho : i < os.length := by have := h.1; omega
  exact ⟨(h.2 i ho hi).1.symm.trans (k.2 i ho hk).1, (h.2 i ho hi).2.symm.trans (k.2 i ho hk).2⟩
theorem len_of_size {os : List ObjD} (h : mapSize os ≤ 1048576) : os.length ≤ 1048576 ∧ ∀ o ∈ os, o.vers.length ≤ 1048576 := by
  have key : ∀ (xs : List ObjD) (o : ObjD), o ∈ xs → o.vers.length ≤ (xs.map fun o => o.key.size + versSize o.vers).sum := by
    intro xs o ho
    induction xs with
    | nil => cases ho
    | cons x xs ih =>
      simp only [List.map_cons, List.sum_cons]
      rcases List.mem_cons.1 ho with rfl | h
      · unfold versSize; omega
      · have := ih h; omega
  unfold mapSize objsTo at h
  rw [List.take_of_length_le (Nat.le_refl _)] at h
  refine ⟨by omega, fun o ho => ?_⟩
  have := key os o ho
  omega

theorem vmapOk_at {n : Nat} (a : Option Addr) (os : List ObjD) (cap : Nat) (w : World) (hn : os.length = n) (hv : ObjsIn w a os) (hf : ∀ o ∈ os, o.fits) (hlen : os.length ≤ maxLen) :
    Calls Try.prog 19 #[.agg #[.slice a n cap]] w (OkPost os w) := by subst hn; exact vmapOk_any a os cap w hv hf hlen
theorem specVmapOk_at {n : Nat} (a : Option Addr) (os : List ObjD) (cap : Nat) (w : World) (hn : os.length = n) (hv : ObjsIn w a os) (hf : ∀ o ∈ os, o.fits) (hlen : os.length ≤ maxLen) :
    Calls Try.prog 20 #[.agg #[.slice a n cap]] w (OkPost os w) := by subst hn; exact specVmapOk_any a os cap w hv hf hlen
end Go.Proofs.Ytjijichgoodocaa

/- Boxes that a region lays wherever it likes: what is kept of a world in such a region; a map that is new. -/
namespace Go.Proofs.Ytjijichgoodocaa
open Go.RowKit

/-- Two boxes are there, and nothing old has turned. -/
def Kp (W : World) (n1 n2 : Nat) (u : World) : Prop := n1 < u.heap.size ∧ n2 < u.heap.size ∧ Below W.heap.size W u
theorem Kp.below {W u v : World} {n1 n2 : Nat} (h : Kp W n1 n2 u) (hb : Below u.heap.size u v) : Kp W n1 n2 v := ⟨Nat.lt_of_lt_of_le h.1 hb.size, Nat.lt_of_lt_of_le h.2.1 hb.size, h.2.2.trans (hb.mono h.2.2.size)⟩
theorem Kp.size {W u : World} {n1 n2 : Nat} (h : Kp W n1 n2 u) : W.heap.size ≤ u.heap.size := h.2.2.size
theorem Kp.from_ {w W u : World} {n1 n2 : Nat} (h : Kp W n1 n2 u) (hB : Below w.heap.size w W) : Below w.heap.size w u := hB.trans (h.2.2.mono hB.size)

/-- Block g of u is a map that is all zero and may be written. -/
def Zr1 (g : Nat) (u : World) : Prop := u.cell? ⟨g, 0, none⟩ = some (.slice none 0 0) ∧ u.frozen? ⟨g, 0, none⟩ = false ∧ g < u.heap.size
theorem Zr1.below {g : Nat} {u w' : World} (h : Zr1 g u) (hw : Below u.heap.size u w') : Zr1 g w' := by
  obtain ⟨h1, h4, h7⟩ := h
  exact ⟨(hw.cell (p := ⟨g, 0, none⟩) h7).trans h1, (hw.frozen (p := ⟨g, 0, none⟩) h7).trans h4, Nat.lt_of_lt_of_le h7 hw.size⟩
theorem zr1_new (v : World) (t : TypeId) : Zr1 v.heap.size (v.alloc (.cells #[.slice none 0 0] t)) := ⟨by simp, by simp, by simp⟩
theorem of_new1 {C : Prop} {t : TypeId} {v w' : World} (hw : Below (v.alloc (.cells #[.slice none 0 0] t)).heap.size (v.alloc (.cells #[.slice none 0 0] t)) w') (k : Zr1 v.heap.size w' → C) : C := k ((zr1_new v t).below hw)
theorem of_new1D {C : Prop} {t : TypeId} {v w' : World} (hw : Below (v.alloc (.cells #[.slice none 0 0] t)).drew.heap.size (v.alloc (.cells #[.slice none 0 0] t)).drew w') (k : Zr1 v.heap.size w' → C) : C := k ((zr1_new v t).below (((Below.refl _ _).drew).trans hw))
theorem of_carry1 {C : Prop} {g : Nat} {u w' : World} (hw : Below u.heap.size u w') (h : Zr1 g u) (k : Zr1 g w' → C) : C := k (h.below hw)

/-- A box with a map in it, all new since W. -/
def NewVm (W : World) (kvs : List Kv) (p : Value) (u : World) : Prop :=
  ∃ g lo hi a cs c, p = .pointer (some ⟨g, 0, none⟩) ∧ Below W.heap.size W u ∧ W.heap.size ≤ g ∧ g < u.heap.size ∧ W.heap.size ≤ lo ∧ (g < lo ∨ hi ≤ g) ∧ u.cell? ⟨g, 0, none⟩ = some (.slice a cs.length c) ∧ cs.map ObjD.kv = kvs ∧ VmAt u lo hi a cs
theorem newVm_A {W u : World} {kvs : List Kv} {cs : List ObjD} {a : Option Addr} {c lo : Nat} {t : TypeId} {n1 n2 : Nat} (hB : Kp W n1 n2 u) (e : cs.map ObjD.kv = kvs) (h : VmAt u lo u.heap.size a cs) (hlo : W.heap.size ≤ lo) :
    NewVm W kvs (.pointer (some ⟨u.heap.size, 0, none⟩)) (u.alloc (.cells #[.slice a cs.length c] t)) :=
  ⟨u.heap.size, lo, u.heap.size, a, cs, c, rfl, hB.2.2.alloc hB.2.2.size _, hB.2.2.size, by simp, hlo, .inr (Nat.le_refl _), by simp, e, h.below ((Below.refl _ _).alloc (Nat.le_refl _) _)⟩
theorem VmAt.setAway {u : World} {lo hi r : Nat} {a : Option Addr} {cs : List ObjD} {x : Value} (h : VmAt u lo hi a cs) (hr : r < lo ∨ hi ≤ r) : VmAt (u.setCell ⟨r, 0, none⟩ x) lo hi a cs :=
  h.turned (S := fun b => b = r) (fun b h1 h2 e => by omega) ((Turned.refl (fun b => b = r) _).setCell (p := ⟨r, 0, none⟩) rfl _)
theorem newVm_B {W u : World} {kvs : List Kv} {cs : List ObjD} {a : Option Addr} {c lo g : Nat} {n1 n2 : Nat} (hB : Kp W n1 n2 u) (e : cs.map ObjD.kv = kvs) (h : VmAt u lo u.heap.size a cs) (z : Zr1 g u) (hg : W.heap.size ≤ g) (hs : g < lo) :
    NewVm W kvs (.pointer (some ⟨g, 0, none⟩)) (u.setCell ⟨g, 0, none⟩ (.slice a cs.length c)) := by
  obtain ⟨h1, _, h7⟩ := z
  exact ⟨g, lo, u.heap.size, a, cs, c, rfl, hB.2.2.setCell (p := ⟨g, 0, none⟩) hg _, hg, by simpa using h7, by omega, .inl hs, by simp [go_sem, h1, h7], e, h.setAway (.inl hs)⟩

/-- What an argument may be. -/
def ArgOk (os : List ObjD) : Prop := (∀ o ∈ os, o.fits) ∧ os.length ≤ 1048576 ∧ (∀ o ∈ os, o.vers.length ≤ 1048576) ∧ kvOff (os.map ObjD.kv) ≤ 3145728
theorem ArgOk.same {cs os : List ObjD} (h : ArgOk os) (e : cs.map ObjD.kv = os.map ObjD.kv) : ArgOk cs := by
  obtain ⟨h1, h2, h3, h4⟩ := h
  have hl : cs.length = os.length := by simpa using congrArg List.length e
  refine ⟨fits_of_kv e (kvFits_of h1), by omega, fun o ho => ?_, by rw [e]; exact h4⟩
  have : o.kv ∈ os.map ObjD.kv := by rw [← e]; exact List.mem_map_of_mem ho
  obtain ⟨o', ho', e'⟩ := List.mem_map.1 this
  have := h3 o' ho'
  have e2 : o'.vers = o.vers := congrArg Prod.snd e'
  rw [← e2]; exact this
theorem le_sum_mem {α : Type} (f : α → Nat) {o : α} {os : List α} (h : o ∈ os) : f o ≤ (os.map f).sum := by
  induction os with
  | nil => cases h
  | cons a t ih =>
    rw [List.map_cons, List.sum_cons]
    rcases List.mem_cons.1 h with rfl | h
    · omega
    · have := ih h; omega
theorem argOk_of {os : List ObjD} (hf : ∀ o ∈ os, o.fits) (h : mapSize os ≤ 1048576) : ArgOk os := by
  have h2 := kvOff_size os
  refine ⟨hf, ?_, fun o ho => ?_, by omega⟩
  · have := kvOff_len (os.map ObjD.kv); rw [List.length_map] at this; unfold mapSize at h; omega
  · have h3 : o.vers.length ≤ versSize o.vers := Nat.le_add_right _ _
    have h4 : o.key.size + versSize o.vers ≤ objsTo os os.length := by
      rw [objsTo, List.take_length]
      exact le_sum_mem (fun o : ObjD => o.key.size + versSize o.vers) ho
    unfold mapSize at h
    omega
theorem off_of {cs : List ObjD} {kvs : List Kv} (e : cs.map ObjD.kv = kvs) : objOff cs cs.length = kvOff kvs := by rw [objOff_all, objOff_kv, e]

theorem keep12 {n1 n2 : Nat} {x0 y0 y1 : Value} {W u v : World} (hb : Below u.heap.size u v) (h : u.cell? ⟨n1, 0, none⟩ = some x0 ∧ u.cell? ⟨n2, 0, none⟩ = some y0 ∧ u.cell? ⟨n2, 1, none⟩ = some y1 ∧ Kp W n1 n2 u) : v.cell? ⟨n1, 0, none⟩ = some x0 ∧ v.cell? ⟨n2, 0, none⟩ = some y0 ∧ v.cell? ⟨n2, 1, none⟩ = some y1 ∧ Kp W n1 n2 v := by
  obtain ⟨h0, h1, h2, hK⟩ := h
  exact ⟨(hb.cell (p := ⟨n1, 0, none⟩) hK.1).trans h0, (hb.cell (p := ⟨n2, 0, none⟩) hK.2.1).trans h1, (hb.cell (p := ⟨n2, 1, none⟩) hK.2.1).trans h2, hK.below hb⟩
theorem keep12_set {n1 n2 g : Nat} {x0 y0 y1 a : Value} {W u : World} (h : u.cell? ⟨n1, 0, none⟩ = some x0 ∧ u.cell? ⟨n2, 0, none⟩ = some y0 ∧ u.cell? ⟨n2, 1, none⟩ = some y1 ∧ Kp W n1 n2 u) (hn1 : n1 < W.heap.size) (hn2 : n2 < W.heap.size) (hg : W.heap.size ≤ g) : (u.setCell ⟨g, 0, none⟩ a).cell? ⟨n1, 0, none⟩ = some x0 ∧ (u.setCell ⟨g, 0, none⟩ a).cell? ⟨n2, 0, none⟩ = some y0 ∧ (u.setCell ⟨g, 0, none⟩ a).cell? ⟨n2, 1, none⟩ = some y1 ∧ Kp W n1 n2 (u.setCell ⟨g, 0, none⟩ a) := by
  have hb : Below W.heap.size u (u.setCell ⟨g, 0, none⟩ a) := (Below.refl _ _).setCell (p := ⟨g, 0, none⟩) hg _
  obtain ⟨h0, h1, h2, hK⟩ := h
  have hs := hb.size
  exact ⟨(hb.cell (p := ⟨n1, 0, none⟩) hn1).trans h0, (hb.cell (p := ⟨n2, 0, none⟩) hn2).trans h1, (hb.cell (p := ⟨n2, 1, none⟩) hn2).trans h2, ⟨Nat.lt_of_lt_of_le hK.1 hs, Nat.lt_of_lt_of_le hK.2.1 hs, hK.2.2.trans hb⟩⟩
theorem keep12_kp {n1 n2 : Nat} {x0 y0 y1 : Value} {W u : World} (h : u.cell? ⟨n1, 0, none⟩ = some x0 ∧ u.cell? ⟨n2, 0, none⟩ = some y0 ∧ u.cell? ⟨n2, 1, none⟩ = some y1 ∧ Kp W n1 n2 u) : Kp W n1 n2 u := h.2.2.2

theorem keep11 {n1 n2 : Nat} {x0 y0 : Value} {W u v : World} (hb : Below u.heap.size u v) (h : u.cell? ⟨n1, 0, none⟩ = some x0 ∧ u.cell? ⟨n2, 0, none⟩ = some y0 ∧ Kp W n1 n2 u) : v.cell? ⟨n1, 0, none⟩ = some x0 ∧ v.cell? ⟨n2, 0, none⟩ = some y0 ∧ Kp W n1 n2 v := by
  obtain ⟨h0, h1, hK⟩ := h
  exact ⟨(hb.cell (p := ⟨n1, 0, none⟩) hK.1).trans h0, (hb.cell (p := ⟨n2, 0, none⟩) hK.2.1).trans h1, hK.below hb⟩
theorem keep11_set {n1 n2 g : Nat} {x0 y0 a : Value} {W u : World} (h : u.cell? ⟨n1, 0, none⟩ = some x0 ∧ u.cell? ⟨n2, 0, none⟩ = some y0 ∧ Kp W n1 n2 u) (hn1 : n1 < W.heap.size) (hn2 : n2 < W.heap.size) (hg : W.heap.size ≤ g) : (u.setCell ⟨g, 0, none⟩ a).cell? ⟨n1, 0, none⟩ = some x0 ∧ (u.setCell ⟨g, 0, none⟩ a).cell? ⟨n2, 0, none⟩ = some y0 ∧ Kp W n1 n2 (u.setCell ⟨g, 0, none⟩ a) := by
  have hb : Below W.heap.size u (u.setCell ⟨g, 0, none⟩ a) := (Below.refl _ _).setCell (p := ⟨g, 0, none⟩) hg _
  obtain ⟨h0, h1, hK⟩ := h
  have hs := hb.size
  exact ⟨(hb.cell (p := ⟨n1, 0, none⟩) hn1).trans h0, (hb.cell (p := ⟨n2, 0, none⟩) hn2).trans h1, ⟨Nat.lt_of_lt_of_le hK.1 hs, Nat.lt_of_lt_of_le hK.2.1 hs, hK.2.2.trans hb⟩⟩
theorem keep11_kp {n1 n2 : Nat} {x0 y0 : Value} {W u : World} (h : u.cell? ⟨n1, 0, none⟩ = some x0 ∧ u.cell? ⟨n2, 0, none⟩ = some y0 ∧ Kp W n1 n2 u) : Kp W n1 n2 u := h.2.2
end Go.Proofs.Ytjijichgoodocaa
