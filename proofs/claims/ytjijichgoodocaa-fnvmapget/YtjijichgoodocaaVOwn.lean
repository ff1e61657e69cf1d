/- Versions and objects that a call has made by appends: rows that it owns, and versions that it holds. -/
import Derived.Test.YtjijichgoodocaaVmMk
import Derived.RangeFuncBox
import Derived.Laws.OwnMore
import Derived.Lib.AppendZeros
namespace Go.Proofs.Ytjijichgoodocaa
open Go.RowKit

theorem infoVer : (Try.prog.info? 27).map (fun i => (i.zero, i.size, i.bytes)) = some (some (.agg #[.int .i64 0, .string ⟨#[]⟩, .bool false]), 3, 32) := by kernel_rfl
theorem infoObj : (Try.prog.info? 45).map (fun i => (i.zero, i.size, i.bytes)) = some (some (.agg #[.string ⟨#[]⟩, .slice none 0 0]), 2, 40) := by kernel_rfl
def verCells (v : VerD) : List Value := [.int .i64 v.id, .string v.text, .bool v.gone]
def objCells (o : ObjD) : List Value := [.string o.key, .slice o.at_ o.vers.length o.cap]
theorem vers_len (vs : List VerD) : (vs.flatMap verCells).length = vs.length * 3 := flat_len verCells 3 (fun _ => rfl) vs
theorem objs_len (vs : List ObjD) : (vs.flatMap objCells).length = vs.length * 2 := flat_len objCells 2 (fun _ => rfl) vs
theorem vers_one (vs : List VerD) : ∀ u ∈ vs.flatMap verCells, u.oneCell' = true := fun u hu => by
  obtain ⟨v, _, h⟩ := List.mem_flatMap.1 hu
  simp [verCells] at h
  rcases h with rfl | rfl | rfl <;> rfl
theorem obj_one (o : ObjD) : ∀ u ∈ objCells o, u.oneCell' = true := fun u h => by
  simp [objCells] at h
  rcases h with rfl | rfl <;> rfl
theorem objs_one (vs : List ObjD) : ∀ u ∈ vs.flatMap objCells, u.oneCell' = true := fun u hu => by
  obtain ⟨v, _, h⟩ := List.mem_flatMap.1 hu
  exact obj_one v u h
theorem ver_one (v : VerD) : ∀ u ∈ verCells v, u.oneCell' = true := fun u h => by
  simp [verCells] at h
  rcases h with rfl | rfl | rfl <;> rfl
theorem emptyVers {u : World} {B g : Nat} (h : u.heap[g]? = some (.cells #[] 27 (0, 0))) (hb : B ≤ g) : u.ownsRow B 27 3 (.slice (some ⟨g, 0, none⟩) 0 0) 0 [] :=
  ⟨by simp, .inr ⟨g, 0, #[], rfl, hb, h, Nat.le_refl _, Nat.zero_le _, by simp, by simp⟩⟩
theorem emptyObjs {u : World} {B g : Nat} (h : u.heap[g]? = some (.cells #[] 45 (0, 0))) (hb : B ≤ g) : u.ownsRow B 45 2 (.slice (some ⟨g, 0, none⟩) 0 0) 0 [] :=
  ⟨by simp, .inr ⟨g, 0, #[], rfl, hb, h, Nat.le_refl _, Nat.zero_le _, by simp, by simp⟩⟩
theorem newsObj (w : World) (o : ObjD) (ty : TypeId) (g : Nat) (hg : w.heap.size = g) : ∀ j u, (objCells o)[j]? = some u → (w.alloc (.cells #[.string o.key, .slice o.at_ o.vers.length o.cap] ty)).cell? ((⟨g, 0, none⟩ : Addr).add j) = some u := by
  subst hg
  exact World.news_of_block (heap_alloc_new w _)
theorem newsVer (w : World) (v : VerD) (ty : TypeId) (g : Nat) (hg : w.heap.size = g) : ∀ j u, (verCells v)[j]? = some u → (w.alloc (.cells #[.int .i64 v.id, .string v.text, .bool v.gone] ty)).cell? ((⟨g, 0, none⟩ : Addr).add j) = some u := by
  subst hg
  exact World.news_of_block (heap_alloc_new w _)
/-- The cells of a slice of versions, as an append takes them. -/
theorem vers_news {w : World} {b off : Nat} {vs : List VerD} (hc : ∀ i (h : i < vs.length), w.cell? ⟨b, off + i * 3, none⟩ = some (.int .i64 vs[i].id) ∧ w.cell? ⟨b, off + i * 3 + 1, none⟩ = some (.string vs[i].text) ∧ w.cell? ⟨b, off + i * 3 + 2, none⟩ = some (.bool vs[i].gone)) :
    ∀ j u, (vs.flatMap verCells)[j]? = some u → w.cell? ((⟨b, off, none⟩ : Addr).add j) = some u := fun j u hu => by
  have hadd : (⟨b, off, none⟩ : Addr).add j = ⟨b, off + j, none⟩ := by unfold Addr.add; split <;> simp_all
  have hl := vers_len vs
  have hj : j < vs.length * 3 := by
    rcases Nat.lt_or_ge j (vs.length * 3) with h | h
    · exact h
    · rw [List.getElem?_eq_none (by omega)] at hu; cases hu
  have hi : j / 3 < vs.length := by omega
  rw [hadd]
  have hat := flat_at verCells 3 (fun _ => rfl) vs (j / 3) (j % 3) hi (by omega)
  rw [show j / 3 * 3 + j % 3 = j by omega, hu] at hat
  have hm : j % 3 = 0 ∨ j % 3 = 1 ∨ j % 3 = 2 := by omega
  rcases hm with h0 | h0 | h0
  · rw [h0] at hat
    have := (hc (j / 3) hi).1
    rw [show off + j / 3 * 3 = off + j by omega] at this
    rw [this]; simpa [verCells] using hat.symm
  · rw [h0] at hat
    have := (hc (j / 3) hi).2.1
    rw [show off + j / 3 * 3 + 1 = off + j by omega] at this
    rw [this]; simpa [verCells] using hat.symm
  · rw [h0] at hat
    have := (hc (j / 3) hi).2.2
    rw [show off + j / 3 * 3 + 2 = off + j by omega] at this
    rw [this]; simpa [verCells] using hat.symm

/-- Whatever lies there lies in a block of versions. -/
def OfVer (w : World) (a : Option Addr) : Prop := ∀ b off, a = some ⟨b, off, none⟩ → ∃ c q, w.heap[b]? = some (.cells c 27 q)
theorem own_versH {w : World} {base : Nat} {v : Value} {vs : List VerD} (h : w.ownsRow base 27 3 v vs.length (vs.flatMap verCells)) :
    ∃ a cap, v = .slice a vs.length cap ∧ VersIn w a vs ∧ Free w a (vs.length * 3) ∧ Lies base w.heap.size a ∧ OfVer w a ∧ PlainV a vs cap := by
  have h' := h.2
  rcases Joins.ownsRow_forms h with ⟨rfl, h0⟩ | ⟨g, cap, rfl⟩
  · have : vs = [] := List.eq_nil_of_length_eq_zero h0
    subst this
    exact ⟨none, 0, rfl, .inl rfl, .inl rfl, (fun b off e => by cases e), (fun b off e => by cases e), .inr ⟨rfl, rfl, rfl⟩, Nat.le_refl _, Nat.zero_le _⟩
  · have hg := h.lt g rfl
    refine ⟨some ⟨g, 0, none⟩, cap, rfl, .inr ⟨g, 0, rfl, hg.2, fun i hi => ?_⟩, own_free h, (fun b off e => by cases e; exact hg), (fun b off e => by
      cases e
      rcases h' with ⟨e, _⟩ | ⟨g', c', cur, e, _, hh, _⟩
      · cases e
      · cases e; exact ⟨cur, _, hh⟩), .inl ⟨_, _, rfl⟩, ?_⟩
    case refine_2 =>
      rcases h' with ⟨e, _⟩ | ⟨g', c', cur, e, _, hh, q1, q2, _⟩
      · cases e
      · cases e; exact ⟨q1, q2⟩
    have e0 := h.cellAt (i * 3) (by omega)
    have e1 := h.cellAt (i * 3 + 1) (by omega)
    have e2 := h.cellAt (i * 3 + 2) (by omega)
    have f0 := flat_at verCells 3 (fun _ => rfl) vs i 0 hi (by omega)
    have f1 := flat_at verCells 3 (fun _ => rfl) vs i 1 hi (by omega)
    have f2 := flat_at verCells 3 (fun _ => rfl) vs i 2 hi (by omega)
    rw [Nat.add_zero] at f0
    simp only [Nat.zero_add]
    exact ⟨e0.trans f0, e1.trans f1, e2.trans f2⟩

theorem turned_of_grown {w w' : World} {row : Option Nat} (hg : w.grownBy w' row) : Turned (fun k => row = some k) w w' :=
  ⟨hg.os, hg.tape, hg.output, hg.size, fun k hk hn => hg.block k hk (fun e => hn e.symm)⟩
/-- Versions that the call holds for these objects. -/
structure HeldVs (w : World) (lo : Nat) (cs : List ObjD) : Prop where
  in2 : ∀ o ∈ cs, VersIn w o.at_ o.vers
  fr2 : ∀ o ∈ cs, Free w o.at_ (o.vers.length * 3)
  l2 : ∀ o ∈ cs, Lies lo w.heap.size o.at_
  ty : ∀ o ∈ cs, OfVer w o.at_
  ap2 : cs.Pairwise fun x y => Apart x.at_ y.at_
  pl : ∀ o ∈ cs, o.plain
theorem HeldVs.nil (w : World) (lo : Nat) : HeldVs w lo [] := ⟨(fun o h => by cases h), (fun o h => by cases h), (fun o h => by cases h), (fun o h => by cases h), .nil, (fun o h => by cases h)⟩
theorem HeldVs.turned {S : Nat → Prop} {w w' : World} {lo : Nat} {cs : List ObjD} (h : HeldVs w lo cs) (hS : ∀ o ∈ cs, OffS S o.at_) (ht : Turned S w w') : HeldVs w' lo cs :=
  ⟨fun o ho => (h.in2 o ho).turned (hS o ho) ht, fun o ho => (h.fr2 o ho).turned (hS o ho) ht, fun o ho => (h.l2 o ho).mono (Nat.le_refl _) ht.size, fun o ho b off e => by
    obtain ⟨c, q, hc⟩ := h.ty o ho b off e
    exact ⟨c, q, (ht.block b (h.l2 o ho b off e).2 (hS o ho b off e)).trans hc⟩, h.ap2, h.pl⟩
theorem HeldVs.below {w w' : World} {lo : Nat} {cs : List ObjD} (h : HeldVs w lo cs) (hb : Below w.heap.size w w') : HeldVs w' lo cs :=
  h.turned (S := fun _ => False) (fun _ _ _ _ _ q => q) ((Turned.of_below hb).mono (fun _ _ q => q))
theorem HeldVs.grown {w w' : World} {lo : Nat} {row : Option Nat} {cs : List ObjD} (h : HeldVs w lo cs) (hg : w.grownBy w' row) (hr : ∀ b, row = some b → ∀ c q, w.heap[b]? ≠ some (.cells c 27 q)) : HeldVs w' lo cs :=
  h.turned (fun o ho b off e k => by
    obtain ⟨c, q, hc⟩ := h.ty o ho b off e
    exact hr b k c q hc) (turned_of_grown hg)
theorem HeldVs.lower {w : World} {lo lo' : Nat} {cs : List ObjD} (h : HeldVs w lo cs) (hl : lo' ≤ lo) : HeldVs w lo' cs := ⟨h.in2, h.fr2, fun o ho => (h.l2 o ho).mono hl (Nat.le_refl _), h.ty, h.ap2, h.pl⟩
theorem objRow_not_ver {w : World} {base k : Nat} {v : Value} {xs : List Value} (h : w.ownsRow base 45 2 v k xs) : ∀ b, v.ownBlock = some b → ∀ c q, w.heap[b]? ≠ some (.cells c 27 q) := fun b e c q hc => by
  rcases h.2 with ⟨rfl, _⟩ | ⟨g, cap, cur, rfl, _, hh, _⟩
  · simp [Value.ownBlock] at e
  · obtain rfl : g = b := by simpa [Value.ownBlock] using e
    rw [hh] at hc
    injection hc with hc
    injection hc with _ hc _
    exact absurd hc (by decide)
theorem boxed_not_ver {w : World} {B : Nat} {t : TypeId} {u : Value} (h : Boxed w B t u) (ht : t ≠ 27) : ∀ b, (some B : Option Nat) = some b → ∀ c q, w.heap[b]? ≠ some (.cells c 27 q) := fun b e c q hc => by
  cases e
  rw [show w.heap[B]? = _ from h] at hc
  injection hc with hc
  injection hc with _ hc _
  exact ht hc
/-- One more. -/
theorem HeldVs.push {w w' : World} {lo : Nat} {cs : List ObjD} (h : HeldVs w lo cs) (hb : Below w.heap.size w w') (o : ObjD) (h1 : VersIn w' o.at_ o.vers) (h2 : Free w' o.at_ (o.vers.length * 3)) (h3 : Lies w.heap.size w'.heap.size o.at_) (h4 : OfVer w' o.at_) (h5 : o.plain) (hlo : lo ≤ w.heap.size) : HeldVs w' lo (cs ++ [o]) := by
  have h' := h.below hb
  have hm : ∀ {P : ObjD → Prop}, (∀ c ∈ cs, P c) → P o → ∀ c ∈ cs ++ [o], P c := fun p q c hc => by
    rcases List.mem_append.1 hc with hc | hc
    · exact p c hc
    · rw [List.mem_singleton] at hc; subst hc; exact q
  refine ⟨hm h'.in2 h1, hm h'.fr2 h2, hm h'.l2 (h3.mono hlo (Nat.le_refl _)), hm h'.ty h4, ?_, hm h'.pl h5⟩
  rw [List.pairwise_append]
  refine ⟨h.ap2, List.pairwise_singleton _ _, fun x hx y hy => ?_⟩
  rw [List.mem_singleton] at hy; subst hy
  intro x1 o1 y1 p1 e1 e2
  have q1 := (h.l2 x hx _ _ e1).2
  have q2 := (h3 _ _ e2).1
  omega
/-- A row of objects that the call owns, with the versions that it holds, is a map of its own. -/
theorem vmAt_own {w : World} {base lo : Nat} {v : Value} {cs : List ObjD} (h : w.ownsRow base 45 2 v cs.length (cs.flatMap objCells)) (hv : HeldVs w lo cs) (hb : lo ≤ base) :
    ∃ a cap, v = .slice a cs.length cap ∧ VmAt w lo w.heap.size a cs := by
  have hty := objRow_not_ver h
  rcases Joins.ownsRow_forms h with ⟨rfl, h0⟩ | ⟨g, cap, rfl⟩
  · have : cs = [] := List.eq_nil_of_length_eq_zero h0
    subst this
    exact ⟨none, 0, rfl, VmAt.nil _ _ _ (Nat.le_refl _)⟩
  · have hg := h.lt g rfl
    refine ⟨some ⟨g, 0, none⟩, cap, rfl, .inr ⟨g, 0, rfl, hg.2, fun i hi => ?_⟩, own_free h, (fun b off e => by cases e; exact ⟨Nat.le_trans hb hg.1, hg.2⟩), Nat.le_refl _, hv.fr2, hv.l2, fun o ho x p y q e1 e2 exy => ?_, hv.ap2, hv.pl⟩
    · have e0 := h.cellAt (i * 2) (by omega)
      have e1 := h.cellAt (i * 2 + 1) (by omega)
      have f0 := flat_at objCells 2 (fun _ => rfl) cs i 0 hi (by omega)
      have f1 := flat_at objCells 2 (fun _ => rfl) cs i 1 hi (by omega)
      rw [Nat.add_zero] at f0
      simp only [Nat.zero_add]
      exact ⟨e0.trans f0, e1.trans f1, hv.in2 _ (List.getElem_mem hi)⟩
    · cases e1
      subst exy
      obtain ⟨c, q', hc⟩ := hv.ty o ho _ _ e2
      exact hty g rfl c q' hc
end Go.Proofs.Ytjijichgoodocaa
