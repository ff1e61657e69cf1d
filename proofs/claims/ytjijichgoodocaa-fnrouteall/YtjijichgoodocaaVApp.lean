/- Versions and objects that a call has made by appends: rows that it owns, and versions that it holds. -/
import Derived.Test.YtjijichgoodocaaVmMk
import Derived.RangeFuncBox
import Derived.Laws.OwnMore
import Derived.Lib.AppendZeros
import Derived.Deep.AppendLies
import Derived.Maps.AppendAt
namespace Go.Proofs.Ytjijichgoodocaa
open Go.RowKit

theorem infoVer : (Try.prog.info? 27).map (fun i => (i.zero, i.size, i.bytes)) = some (some (.agg #[.int .i64 0, .string ⟨#[]⟩, .bool false]), 3, 32) := by kernel_rfl
theorem infoObj : (Try.prog.info? 45).map (fun i => (i.zero, i.size, i.bytes)) = some (some (.agg #[.string ⟨#[]⟩, .slice none 0 0]), 2, 40) := by kernel_rfl
def verCells (v : VerD) : List Value := [.int .i64 v.id, .string v.text, .bool v.gone]
def objCells (o : ObjD) : List Value := [.string o.key, .slice o.at_ o.vers.length o.cap]
theorem vers_len (vs : List VerD) : (vs.flatMap verCells).length = vs.length * 3 := flat_len verCells 3 (fun _ => rfl) vs
theorem objs_len (vs : List ObjD) : (vs.flatMap objCells).length = vs.length * 2 := flat_len objCells 2 (fun _ => rfl) vs
theorem vers_one (vs : List VerD) : ∀ u ∈ vs.flatMap verCells, u.oneCell' = true := fun u hu => by
  obtain ⟨v, _, h⟩ := List.mem_flatMap.1 hu
  simp [verCells] at h
  rcases h with rfl | rfl | rfl <;> rfl
theorem obj_one (o : ObjD) : ∀ u ∈ objCells o, u.oneCell' = true := fun u h => by
  simp [objCells] at h
  rcases h with rfl | rfl <;> rfl
theorem objs_one (vs : List ObjD) : ∀ u ∈ vs.flatMap objCells, u.oneCell' = true := fun u hu => by
  obtain ⟨v, _, h⟩ := List.mem_flatMap.1 hu
  exact obj_one v u h
theorem ver_one (v : VerD) : ∀ u ∈ verCells v, u.oneCell' = true := fun u h => by
  simp [verCells] at h
  rcases h with rfl | rfl | rfl <;> rfl
theorem emptyVers {u : World} {B g : Nat} (h : u.heap[g]? = some (.cells #[] 27 (0, 0))) (hb : B ≤ g) : u.ownsRow B 27 3 (.slice (some ⟨g, 0, none⟩) 0 0) 0 [] :=
  ⟨by simp, .inr ⟨g, 0, #[], rfl, hb, h, Nat.le_refl _, Nat.zero_le _, by simp, by simp⟩⟩
theorem emptyObjs {u : World} {B g : Nat} (h : u.heap[g]? = some (.cells #[] 45 (0, 0))) (hb : B ≤ g) : u.ownsRow B 45 2 (.slice (some ⟨g, 0, none⟩) 0 0) 0 [] :=
  ⟨by simp, .inr ⟨g, 0, #[], rfl, hb, h, Nat.le_refl _, Nat.zero_le _, by simp, by simp⟩⟩
theorem newsObj (w : World) (o : ObjD) (ty : TypeId) (g : Nat) (hg : w.heap.size = g) : ∀ j u, (objCells o)[j]? = some u → (w.alloc (.cells #[.string o.key, .slice o.at_ o.vers.length o.cap] ty)).cell? ((⟨g, 0, none⟩ : Addr).add j) = some u := by
  subst hg
  exact World.news_of_block (heap_alloc_new w _)
theorem newsVer (w : World) (v : VerD) (ty : TypeId) (g : Nat) (hg : w.heap.size = g) : ∀ j u, (verCells v)[j]? = some u → (w.alloc (.cells #[.int .i64 v.id, .string v.text, .bool v.gone] ty)).cell? ((⟨g, 0, none⟩ : Addr).add j) = some u := by
  subst hg
  exact World.news_of_block (heap_alloc_new w _)
/-- The cells of a slice of versions, as an append takes them. -/
theorem vers_news {w : World} {b off : Nat} {vs : List VerD} (hc : ∀ i (h : i < vs.length), w.cell? ⟨b, off + i * 3, none⟩ = some (.int .i64 vs[i].id) ∧ w.cell? ⟨b, off + i * 3 + 1, none⟩ = some (.string vs[i].text) ∧ w.cell? ⟨b, off + i * 3 + 2, none⟩ = some (.bool vs[i].gone)) :
    ∀ j u, (vs.flatMap verCells)[j]? = some u → w.cell? ((⟨b, off, none⟩ : Addr).add j) = some u := fun j u hu => by
  have hadd : (⟨b, off, none⟩ : Addr).add j = ⟨b, off + j, none⟩ := by unfold Addr.add; split <;> simp_all
  have hl := vers_len vs
  have hj : j < vs.length * 3 := by
    rcases Nat.lt_or_ge j (vs.length * 3) with h | h
    · exact h
    · rw [List.getElem?_eq_none (by omega)] at hu; cases hu
  have hi : j / 3 < vs.length := by omega
  rw [hadd]
  have hat := flat_at verCells 3 (fun _ => rfl) vs (j / 3) (j % 3) hi (by omega)
  rw [show j / 3 * 3 + j % 3 = j by omega, hu] at hat
  have hm : j % 3 = 0 ∨ j % 3 = 1 ∨ j % 3 = 2 := by omega
  rcases hm with h0 | h0 | h0
  · rw [h0] at hat
    have := (hc (j / 3) hi).1
    rw [show off + j / 3 * 3 = off + j by omega] at this
    rw [this]; simpa [verCells] using hat.symm
  · rw [h0] at hat
    have := (hc (j / 3) hi).2.1
    rw [show off + j / 3 * 3 + 1 = off + j by omega] at this
    rw [this]; simpa [verCells] using hat.symm
  · rw [h0] at hat
    have := (hc (j / 3) hi).2.2
    rw [show off + j / 3 * 3 + 2 = off + j by omega] at this
    rw [this]; simpa [verCells] using hat.symm

/-- Whatever lies there lies in a block of versions. -/
def OfVer (w : World) (a : Option Addr) : Prop := ∀ b off, a = some ⟨b, off, none⟩ → ∃ c q, w.heap[b]? = some (.cells c 27 q)
theorem own_versH {w : World} {base : Nat} {v : Value} {vs : List VerD} (h : w.ownsRow base 27 3 v vs.length (vs.flatMap verCells)) :
    ∃ a cap, v = .slice a vs.length cap ∧ VersIn w a vs ∧ Free w a (vs.length * 3) ∧ Lies base w.heap.size a ∧ OfVer w a ∧ PlainV a vs cap := by
  have h' := h.2
  rcases Joins.ownsRow_forms h with ⟨rfl, h0⟩ | ⟨g, cap, rfl⟩
  · have : vs = [] := List.eq_nil_of_length_eq_zero h0
    subst this
    exact ⟨none, 0, rfl, .inl rfl, .inl rfl, (fun b off e => by cases e), (fun b off e => by cases e), .inr ⟨rfl, rfl, rfl⟩, Nat.le_refl _, Nat.zero_le _⟩
  · have hg := h.lt g rfl
    refine ⟨some ⟨g, 0, none⟩, cap, rfl, .inr ⟨g, 0, rfl, hg.2, fun i hi => ?_⟩, own_free h, (fun b off e => by cases e; exact hg), (fun b off e => by
      cases e
      rcases h' with ⟨e, _⟩ | ⟨g', c', cur, e, _, hh, _⟩
      · cases e
      · cases e; exact ⟨cur, _, hh⟩), .inl ⟨_, _, rfl⟩, ?_⟩
    case refine_2 =>
      rcases h' with ⟨e, _⟩ | ⟨g', c', cur, e, _, hh, q1, q2, _⟩
      · cases e
      · cases e; exact ⟨q1, q2⟩
    have e0 := h.cellAt (i * 3) (by omega)
    have e1 := h.cellAt (i * 3 + 1) (by omega)
    have e2 := h.cellAt (i * 3 + 2) (by omega)
    have f0 := flat_at verCells 3 (fun _ => rfl) vs i 0 hi (by omega)
    have f1 := flat_at verCells 3 (fun _ => rfl) vs i 1 hi (by omega)
    have f2 := flat_at verCells 3 (fun _ => rfl) vs i 2 hi (by omega)
    rw [Nat.add_zero] at f0
    simp only [Nat.zero_add]
    exact ⟨e0.trans f0, e1.trans f1, e2.trans f2⟩

theorem turned_of_grown {w w' : World} {row : Option Nat} (hg : w.grownBy w' row) : Turned (fun k => row = some k) w w' :=
  ⟨hg.os, hg.tape, hg.output, hg.size, fun k hk hn => hg.block k hk (fun e => hn e.symm)⟩
/-- Versions that the call holds for these objects. -/
structure HeldVs (w : World) (lo : Nat) (cs : List ObjD) : Prop where
  in2 : ∀ o ∈ cs, VersIn w o.at_ o.vers
  fr2 : ∀ o ∈ cs, Free w o.at_ (o.vers.length * 3)
  l2 : ∀ o ∈ cs, Lies lo w.heap.size o.at_
  ty : ∀ o ∈ cs, OfVer w o.at_
  ap2 : cs.Pairwise fun x y => Apart x.at_ y.at_
  pl : ∀ o ∈ cs, o.plain
theorem HeldVs.nil (w : World) (lo : Nat) : HeldVs w lo [] := ⟨(fun o h => by cases h), (fun o h => by cases h), (fun o h => by cases h), (fun o h => by cases h), .nil, (fun o h => by cases h)⟩
theorem HeldVs.turned {S : Nat → Prop} {w w' : World} {lo : Nat} {cs : List ObjD} (h : HeldVs w lo cs) (hS : ∀ o ∈ cs, OffS S o.at_) (ht : Turned S w w') : HeldVs w' lo cs :=
  ⟨fun o ho => (h.in2 o ho).turned (hS o ho) ht, fun o ho => (h.fr2 o ho).turned (hS o ho) ht, fun o ho => (h.l2 o ho).mono (Nat.le_refl _) ht.size, fun o ho b off e => by
    obtain ⟨c, q, hc⟩ := h.ty o ho b off e
    exact ⟨c, q, (ht.block b (h.l2 o ho b off e).2 (hS o ho b off e)).trans hc⟩, h.ap2, h.pl⟩
theorem HeldVs.below {w w' : World} {lo : Nat} {cs : List ObjD} (h : HeldVs w lo cs) (hb : Below w.heap.size w w') : HeldVs w' lo cs :=
  h.turned (S := fun _ => False) (fun _ _ _ _ _ q => q) ((Turned.of_below hb).mono (fun _ _ q => q))
theorem HeldVs.grown {w w' : World} {lo : Nat} {row : Option Nat} {cs : List ObjD} (h : HeldVs w lo cs) (hg : w.grownBy w' row) (hr : ∀ b, row = some b → ∀ c q, w.heap[b]? ≠ some (.cells c 27 q)) : HeldVs w' lo cs :=
  h.turned (fun o ho b off e k => by
    obtain ⟨c, q, hc⟩ := h.ty o ho b off e
    exact hr b k c q hc) (turned_of_grown hg)
theorem HeldVs.lower {w : World} {lo lo' : Nat} {cs : List ObjD} (h : HeldVs w lo cs) (hl : lo' ≤ lo) : HeldVs w lo' cs := ⟨h.in2, h.fr2, fun o ho => (h.l2 o ho).mono hl (Nat.le_refl _), h.ty, h.ap2, h.pl⟩
theorem objRow_not_ver {w : World} {base k : Nat} {v : Value} {xs : List Value} (h : w.ownsRow base 45 2 v k xs) : ∀ b, v.ownBlock = some b → ∀ c q, w.heap[b]? ≠ some (.cells c 27 q) := fun b e c q hc => by
  rcases h.2 with ⟨rfl, _⟩ | ⟨g, cap, cur, rfl, _, hh, _⟩
  · simp [Value.ownBlock] at e
  · obtain rfl : g = b := by simpa [Value.ownBlock] using e
    rw [hh] at hc
    injection hc with hc
    injection hc with _ hc _
    exact absurd hc (by decide)
theorem boxed_not_ver {w : World} {B : Nat} {t : TypeId} {u : Value} (h : Boxed w B t u) (ht : t ≠ 27) : ∀ b, (some B : Option Nat) = some b → ∀ c q, w.heap[b]? ≠ some (.cells c 27 q) := fun b e c q hc => by
  cases e
  rw [show w.heap[B]? = _ from h] at hc
  injection hc with hc
  injection hc with _ hc _
  exact ht hc
/-- One more. -/
theorem HeldVs.push {w w' : World} {lo : Nat} {cs : List ObjD} (h : HeldVs w lo cs) (hb : Below w.heap.size w w') (o : ObjD) (h1 : VersIn w' o.at_ o.vers) (h2 : Free w' o.at_ (o.vers.length * 3)) (h3 : Lies w.heap.size w'.heap.size o.at_) (h4 : OfVer w' o.at_) (h5 : o.plain) (hlo : lo ≤ w.heap.size) : HeldVs w' lo (cs ++ [o]) := by
  have h' := h.below hb
  have hm : ∀ {P : ObjD → Prop}, (∀ c ∈ cs, P c) → P o → ∀ c ∈ cs ++ [o], P c := fun p q c hc => by
    rcases List.mem_append.1 hc with hc | hc
    · exact p c hc
    · rw [List.mem_singleton] at hc; subst hc; exact q
  refine ⟨hm h'.in2 h1, hm h'.fr2 h2, hm h'.l2 (h3.mono hlo (Nat.le_refl _)), hm h'.ty h4, ?_, hm h'.pl h5⟩
  rw [List.pairwise_append]
  refine ⟨h.ap2, List.pairwise_singleton _ _, fun x hx y hy => ?_⟩
  rw [List.mem_singleton] at hy; subst hy
  intro x1 o1 y1 p1 e1 e2
  have q1 := (h.l2 x hx _ _ e1).2
  have q2 := (h3 _ _ e2).1
  omega
/-- A row of objects that the call owns, with the versions that it holds, is a map of its own. -/
theorem vmAt_own {w : World} {base lo : Nat} {v : Value} {cs : List ObjD} (h : w.ownsRow base 45 2 v cs.length (cs.flatMap objCells)) (hv : HeldVs w lo cs) (hb : lo ≤ base) :
    ∃ a cap, v = .slice a cs.length cap ∧ VmAt w lo w.heap.size a cs := by
  have hty := objRow_not_ver h
  rcases Joins.ownsRow_forms h with ⟨rfl, h0⟩ | ⟨g, cap, rfl⟩
  · have : cs = [] := List.eq_nil_of_length_eq_zero h0
    subst this
    exact ⟨none, 0, rfl, VmAt.nil _ _ _ (Nat.le_refl _)⟩
  · have hg := h.lt g rfl
    refine ⟨some ⟨g, 0, none⟩, cap, rfl, .inr ⟨g, 0, rfl, hg.2, fun i hi => ?_⟩, own_free h, (fun b off e => by cases e; exact ⟨Nat.le_trans hb hg.1, hg.2⟩), Nat.le_refl _, hv.fr2, hv.l2, fun o ho x p y q e1 e2 exy => ?_, hv.ap2, hv.pl⟩
    · have e0 := h.cellAt (i * 2) (by omega)
      have e1 := h.cellAt (i * 2 + 1) (by omega)
      have f0 := flat_at objCells 2 (fun _ => rfl) cs i 0 hi (by omega)
      have f1 := flat_at objCells 2 (fun _ => rfl) cs i 1 hi (by omega)
      rw [Nat.add_zero] at f0
      simp only [Nat.zero_add]
      exact ⟨e0.trans f0, e1.trans f1, hv.in2 _ (List.getElem_mem hi)⟩
    · cases e1
      subst exy
      obtain ⟨c, q', hc⟩ := hv.ty o ho _ _ e2
      exact hty g rfl c q' hc
end Go.Proofs.Ytjijichgoodocaa

/- Versions put behind what a call owns; the map that it gathers in a box. -/
namespace Go.Proofs.Ytjijichgoodocaa
open Go.RowKit

set_option maxRecDepth 100000 in
/-- The source by its cells; with no element too. -/
theorem run_append_ver {w : World} (base : Nat) (t ty : TypeId) (ht : Try.prog.underlying t = some (.slice 27)) (v : Value) (n : Nat) (xs : List Value) (hown : w.ownsRow base 27 3 v n xs)
    (a : Option Addr) (vs : List VerD) (c : Nat) (hp : (∃ b off, a = some ⟨b, off, none⟩) ∨ a = none ∧ vs = [] ∧ c = 0) (hvs : VersIn w a vs) (hnm : n + vs.length ≤ 2097152) (hbase : base ≤ w.heap.size) (hv : v ≠ .slice none 0 0) :
    ∃ g cap w', (Builtin.append_ #[t, t] ty #[v, .slice a vs.length c]).run Try.prog w = .ok (.slice (some ⟨g, 0, none⟩) (n + vs.length) cap) w' ∧ w'.ownsRow base 27 3 (.slice (some ⟨g, 0, none⟩) (n + vs.length) cap) (n + vs.length) (xs ++ vs.flatMap verCells) ∧ w.grownBy w' v.ownBlock := by
  obtain ⟨i0, hi0, hz0, hz1, hz2⟩ := info_parts infoVer
  rcases hp with ⟨b, off, rfl⟩ | ⟨rfl, rfl, rfl⟩
  · have hnews : ∀ j u, (vs.flatMap verCells)[j]? = some u → w.cell? ((⟨b, off, none⟩ : Addr).add j) = some u := by
      rcases hvs with rfl | ⟨b', off', e, _, hc⟩
      · intro j u h; simp at h
      · cases e; exact vers_news hc
    obtain ⟨v', w', hr, h2, h3, h4, h5⟩ := run_append_own_at (P := Try.prog) w base t ty 27 i0 (.agg #[.int .i64 0, .string ⟨#[]⟩, .bool false]) 3 32 ht hi0 hz0 hz1 hz2 rfl (by omega) v n xs hown ⟨b, off, none⟩ vs.length c (vs.flatMap verCells) (vers_len vs) hnews (vers_one vs) (by unfold maxLen; omega) (by omega) hbase
    rcases h2.2 with ⟨h0, _⟩ | ⟨g, cap, cur, rfl, _⟩
    · exact absurd (h4.1 h0).1 hv
    · exact ⟨g, cap, w', hr, h2, h3⟩
  · rcases hown.2 with ⟨h0, _⟩ | ⟨g, cap, cur, rfl, _⟩
    · exact absurd h0 hv
    · exact ⟨g, cap, w, run_append_owned_none (P := Try.prog) w base t ty 27 i0 3 ht hi0 _ n xs hown, by simpa using hown, World.grownBy.refl _ _⟩
theorem step_append_ver {w : World} {ops : Array Oper} {o : Oper} {a : Act} {K : Act → World → Prop} {Q : Exit → Act → World → Prop} {E : Prop} (hgd : o.guard = none) (s x : Operand) (t : TypeId)
    (ho : o.op = .call { callee := .builtin .append, args := #[s, x], argTypes := #[t, t] }) (ht : Try.prog.underlying t = some (.slice 27))
    (base : Nat) (v : Value) (n : Nat) (xs : List Value) (hs : a.eval s = v) (hown : w.ownsRow base 27 3 v n xs)
    (p : Option Addr) (vs : List VerD) (c : Nat) (hx : a.eval x = .slice p vs.length c) (hp : (∃ b off, p = some ⟨b, off, none⟩) ∨ p = none ∧ vs = [] ∧ c = 0) (hvs : VersIn w p vs) (hnm : n + vs.length ≤ 2097152) (hbase : base ≤ w.heap.size) (hv : v ≠ .slice none 0 0)
    (h : ∀ g cap w', w'.ownsRow base 27 3 (.slice (some ⟨g, 0, none⟩) (n + vs.length) cap) (n + vs.length) (xs ++ vs.flatMap verCells) → w.grownBy w' v.ownBlock → K (a.put o.dst (.slice (some ⟨g, 0, none⟩) (n + vs.length) cap)) w') :
    if Region.wanted o (yielded ops a.tmps) = true then Oper.wp Try.prog o a w K Q else E := by
  have hw : Region.wanted o (yielded ops a.tmps) = true := by simp [Region.wanted, hgd]
  rw [if_pos hw]
  obtain ⟨g, cap, w', hr, h2, h3⟩ := run_append_ver base t o.type ht v n xs hown p vs c hp hvs hnm hbase hv
  exact Lib.wp_append_run w s x t t ho v _ hs hx _ w' hr (h g cap w' h2 h3)
theorem wpList_append_ver {w : World} {ops : Array Oper} {rest : List Oper} {o : Oper} {a : Act} {Q : Exit → Act → World → Prop} (hgd : o.guard = none) (s x : Operand) (t : TypeId)
    (ho : o.op = .call { callee := .builtin .append, args := #[s, x], argTypes := #[t, t] }) (ht : Try.prog.underlying t = some (.slice 27))
    (base : Nat) (v : Value) (n : Nat) (xs : List Value) (hs : a.eval s = v) (hown : w.ownsRow base 27 3 v n xs)
    (p : Option Addr) (vs : List VerD) (c : Nat) (hx : a.eval x = .slice p vs.length c) (hp : (∃ b off, p = some ⟨b, off, none⟩) ∨ p = none ∧ vs = [] ∧ c = 0) (hvs : VersIn w p vs) (hnm : n + vs.length ≤ 2097152) (hbase : base ≤ w.heap.size) (hv : v ≠ .slice none 0 0)
    (h : ∀ g cap w', w'.ownsRow base 27 3 (.slice (some ⟨g, 0, none⟩) (n + vs.length) cap) (n + vs.length) (xs ++ vs.flatMap verCells) → w.grownBy w' v.ownBlock → wpList Try.prog ops Q rest (a.put o.dst (.slice (some ⟨g, 0, none⟩) (n + vs.length) cap)) w') : wpList Try.prog ops Q (o :: rest) a w := by
  obtain ⟨g, cap, w', hr, h2, h3⟩ := run_append_ver base t o.type ht v n xs hown p vs c hp hvs hnm hbase hv
  exact Lib.wpList_append_run w hgd s x t t ho v _ hs hx _ w' hr (h g cap w' h2 h3)
theorem below_app {u w2 : World} {t : TypeId} (h : (u.alloc (.cells #[] t)).grownBy w2 (some u.heap.size)) : Below u.heap.size u w2 :=
  Below.grown ((Below.refl _ _).alloc (Nat.le_refl _) _) h (by simp) (fun j hj => by cases hj; exact Nat.le_refl _)

theorem own_neV {w : World} {B b : Nat} {e : TypeId} {size n : Nat} {v : Value} {xs : List Value} (h : w.ownsRow B e size v n xs) (hb : b < B ∨ w.heap.size ≤ b) : some b ≠ v.ownBlock := fun e => by
  have := h.lt b e.symm
  omega
/-- The map that a call gathers in box bo. -/
structure Gv (bo base : Nat) (wr : World) (cs : List ObjD) (v : Value) : Prop where
  box : Boxed wr bo 25 v
  own : wr.ownsRow base 45 2 v cs.length (cs.flatMap objCells)
  held : HeldVs wr base cs
theorem Gv.start {bo base : Nat} {w : World} (h : Boxed w bo 25 (.slice none 0 0)) : Gv bo base w [] (.slice none 0 0) := ⟨h, World.ownsRow_nil _ _ _ _, HeldVs.nil _ _⟩
theorem Gv.ne {bo base : Nat} {w : World} {cs : List ObjD} {v : Value} (h : Gv bo base w cs v) : some bo ≠ v.ownBlock := h.box.not_row (by decide) h.own
theorem Gv.below {bo base : Nat} {w w' : World} {cs : List ObjD} {v : Value} (h : Gv bo base w cs v) (hb : Below w.heap.size w w') : Gv bo base w' cs v :=
  ⟨(hb.block bo h.box.lt).trans h.box, Go.Proofs.Ytjijichgoodocaa.ownsRow_of_below h.own hb, h.held.below hb⟩
theorem Gv.kept {bo base : Nat} {w w' : World} {row : Option Nat} {cs : List ObjD} {v : Value} (h : Gv bo base w cs v) (hg : w.grownBy w' row) (hr : ∀ b, row = some b → ∃ o, w.heap[b]? = some o ∧ o.isCells = false) : Gv bo base w' cs v := by
  have hne : ∀ {b : Nat} {c : Array Value} {t : TypeId} {q : Nat × Nat}, w.heap[b]? = some (.cells c t q) → some b ≠ row := fun hc e => by
    obtain ⟨o, ho, hf⟩ := hr _ e.symm
    rw [hc] at ho; cases ho; cases hf
  refine ⟨h.box.kept hg (hne h.box), h.own.kept hg ?_, h.held.grown hg fun b e c q hc => hne hc e.symm⟩
  rcases h.own.2 with ⟨rfl, _⟩ | ⟨g, cap, cur, rfl, _, hgb, _⟩
  · exact .inl rfl
  · refine .inr fun e' => ?_
    exact hne hgb (by simpa [Value.ownBlock] using e')
/-- One object more: laid in a block of its own, put behind the row, the box turned. -/
theorem Gv.push {bo base : Nat} {wr w1 w2 : World} {cs : List ObjD} {v v' : Value} {tmp : Obj} {o : ObjD} (h : Gv bo base wr cs v) (hb : Below wr.heap.size wr w1) (hbase : base ≤ wr.heap.size)
    (h1 : VersIn w1 o.at_ o.vers) (h2 : Free w1 o.at_ (o.vers.length * 3)) (h3 : Lies wr.heap.size w1.heap.size o.at_) (h4 : OfVer w1 o.at_) (h5 : o.plain)
    (hown : w2.ownsRow base 45 2 v' (cs.length + 1) (cs.flatMap objCells ++ objCells o)) (hg : (w1.alloc tmp).grownBy w2 v.ownBlock) :
    Boxed w2 bo 25 v ∧ Gv bo base (w2.setCell ⟨bo, 0, none⟩ v') (cs ++ [o]) v' := by
  have hG1 : Gv bo base (w1.alloc tmp) cs v := (h.below hb).below ((Below.refl _ _).alloc (Nat.le_refl _) _)
  have hv2 : Boxed w2 bo 25 v := hG1.box.kept hg hG1.ne
  have hH : HeldVs w1 base (cs ++ [o]) := h.held.push hb o h1 h2 h3 h4 h5 hbase
  have hH2 : HeldVs w2 base (cs ++ [o]) := (hH.below ((Below.refl _ _).alloc (Nat.le_refl _) _)).grown hg (objRow_not_ver hG1.own)
  refine ⟨hv2, hv2.set v', ?_, hH2.grown (grownBy_setCell' w2 bo v') (boxed_not_ver hv2 (by decide))⟩
  have := hown.kept (grownBy_setCell' w2 bo v') (.inr (hv2.not_row (by decide) hown).symm)
  rw [List.length_append, List.flatMap_append]
  simpa using this
/-- Another box is turned. -/
theorem Gv.setOther {bo base r : Nat} {w : World} {cs : List ObjD} {v y : Value} (h : Gv bo base w cs v) (hr : Boxed w r 25 y) (hne : r ≠ bo) (x : Value) : Gv bo base (w.setCell ⟨r, 0, none⟩ x) cs v :=
  ⟨h.box.kept (grownBy_setCell' w r x) (fun e => by cases e; exact hne rfl), h.own.kept (grownBy_setCell' w r x) (.inr (hr.not_row (by decide) h.own).symm), h.held.grown (grownBy_setCell' w r x) (boxed_not_ver hr (by decide))⟩
theorem Gv.out {bo base lo : Nat} {w : World} {cs : List ObjD} {v : Value} (h : Gv bo base w cs v) (hb : lo ≤ base) : ∃ a cap, v = .slice a cs.length cap ∧ VmAt w lo w.heap.size a cs := vmAt_own h.own (h.held.lower hb) hb

theorem keepVm {b c d : Nat} {o00 o10 o20 o21 : Nat} {x00 x10 x20 x21 : Value} {u v : World} (hb : Below u.heap.size u v) (h : u.cell? ⟨b, o00, none⟩ = some x00 ∧ u.cell? ⟨c, o10, none⟩ = some x10 ∧ u.cell? ⟨d, o20, none⟩ = some x20 ∧ u.cell? ⟨d, o21, none⟩ = some x21 ∧ b < u.heap.size ∧ c < u.heap.size ∧ d < u.heap.size) : v.cell? ⟨b, o00, none⟩ = some x00 ∧ v.cell? ⟨c, o10, none⟩ = some x10 ∧ v.cell? ⟨d, o20, none⟩ = some x20 ∧ v.cell? ⟨d, o21, none⟩ = some x21 ∧ b < v.heap.size ∧ c < v.heap.size ∧ d < v.heap.size := by
  obtain ⟨h0, h1, h2, h3, lb, lc, ld⟩ := h
  exact ⟨(hb.cell (p := ⟨b, o00, none⟩) lb).trans h0, (hb.cell (p := ⟨c, o10, none⟩) lc).trans h1, (hb.cell (p := ⟨d, o20, none⟩) ld).trans h2, (hb.cell (p := ⟨d, o21, none⟩) ld).trans h3, Nat.lt_of_lt_of_le lb hb.size, Nat.lt_of_lt_of_le lc hb.size, Nat.lt_of_lt_of_le ld hb.size⟩
theorem keepVm_alloc {b c d : Nat} {o00 o10 o20 o21 : Nat} {x00 x10 x20 x21 : Value} {u : World} {o : Obj} (h : u.cell? ⟨b, o00, none⟩ = some x00 ∧ u.cell? ⟨c, o10, none⟩ = some x10 ∧ u.cell? ⟨d, o20, none⟩ = some x20 ∧ u.cell? ⟨d, o21, none⟩ = some x21 ∧ b < u.heap.size ∧ c < u.heap.size ∧ d < u.heap.size) : (u.alloc o).cell? ⟨b, o00, none⟩ = some x00 ∧ (u.alloc o).cell? ⟨c, o10, none⟩ = some x10 ∧ (u.alloc o).cell? ⟨d, o20, none⟩ = some x20 ∧ (u.alloc o).cell? ⟨d, o21, none⟩ = some x21 ∧ b < (u.alloc o).heap.size ∧ c < (u.alloc o).heap.size ∧ d < (u.alloc o).heap.size := keepVm ((Below.refl _ _).alloc (Nat.le_refl _) _) h
theorem keepVm_allocD {b c d : Nat} {o00 o10 o20 o21 : Nat} {x00 x10 x20 x21 : Value} {u : World} {o : Obj} (h : u.drew.cell? ⟨b, o00, none⟩ = some x00 ∧ u.drew.cell? ⟨c, o10, none⟩ = some x10 ∧ u.drew.cell? ⟨d, o20, none⟩ = some x20 ∧ u.drew.cell? ⟨d, o21, none⟩ = some x21 ∧ b < u.drew.heap.size ∧ c < u.drew.heap.size ∧ d < u.drew.heap.size) : (u.alloc o).drew.cell? ⟨b, o00, none⟩ = some x00 ∧ (u.alloc o).drew.cell? ⟨c, o10, none⟩ = some x10 ∧ (u.alloc o).drew.cell? ⟨d, o20, none⟩ = some x20 ∧ (u.alloc o).drew.cell? ⟨d, o21, none⟩ = some x21 ∧ b < (u.alloc o).drew.heap.size ∧ c < (u.alloc o).drew.heap.size ∧ d < (u.alloc o).drew.heap.size := keepVm_alloc (u := u) h
theorem keepVm_far {b c d : Nat} {o00 o10 o20 o21 : Nat} {x00 x10 x20 x21 : Value} {u v : World} {row : Option Nat} (hg : u.grownBy v row) (nb : some b ≠ row) (nc : some c ≠ row) (nd : some d ≠ row) (h : u.cell? ⟨b, o00, none⟩ = some x00 ∧ u.cell? ⟨c, o10, none⟩ = some x10 ∧ u.cell? ⟨d, o20, none⟩ = some x20 ∧ u.cell? ⟨d, o21, none⟩ = some x21 ∧ b < u.heap.size ∧ c < u.heap.size ∧ d < u.heap.size) : v.cell? ⟨b, o00, none⟩ = some x00 ∧ v.cell? ⟨c, o10, none⟩ = some x10 ∧ v.cell? ⟨d, o20, none⟩ = some x20 ∧ v.cell? ⟨d, o21, none⟩ = some x21 ∧ b < v.heap.size ∧ c < v.heap.size ∧ d < v.heap.size := by
  obtain ⟨h0, h1, h2, h3, lb, lc, ld⟩ := h
  exact ⟨(hg.cell_far ⟨b, o00, none⟩ lb nb).trans h0, (hg.cell_far ⟨c, o10, none⟩ lc nc).trans h1, (hg.cell_far ⟨d, o20, none⟩ ld nd).trans h2, (hg.cell_far ⟨d, o21, none⟩ ld nd).trans h3, Nat.lt_of_lt_of_le lb hg.size, Nat.lt_of_lt_of_le lc hg.size, Nat.lt_of_lt_of_le ld hg.size⟩
theorem keepV2 {c d : Nat} {o00 o10 o11 : Nat} {x00 x10 x11 : Value} {u v : World} (hb : Below u.heap.size u v) (h : u.cell? ⟨c, o00, none⟩ = some x00 ∧ u.cell? ⟨d, o10, none⟩ = some x10 ∧ u.cell? ⟨d, o11, none⟩ = some x11 ∧ c < u.heap.size ∧ d < u.heap.size) : v.cell? ⟨c, o00, none⟩ = some x00 ∧ v.cell? ⟨d, o10, none⟩ = some x10 ∧ v.cell? ⟨d, o11, none⟩ = some x11 ∧ c < v.heap.size ∧ d < v.heap.size := by
  obtain ⟨h0, h1, h2, lc, ld⟩ := h
  exact ⟨(hb.cell (p := ⟨c, o00, none⟩) lc).trans h0, (hb.cell (p := ⟨d, o10, none⟩) ld).trans h1, (hb.cell (p := ⟨d, o11, none⟩) ld).trans h2, Nat.lt_of_lt_of_le lc hb.size, Nat.lt_of_lt_of_le ld hb.size⟩
theorem keepV2_alloc {c d : Nat} {o00 o10 o11 : Nat} {x00 x10 x11 : Value} {u : World} {o : Obj} (h : u.cell? ⟨c, o00, none⟩ = some x00 ∧ u.cell? ⟨d, o10, none⟩ = some x10 ∧ u.cell? ⟨d, o11, none⟩ = some x11 ∧ c < u.heap.size ∧ d < u.heap.size) : (u.alloc o).cell? ⟨c, o00, none⟩ = some x00 ∧ (u.alloc o).cell? ⟨d, o10, none⟩ = some x10 ∧ (u.alloc o).cell? ⟨d, o11, none⟩ = some x11 ∧ c < (u.alloc o).heap.size ∧ d < (u.alloc o).heap.size := keepV2 ((Below.refl _ _).alloc (Nat.le_refl _) _) h
theorem keepV2_allocD {c d : Nat} {o00 o10 o11 : Nat} {x00 x10 x11 : Value} {u : World} {o : Obj} (h : u.drew.cell? ⟨c, o00, none⟩ = some x00 ∧ u.drew.cell? ⟨d, o10, none⟩ = some x10 ∧ u.drew.cell? ⟨d, o11, none⟩ = some x11 ∧ c < u.drew.heap.size ∧ d < u.drew.heap.size) : (u.alloc o).drew.cell? ⟨c, o00, none⟩ = some x00 ∧ (u.alloc o).drew.cell? ⟨d, o10, none⟩ = some x10 ∧ (u.alloc o).drew.cell? ⟨d, o11, none⟩ = some x11 ∧ c < (u.alloc o).drew.heap.size ∧ d < (u.alloc o).drew.heap.size := keepV2_alloc (u := u) h
theorem keepV2_far {c d : Nat} {o00 o10 o11 : Nat} {x00 x10 x11 : Value} {u v : World} {row : Option Nat} (hg : u.grownBy v row) (nc : some c ≠ row) (nd : some d ≠ row) (h : u.cell? ⟨c, o00, none⟩ = some x00 ∧ u.cell? ⟨d, o10, none⟩ = some x10 ∧ u.cell? ⟨d, o11, none⟩ = some x11 ∧ c < u.heap.size ∧ d < u.heap.size) : v.cell? ⟨c, o00, none⟩ = some x00 ∧ v.cell? ⟨d, o10, none⟩ = some x10 ∧ v.cell? ⟨d, o11, none⟩ = some x11 ∧ c < v.heap.size ∧ d < v.heap.size := by
  obtain ⟨h0, h1, h2, lc, ld⟩ := h
  exact ⟨(hg.cell_far ⟨c, o00, none⟩ lc nc).trans h0, (hg.cell_far ⟨d, o10, none⟩ ld nd).trans h1, (hg.cell_far ⟨d, o11, none⟩ ld nd).trans h2, Nat.lt_of_lt_of_le lc hg.size, Nat.lt_of_lt_of_le ld hg.size⟩
theorem keepV2_set {c d g : Nat} {o00 o10 o11 : Nat} {x00 x10 x11 y : Value} {u : World} (nc : c ≠ g) (nd : d ≠ g) (h : u.cell? ⟨c, o00, none⟩ = some x00 ∧ u.cell? ⟨d, o10, none⟩ = some x10 ∧ u.cell? ⟨d, o11, none⟩ = some x11 ∧ c < u.heap.size ∧ d < u.heap.size) : (u.setCell ⟨g, 0, none⟩ y).cell? ⟨c, o00, none⟩ = some x00 ∧ (u.setCell ⟨g, 0, none⟩ y).cell? ⟨d, o10, none⟩ = some x10 ∧ (u.setCell ⟨g, 0, none⟩ y).cell? ⟨d, o11, none⟩ = some x11 ∧ c < (u.setCell ⟨g, 0, none⟩ y).heap.size ∧ d < (u.setCell ⟨g, 0, none⟩ y).heap.size := by
  obtain ⟨h0, h1, h2, lc, ld⟩ := h
  have e : ∀ k, k ≠ g → ∀ o, (u.setCell ⟨g, 0, none⟩ y).cell? ⟨k, o, none⟩ = u.cell? ⟨k, o, none⟩ := fun k hk o => World.cell?_of_block (w := u) (a := ⟨k, o, none⟩) (Below.heap_setCell u ⟨g, 0, none⟩ y k hk)
  exact ⟨(e c nc _).trans h0, (e d nd _).trans h1, (e d nd _).trans h2, by simpa using lc, by simpa using ld⟩
end Go.Proofs.Ytjijichgoodocaa
