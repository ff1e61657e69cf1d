/- Versions put behind what a call owns; the map that it gathers in a box. -/
import Derived.Test.YtjijichgoodocaaVOwn
import Derived.Deep.AppendLies
import Derived.Maps.AppendAt
namespace Go.Proofs.Ytjijichgoodocaa
open Go.RowKit

set_option maxRecDepth 100000 in
/-- The source by its cells; with no element too. -/
theorem run_append_ver {w : World} (base : Nat) (t ty : TypeId) (ht : Try.prog.underlying t = some (.slice 27)) (v : Value) (n : Nat) (xs : List Value) (hown : w.ownsRow base 27 3 v n xs)
    (a : Option Addr) (vs : List VerD) (c : Nat) (hp : (∃ b off, a = some ⟨b, off, none⟩) ∨ a = none ∧ vs = [] ∧ c = 0) (hvs : VersIn w a vs) (hnm : n + vs.length ≤ 2097152) (hbase : base ≤ w.heap.size) (hv : v ≠ .slice none 0 0) :
    ∃ g cap w', (Builtin.append_ #[t, t] ty #[v, .slice a vs.length c]).run Try.prog w = .ok (.slice (some ⟨g, 0, none⟩) (n + vs.length) cap) w' ∧ w'.ownsRow base 27 3 (.slice (some ⟨g, 0, none⟩) (n + vs.length) cap) (n + vs.length) (xs ++ vs.flatMap verCells) ∧ w.grownBy w' v.ownBlock := by
  obtain ⟨i0, hi0, hz0, hz1, hz2⟩ := info_parts infoVer
  rcases hp with ⟨b, off, rfl⟩ | ⟨rfl, rfl, rfl⟩
  · have hnews : ∀ j u, (vs.flatMap verCells)[j]? = some u → w.cell? ((⟨b, off, none⟩ : Addr).add j) = some u := by
      rcases hvs with rfl | ⟨b', off', e, _, hc⟩
      · intro j u h; simp at h
      · cases e; exact vers_news hc
    obtain ⟨v', w', hr, h2, h3, h4, h5⟩ := run_append_own_at (P := Try.prog) w base t ty 27 i0 (.agg #[.int .i64 0, .string ⟨#[]⟩, .bool false]) 3 32 ht hi0 hz0 hz1 hz2 rfl (by omega) v n xs hown ⟨b, off, none⟩ vs.length c (vs.flatMap verCells) (vers_len vs) hnews (vers_one vs) (by unfold maxLen; omega) (by omega) hbase
    rcases h2.2 with ⟨h0, _⟩ | ⟨g, cap, cur, rfl, _⟩
    · exact absurd (h4.1 h0).1 hv
    · exact ⟨g, cap, w', hr, h2, h3⟩
  · rcases hown.2 with ⟨h0, _⟩ | ⟨g, cap, cur, rfl, _⟩
    · exact absurd h0 hv
    · exact ⟨g, cap, w, run_append_owned_none (P := Try.prog) w base t ty 27 i0 3 ht hi0 _ n xs hown, by simpa using hown, World.grownBy.refl _ _⟩
theorem step_append_ver {w : World} {ops : Array Oper} {o : Oper} {a : Act} {K : Act → World → Prop} {Q : Exit → Act → World → Prop} {E : Prop} (hgd : o.guard = none) (s x : Operand) (t : TypeId)
    (ho : o.op = .call { callee := .builtin .append, args := #[s, x], argTypes := #[t, t] }) (ht : Try.prog.underlying t = some (.slice 27))
    (base : Nat) (v : Value) (n : Nat) (xs : List Value) (hs : a.eval s = v) (hown : w.ownsRow base 27 3 v n xs)
    (p : Option Addr) (vs : List VerD) (c : Nat) (hx : a.eval x = .slice p vs.length c) (hp : (∃ b off, p = some ⟨b, off, none⟩) ∨ p = none ∧ vs = [] ∧ c = 0) (hvs : VersIn w p vs) (hnm : n + vs.length ≤ 2097152) (hbase : base ≤ w.heap.size) (hv : v ≠ .slice none 0 0)
    (h : ∀ g cap w', w'.ownsRow base 27 3 (.slice (some ⟨g, 0, none⟩) (n + vs.length) cap) (n + vs.length) (xs ++ vs.flatMap verCells) → w.grownBy w' v.ownBlock → K (a.put o.dst (.slice (some ⟨g, 0, none⟩) (n + vs.length) cap)) w') :
    if Region.wanted o (yielded ops a.tmps) = true then Oper.wp Try.prog o a w K Q else E := by
  have hw : Region.wanted o (yielded ops a.tmps) = true := by simp [Region.wanted, hgd]
  rw [if_pos hw]
  obtain ⟨g, cap, w', hr, h2, h3⟩ := run_append_ver base t o.type ht v n xs hown p vs c hp hvs hnm hbase hv
  exact Lib.wp_append_run w s x t t ho v _ hs hx _ w' hr (h g cap w' h2 h3)
theorem wpList_append_ver {w : World} {ops : Array Oper} {rest : List Oper} {o : Oper} {a : Act} {Q : Exit → Act → World → Prop} (hgd : o.guard = none) (s x : Operand) (t : TypeId)
    (ho : o.op = .call { callee := .builtin .append, args := #[s, x], argTypes := #[t, t] }) (ht : Try.prog.underlying t = some (.slice 27))
    (base : Nat) (v : Value) (n : Nat) (xs : List Value) (hs : a.eval s = v) (hown : w.ownsRow base 27 3 v n xs)
    (p : Option Addr) (vs : List VerD) (c : Nat) (hx : a.eval x = .slice p vs.length c) (hp : (∃ b off, p = some ⟨b, off, none⟩) ∨ p = none ∧ vs = [] ∧ c = 0) (hvs : VersIn w p vs) (hnm : n + vs.length ≤ 2097152) (hbase : base ≤ w.heap.size) (hv : v ≠ .slice none 0 0)
    (h : ∀ g cap w', w'.ownsRow base 27 3 (.slice (some ⟨g, 0, none⟩) (n + vs.length) cap) (n + vs.length) (xs ++ vs.flatMap verCells) → w.grownBy w' v.ownBlock → wpList Try.prog ops Q rest (a.put o.dst (.slice (some ⟨g, 0, none⟩) (n + vs.length) cap)) w') : wpList Try.prog ops Q (o :: rest) a w := by
  obtain ⟨g, cap, w', hr, h2, h3⟩ := run_append_ver base t o.type ht v n xs hown p vs c hp hvs hnm hbase hv
  exact Lib.wpList_append_run w hgd s x t t ho v _ hs hx _ w' hr (h g cap w' h2 h3)
theorem below_app {u w2 : World} {t : TypeId} (h : (u.alloc (.cells #[] t)).grownBy w2 (some u.heap.size)) : Below u.heap.size u w2 :=
  Below.grown ((Below.refl _ _).alloc (Nat.le_refl _) _) h (by simp) (fun j hj => by cases hj; exact Nat.le_refl _)

theorem own_neV {w : World} {B b : Nat} {e : TypeId} {size n : Nat} {v : Value} {xs : List Value} (h : w.ownsRow B e size v n xs) (hb : b < B ∨ w.heap.size ≤ b) : some b ≠ v.ownBlock := fun e => by
  have := h.lt b e.symm
  omega
/-- The map that a call gathers in box bo. -/
structure Gv (bo base : Nat) (wr : World) (cs : List ObjD) (v : Value) : Prop where
  box : Boxed wr bo 25 v
  own : wr.ownsRow base 45 2 v cs.length (cs.flatMap objCells)
  held : HeldVs wr base cs
theorem Gv.start {bo base : Nat} {w : World} (h : Boxed w bo 25 (.slice none 0 0)) : Gv bo base w [] (.slice none 0 0) := ⟨h, World.ownsRow_nil _ _ _ _, HeldVs.nil _ _⟩
theorem Gv.ne {bo base : Nat} {w : World} {cs : List ObjD} {v : Value} (h : Gv bo base w cs v) : some bo ≠ v.ownBlock := h.box.not_row (by decide) h.own
theorem Gv.below {bo base : Nat} {w w' : World} {cs : List ObjD} {v : Value} (h : Gv bo base w cs v) (hb : Below w.heap.size w w') : Gv bo base w' cs v :=
  ⟨(hb.block bo h.box.lt).trans h.box, Go.Proofs.Ytjijichgoodocaa.ownsRow_of_below h.own hb, h.held.below hb⟩
theorem Gv.kept {bo base : Nat} {w w' : World} {row : Option Nat} {cs : List ObjD} {v : Value} (h : Gv bo base w cs v) (hg : w.grownBy w' row) (hr : ∀ b, row = some b → ∃ o, w.heap[b]? = some o ∧ o.isCells = false) : Gv bo base w' cs v := by
  have hne : ∀ {b : Nat} {c : Array Value} {t : TypeId} {q : Nat × Nat}, w.heap[b]? = some (.cells c t q) → some b ≠ row := fun hc e => by
    obtain ⟨o, ho, hf⟩ := hr _ e.symm
    rw [hc] at ho; cases ho; cases hf
  refine ⟨h.box.kept hg (hne h.box), h.own.kept hg ?_, h.held.grown hg fun b e c q hc => hne hc e.symm⟩
  rcases h.own.2 with ⟨rfl, _⟩ | ⟨g, cap, cur, rfl, _, hgb, _⟩
  · exact .inl rfl
  · refine .inr fun e' => ?_
    exact hne hgb (by simpa [Value.ownBlock] using e')
/-- One object more: laid in a block of its own, put behind the row, the box turned. -/
theorem Gv.push {bo base : Nat} {wr w1 w2 : World} {cs : List ObjD} {v v' : Value} {tmp : Obj} {o : ObjD} (h : Gv bo base wr cs v) (hb : Below wr.heap.size wr w1) (hbase : base ≤ wr.heap.size)
    (h1 : VersIn w1 o.at_ o.vers) (h2 : Free w1 o.at_ (o.vers.length * 3)) (h3 : Lies wr.heap.size w1.heap.size o.at_) (h4 : OfVer w1 o.at_) (h5 : o.plain)
    (hown : w2.ownsRow base 45 2 v' (cs.length + 1) (cs.flatMap objCells ++ objCells o)) (hg : (w1.alloc tmp).grownBy w2 v.ownBlock) :
    Boxed w2 bo 25 v ∧ Gv bo base (w2.setCell ⟨bo, 0, none⟩ v') (cs ++ [o]) v' := by
  have hG1 : Gv bo base (w1.alloc tmp) cs v := (h.below hb).below ((Below.refl _ _).alloc (Nat.le_refl _) _)
  have hv2 : Boxed w2 bo 25 v := hG1.box.kept hg hG1.ne
  have hH : HeldVs w1 base (cs ++ [o]) := h.held.push hb o h1 h2 h3 h4 h5 hbase
  have hH2 : HeldVs w2 base (cs ++ [o]) := (hH.below ((Below.refl _ _).alloc (Nat.le_refl _) _)).grown hg (objRow_not_ver hG1.own)
  refine ⟨hv2, hv2.set v', ?_, hH2.grown (grownBy_setCell' w2 bo v') (boxed_not_ver hv2 (by decide))⟩
  have := hown.kept (grownBy_setCell' w2 bo v') (.inr (hv2.not_row (by decide) hown).symm)
  rw [List.length_append, List.flatMap_append]
  simpa using this
/-- Another box is turned. -/
theorem Gv.setOther {bo base r : Nat} {w : World} {cs : List ObjD} {v y : Value} (h : Gv bo base w cs v) (hr : Boxed w r 25 y) (hne : r ≠ bo) (x : Value) : Gv bo base (w.setCell ⟨r, 0, none⟩ x) cs v :=
  ⟨h.box.kept (grownBy_setCell' w r x) (fun e => by cases e; exact hne rfl), h.own.kept (grownBy_setCell' w r x) (.inr (hr.not_row (by decide) h.own).symm), h.held.grown (grownBy_setCell' w r x) (boxed_not_ver hr (by decide))⟩
theorem Gv.out {bo base lo : Nat} {w : World} {cs : List ObjD} {v : Value} (h : Gv bo base w cs v) (hb : lo ≤ base) : ∃ a cap, v = .slice a cs.length cap ∧ VmAt w lo w.heap.size a cs := vmAt_own h.own (h.held.lower hb) hb

theorem keepVm {b c d : Nat} {o00 o10 o20 o21 : Nat} {x00 x10 x20 x21 : Value} {u v : World} (hb : Below u.heap.size u v) (h : u.cell? ⟨b, o00, none⟩ = some x00 ∧ u.cell? ⟨c, o10, none⟩ = some x10 ∧ u.cell? ⟨d, o20, none⟩ = some x20 ∧ u.cell? ⟨d, o21, none⟩ = some x21 ∧ b < u.heap.size ∧ c < u.heap.size ∧ d < u.heap.size) : v.cell? ⟨b, o00, none⟩ = some x00 ∧ v.cell? ⟨c, o10, none⟩ = some x10 ∧ v.cell? ⟨d, o20, none⟩ = some x20 ∧ v.cell? ⟨d, o21, none⟩ = some x21 ∧ b < v.heap.size ∧ c < v.heap.size ∧ d < v.heap.size := by
  obtain ⟨h0, h1, h2, h3, lb, lc, ld⟩ := h
  exact ⟨(hb.cell (p := ⟨b, o00, none⟩) lb).trans h0, (hb.cell (p := ⟨c, o10, none⟩) lc).trans h1, (hb.cell (p := ⟨d, o20, none⟩) ld).trans h2, (hb.cell (p := ⟨d, o21, none⟩) ld).trans h3, Nat.lt_of_lt_of_le lb hb.size, Nat.lt_of_lt_of_le lc hb.size, Nat.lt_of_lt_of_le ld hb.size⟩
theorem keepVm_alloc {b c d : Nat} {o00 o10 o20 o21 : Nat} {x00 x10 x20 x21 : Value} {u : World} {o : Obj} (h : u.cell? ⟨b, o00, none⟩ = some x00 ∧ u.cell? ⟨c, o10, none⟩ = some x10 ∧ u.cell? ⟨d, o20, none⟩ = some x20 ∧ u.cell? ⟨d, o21, none⟩ = some x21 ∧ b < u.heap.size ∧ c < u.heap.size ∧ d < u.heap.size) : (u.alloc o).cell? ⟨b, o00, none⟩ = some x00 ∧ (u.alloc o).cell? ⟨c, o10, none⟩ = some x10 ∧ (u.alloc o).cell? ⟨d, o20, none⟩ = some x20 ∧ (u.alloc o).cell? ⟨d, o21, none⟩ = some x21 ∧ b < (u.alloc o).heap.size ∧ c < (u.alloc o).heap.size ∧ d < (u.alloc o).heap.size := keepVm ((Below.refl _ _).alloc (Nat.le_refl _) _) h
theorem keepVm_allocD {b c d : Nat} {o00 o10 o20 o21 : Nat} {x00 x10 x20 x21 : Value} {u : World} {o : Obj} (h : u.drew.cell? ⟨b, o00, none⟩ = some x00 ∧ u.drew.cell? ⟨c, o10, none⟩ = some x10 ∧ u.drew.cell? ⟨d, o20, none⟩ = some x20 ∧ u.drew.cell? ⟨d, o21, none⟩ = some x21 ∧ b < u.drew.heap.size ∧ c < u.drew.heap.size ∧ d < u.drew.heap.size) : (u.alloc o).drew.cell? ⟨b, o00, none⟩ = some x00 ∧ (u.alloc o).drew.cell? ⟨c, o10, none⟩ = some x10 ∧ (u.alloc o).drew.cell? ⟨d, o20, none⟩ = some x20 ∧ (u.alloc o).drew.cell? ⟨d, o21, none⟩ = some x21 ∧ b < (u.alloc o).drew.heap.size ∧ c < (u.alloc o).drew.heap.size ∧ d < (u.alloc o).drew.heap.size := keepVm_alloc (u := u) h
theorem keepVm_far {b c d : Nat} {o00 o10 o20 o21 : Nat} {x00 x10 x20 x21 : Value} {u v : World} {row : Option Nat} (hg : u.grownBy v row) (nb : some b ≠ row) (nc : some c ≠ row) (nd : some d ≠ row) (h : u.cell? ⟨b, o00, none⟩ = some x00 ∧ u.cell? ⟨c, o10, none⟩ = some x10 ∧ u.cell? ⟨d, o20, none⟩ = some x20 ∧ u.cell? ⟨d, o21, none⟩ = some x21 ∧ b < u.heap.size ∧ c < u.heap.size ∧ d < u.heap.size) : v.cell? ⟨b, o00, none⟩ = some x00 ∧ v.cell? ⟨c, o10, none⟩ = some x10 ∧ v.cell? ⟨d, o20, none⟩ = some x20 ∧ v.cell? ⟨d, o21, none⟩ = some x21 ∧ b < v.heap.size ∧ c < v.heap.size ∧ d < v.heap.size := by
  obtain ⟨h0, h1, h2, h3, lb, lc, ld⟩ := h
  exact ⟨(hg.cell_far ⟨b, o00, none⟩ lb nb).trans h0, (hg.cell_far ⟨c, o10, none⟩ lc nc).trans h1, (hg.cell_far ⟨d, o20, none⟩ ld nd).trans h2, (hg.cell_far ⟨d, o21, none⟩ ld nd).trans h3, Nat.lt_of_lt_of_le lb hg.size, Nat.lt_of_lt_of_le lc hg.size, Nat.lt_of_lt_of_le ld hg.size⟩
theorem keepV2 {c d : Nat} {o00 o10 o11 : Nat} {x00 x10 x11 : Value} {u v : World} (hb : Below u.heap.size u v) (h : u.cell? ⟨c, o00, none⟩ = some x00 ∧ u.cell? ⟨d, o10, none⟩ = some x10 ∧ u.cell? ⟨d, o11, none⟩ = some x11 ∧ c < u.heap.size ∧ d < u.heap.size) : v.cell? ⟨c, o00, none⟩ = some x00 ∧ v.cell? ⟨d, o10, none⟩ = some x10 ∧ v.cell? ⟨d, o11, none⟩ = some x11 ∧ c < v.heap.size ∧ d < v.heap.size := by
  obtain ⟨h0, h1, h2, lc, ld⟩ := h
  exact ⟨(hb.cell (p := ⟨c, o00, none⟩) lc).trans h0, (hb.cell (p := ⟨d, o10, none⟩) ld).trans h1, (hb.cell (p := ⟨d, o11, none⟩) ld).trans h2, Nat.lt_of_lt_of_le lc hb.size, Nat.lt_of_lt_of_le ld hb.size⟩
theorem keepV2_alloc {c d : Nat} {o00 o10 o11 : Nat} {x00 x10 x11 : Value} {u : World} {o : Obj} (h : u.cell? ⟨c, o00, none⟩ = some x00 ∧ u.cell? ⟨d, o10, none⟩ = some x10 ∧ u.cell? ⟨d, o11, none⟩ = some x11 ∧ c < u.heap.size ∧ d < u.heap.size) : (u.alloc o).cell? ⟨c, o00, none⟩ = some x00 ∧ (u.alloc o).cell? ⟨d, o10, none⟩ = some x10 ∧ (u.alloc o).cell? ⟨d, o11, none⟩ = some x11 ∧ c < (u.alloc o).heap.size ∧ d < (u.alloc o).heap.size := keepV2 ((Below.refl _ _).alloc (Nat.le_refl _) _) h
theorem keepV2_allocD {c d : Nat} {o00 o10 o11 : Nat} {x00 x10 x11 : Value} {u : World} {o : Obj} (h : u.drew.cell? ⟨c, o00, none⟩ = some x00 ∧ u.drew.cell? ⟨d, o10, none⟩ = some x10 ∧ u.drew.cell? ⟨d, o11, none⟩ = some x11 ∧ c < u.drew.heap.size ∧ d < u.drew.heap.size) : (u.alloc o).drew.cell? ⟨c, o00, none⟩ = some x00 ∧ (u.alloc o).drew.cell? ⟨d, o10, none⟩ = some x10 ∧ (u.alloc o).drew.cell? ⟨d, o11, none⟩ = some x11 ∧ c < (u.alloc o).drew.heap.size ∧ d < (u.alloc o).drew.heap.size := keepV2_alloc (u := u) h
theorem keepV2_far {c d : Nat} {o00 o10 o11 : Nat} {x00 x10 x11 : Value} {u v : World} {row : Option Nat} (hg : u.grownBy v row) (nc : some c ≠ row) (nd : some d ≠ row) (h : u.cell? ⟨c, o00, none⟩ = some x00 ∧ u.cell? ⟨d, o10, none⟩ = some x10 ∧ u.cell? ⟨d, o11, none⟩ = some x11 ∧ c < u.heap.size ∧ d < u.heap.size) : v.cell? ⟨c, o00, none⟩ = some x00 ∧ v.cell? ⟨d, o10, none⟩ = some x10 ∧ v.cell? ⟨d, o11, none⟩ = some x11 ∧ c < v.heap.size ∧ d < v.heap.size := by
  obtain ⟨h0, h1, h2, lc, ld⟩ := h
  exact ⟨(hg.cell_far ⟨c, o00, none⟩ lc nc).trans h0, (hg.cell_far ⟨d, o10, none⟩ ld nd).trans h1, (hg.cell_far ⟨d, o11, none⟩ ld nd).trans h2, Nat.lt_of_lt_of_le lc hg.size, Nat.lt_of_lt_of_le ld hg.size⟩
theorem keepV2_set {c d g : Nat} {o00 o10 o11 : Nat} {x00 x10 x11 y : Value} {u : World} (nc : c ≠ g) (nd : d ≠ g) (h : u.cell? ⟨c, o00, none⟩ = some x00 ∧ u.cell? ⟨d, o10, none⟩ = some x10 ∧ u.cell? ⟨d, o11, none⟩ = some x11 ∧ c < u.heap.size ∧ d < u.heap.size) : (u.setCell ⟨g, 0, none⟩ y).cell? ⟨c, o00, none⟩ = some x00 ∧ (u.setCell ⟨g, 0, none⟩ y).cell? ⟨d, o10, none⟩ = some x10 ∧ (u.setCell ⟨g, 0, none⟩ y).cell? ⟨d, o11, none⟩ = some x11 ∧ c < (u.setCell ⟨g, 0, none⟩ y).heap.size ∧ d < (u.setCell ⟨g, 0, none⟩ y).heap.size := by
  obtain ⟨h0, h1, h2, lc, ld⟩ := h
  have e : ∀ k, k ≠ g → ∀ o, (u.setCell ⟨g, 0, none⟩ y).cell? ⟨k, o, none⟩ = u.cell? ⟨k, o, none⟩ := fun k hk o => World.cell?_of_block (w := u) (a := ⟨k, o, none⟩) (Below.heap_setCell u ⟨g, 0, none⟩ y k hk)
  exact ⟨(e c nc _).trans h0, (e d nd _).trans h1, (e d nd _).trans h2, by simpa using lc, by simpa using ld⟩
end Go.Proofs.Ytjijichgoodocaa
