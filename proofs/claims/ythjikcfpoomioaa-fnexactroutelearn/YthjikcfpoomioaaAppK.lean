/- 'out = append(out, more...)', both owned by the call, more with no element perhaps: one law. -/
import Derived.Test.YthjikcfpoomioaaRaS
import Derived.Lib.AppendZeros
import Derived.Laws.OwnMore
namespace Go.Proofs.Ythjikcfpoomioaa
open Go.RowKit

set_option maxRecDepth 100000 in
theorem run_append_row {w : World} (base b2 : Nat) (t ty : TypeId) (ht : Try.prog.underlying t = some (.slice 48)) (v : Value) (n : Nat) (xs : List Value) (hown : w.ownsRow base 48 4 v n xs)
    (y : Value) (m : Nat) (news : List Value) (hy : w.ownsRow b2 48 4 y m news) (h1 : ∀ u ∈ news, u.oneCell' = true) (hnm : n + m ≤ 2097152) (hbase : base ≤ w.heap.size) :
    ∃ v' w', (Builtin.append_ #[t, t] ty #[v, y]).run Try.prog w = .ok v' w' ∧ w'.ownsRow base 48 4 v' (n + m) (xs ++ news) ∧ w.grownBy w' v.ownBlock ∧ (v'.ownBlock = v.ownBlock ∨ v'.ownBlock = some w.heap.size) := by
  obtain ⟨i0, hi0, hz0, hz1, hz2⟩ := info_parts infoKnown
  have hl := hy.1
  rcases hy.2 with ⟨rfl, rfl⟩ | ⟨g, cap, cur, rfl, hb, hg, hmc, hcm, hcs, htk⟩
  · have : news = [] := List.eq_nil_of_length_eq_zero (by omega)
    subst this
    exact ⟨v, w, run_append_owned_none (P := Try.prog) w base t ty 48 i0 4 ht hi0 v n xs hown, by simpa using hown, World.grownBy.refl _ _, .inl rfl⟩
  · obtain ⟨v', w', hr, h2, h3, _, h5⟩ := run_append_own_at (P := Try.prog) w base t ty 48 i0 (.agg #[.string ⟨#[]⟩, .string ⟨#[]⟩, .int .i64 0, .int .i64 0]) 4 48 ht hi0 hz0 hz1 hz2 rfl (by omega) v n xs hown ⟨g, 0, none⟩ m cap news hl
      (fun j u hu => by
        have hj : j < news.length := by
          rcases Nat.lt_or_ge j news.length with h | h
          · exact h
          · rw [List.getElem?_eq_none h] at hu; cases hu
        have := hy.cellAt j (by omega)
        rw [← hu, ← this]
        congr 1
        cases j <;> simp [Addr.add]) h1 (by unfold maxLen; omega) (by omega) hbase
    exact ⟨v', w', hr, h2, h3, h5⟩

theorem wpList_append_row {w : World} {ops : Array Oper} {rest : List Oper} {o : Oper} {a : Act} {Q : Exit → Act → World → Prop} (hgd : o.guard = none) (s x : Operand) (t : TypeId)
    (ho : o.op = .call { callee := .builtin .append, args := #[s, x], argTypes := #[t, t] }) (ht : Try.prog.underlying t = some (.slice 48))
    (base b2 : Nat) (v : Value) (n : Nat) (xs : List Value) (hs : a.eval s = v) (hown : w.ownsRow base 48 4 v n xs)
    (y : Value) (m : Nat) (news : List Value) (hx : a.eval x = y) (hy : w.ownsRow b2 48 4 y m news) (h1 : ∀ u ∈ news, u.oneCell' = true) (hnm : n + m ≤ 2097152) (hbase : base ≤ w.heap.size)
    (h : ∀ v' w', w'.ownsRow base 48 4 v' (n + m) (xs ++ news) → w.grownBy w' v.ownBlock → (v'.ownBlock = v.ownBlock ∨ v'.ownBlock = some w.heap.size) → wpList Try.prog ops Q rest (a.put o.dst v') w') : wpList Try.prog ops Q (o :: rest) a w := by
  obtain ⟨v', w', hr, h2, h3, h4⟩ := run_append_row base b2 t o.type ht v n xs hown y m news hy h1 hnm hbase
  exact Lib.wpList_append_run w hgd s x t t ho v y hs hx v' w' hr (h v' w' h2 h3 h4)

set_option maxRecDepth 100000 in
/-- The source by its cells; with no element too; what is not nil stays so. -/
theorem run_append_any {w : World} (base : Nat) (t ty : TypeId) (ht : Try.prog.underlying t = some (.slice 48)) (v : Value) (n : Nat) (xs : List Value) (hown : w.ownsRow base 48 4 v n xs)
    (ad : Addr) (m c : Nat) (news : List Value) (hl : news.length = m * 4) (hnews : ∀ j u, news[j]? = some u → w.cell? (ad.add j) = some u) (h1 : ∀ u ∈ news, u.oneCell' = true) (hnm : n + m ≤ 2097152) (hbase : base ≤ w.heap.size) (hv : v ≠ .slice none 0 0) :
    ∃ g cap w', (Builtin.append_ #[t, t] ty #[v, .slice (some ad) m c]).run Try.prog w = .ok (.slice (some ⟨g, 0, none⟩) (n + m) cap) w' ∧ w'.ownsRow base 48 4 (.slice (some ⟨g, 0, none⟩) (n + m) cap) (n + m) (xs ++ news) ∧ w.grownBy w' v.ownBlock := by
  obtain ⟨i0, hi0, hz0, hz1, hz2⟩ := info_parts infoKnown
  obtain ⟨v', w', hr, h2, h3, h4, h5⟩ := run_append_own_at (P := Try.prog) w base t ty 48 i0 (.agg #[.string ⟨#[]⟩, .string ⟨#[]⟩, .int .i64 0, .int .i64 0]) 4 48 ht hi0 hz0 hz1 hz2 rfl (by omega) v n xs hown ad m c news hl hnews h1 (by unfold maxLen; omega) (by omega) hbase
  rcases h2.2 with ⟨h0, _⟩ | ⟨g, cap, cur, rfl, _⟩
  · exact absurd (h4.1 h0).1 hv
  · exact ⟨g, cap, w', hr, h2, h3⟩

theorem wpList_append_any {w : World} {ops : Array Oper} {rest : List Oper} {o : Oper} {a : Act} {Q : Exit → Act → World → Prop} (hgd : o.guard = none) (s x : Operand) (t : TypeId)
    (ho : o.op = .call { callee := .builtin .append, args := #[s, x], argTypes := #[t, t] }) (ht : Try.prog.underlying t = some (.slice 48))
    (base : Nat) (v : Value) (n : Nat) (xs : List Value) (hs : a.eval s = v) (hown : w.ownsRow base 48 4 v n xs)
    (ad : Addr) (m c : Nat) (news : List Value) (hx : a.eval x = .slice (some ad) m c) (hl : news.length = m * 4) (hnews : ∀ j u, news[j]? = some u → w.cell? (ad.add j) = some u) (h1 : ∀ u ∈ news, u.oneCell' = true) (hnm : n + m ≤ 2097152) (hbase : base ≤ w.heap.size) (hv : v ≠ .slice none 0 0)
    (h : ∀ g cap w', w'.ownsRow base 48 4 (.slice (some ⟨g, 0, none⟩) (n + m) cap) (n + m) (xs ++ news) → w.grownBy w' v.ownBlock → wpList Try.prog ops Q rest (a.put o.dst (.slice (some ⟨g, 0, none⟩) (n + m) cap)) w') : wpList Try.prog ops Q (o :: rest) a w := by
  obtain ⟨g, cap, w', hr, h2, h3⟩ := run_append_any base t o.type ht v n xs hown ad m c news hl hnews h1 hnm hbase hv
  exact Lib.wpList_append_run w hgd s x t t ho v _ hs hx _ w' hr (h g cap w' h2 h3)
theorem step_append_any {w : World} {ops : Array Oper} {o : Oper} {a : Act} {K : Act → World → Prop} {Q : Exit → Act → World → Prop} {E : Prop} (hgd : o.guard = none) (s x : Operand) (t : TypeId)
    (ho : o.op = .call { callee := .builtin .append, args := #[s, x], argTypes := #[t, t] }) (ht : Try.prog.underlying t = some (.slice 48))
    (base : Nat) (v : Value) (n : Nat) (xs : List Value) (hs : a.eval s = v) (hown : w.ownsRow base 48 4 v n xs)
    (ad : Addr) (m c : Nat) (news : List Value) (hx : a.eval x = .slice (some ad) m c) (hl : news.length = m * 4) (hnews : ∀ j u, news[j]? = some u → w.cell? (ad.add j) = some u) (h1 : ∀ u ∈ news, u.oneCell' = true) (hnm : n + m ≤ 2097152) (hbase : base ≤ w.heap.size) (hv : v ≠ .slice none 0 0)
    (h : ∀ g cap w', w'.ownsRow base 48 4 (.slice (some ⟨g, 0, none⟩) (n + m) cap) (n + m) (xs ++ news) → w.grownBy w' v.ownBlock → K (a.put o.dst (.slice (some ⟨g, 0, none⟩) (n + m) cap)) w') :
    if Region.wanted o (yielded ops a.tmps) = true then Oper.wp Try.prog o a w K Q else E := by
  have hw : Region.wanted o (yielded ops a.tmps) = true := by simp [Region.wanted, hgd]
  rw [if_pos hw]
  obtain ⟨g, cap, w', hr, h2, h3⟩ := run_append_any base t o.type ht v n xs hown ad m c news hl hnews h1 hnm hbase hv
  exact Lib.wp_append_run w s x t t ho v _ hs hx _ w' hr (h g cap w' h2 h3)
theorem own_news {w : World} {B g m c : Nat} {vs : List KnownD} (h : w.ownsRow B 48 4 (.slice (some ⟨g, 0, none⟩) m c) m (vs.flatMap knownCells)) : ∀ j u, (vs.flatMap knownCells)[j]? = some u → w.cell? ((⟨g, 0, none⟩ : Addr).add j) = some u := fun j u hu => by
  have hj : j < (vs.flatMap knownCells).length := by
    rcases Nat.lt_or_ge j (vs.flatMap knownCells).length with h | h
    · exact h
    · rw [List.getElem?_eq_none h] at hu; cases hu
  have := h.cellAt j (by rw [← h.1]; exact hj)
  have e : (⟨g, 0, none⟩ : Addr).add j = ⟨g, j, none⟩ := by cases j <;> simp [Addr.add]
  rw [e, this]; exact hu
theorem own_some {w : World} {B n cap g : Nat} {xs : List Value} (h : w.ownsRow B 48 4 (.slice (some ⟨g, 0, none⟩) n cap) n xs) : n ≤ cap ∧ cap ≤ maxLen ∧ B ≤ g ∧ g < w.heap.size := by
  have hg := h.lt g rfl
  rcases h.2 with ⟨h0, _⟩ | ⟨g', cap', cur, he, _, _, h1, h2, _⟩
  · cases h0
  · cases he
    exact ⟨h1, h2, hg.1, hg.2⟩
theorem take_news {w : World} {b off : Nat} {vs : List KnownD} {m : Nat} (hm : m ≤ vs.length) (hc : ∀ j u, (vs.flatMap knownCells)[j]? = some u → w.cell? ((⟨b, off, none⟩ : Addr).add j) = some u) : ∀ j u, ((vs.take m).flatMap knownCells)[j]? = some u → w.cell? ((⟨b, off, none⟩ : Addr).add j) = some u := fun j u hu => by
  have e : vs.flatMap knownCells = (vs.take m).flatMap knownCells ++ (vs.drop m).flatMap knownCells := by rw [← List.flatMap_append, List.take_append_drop]
  have hj : j < ((vs.take m).flatMap knownCells).length := by
    rcases Nat.lt_or_ge j ((vs.take m).flatMap knownCells).length with h | h
    · exact h
    · rw [List.getElem?_eq_none h] at hu; cases hu
  exact hc j u (by rw [e, List.getElem?_append_left hj]; exact hu)
theorem drop_news {w : World} {b off : Nat} {vs : List KnownD} {m : Nat} (hm : m ≤ vs.length) (hc : ∀ j u, (vs.flatMap knownCells)[j]? = some u → w.cell? ((⟨b, off, none⟩ : Addr).add j) = some u) : ∀ j u, ((vs.drop m).flatMap knownCells)[j]? = some u → w.cell? ((⟨b, off + m * 4, none⟩ : Addr).add j) = some u := fun j u hu => by
  have e : vs.flatMap knownCells = (vs.take m).flatMap knownCells ++ (vs.drop m).flatMap knownCells := by rw [← List.flatMap_append, List.take_append_drop]
  have hl : ((vs.take m).flatMap knownCells).length = m * 4 := by rw [knowns_len, List.length_take]; congr 1; omega
  have := hc (m * 4 + j) u (by rw [e, List.getElem?_append_right (by omega), hl, Nat.add_sub_cancel_left]; exact hu)
  rw [← this]
  congr 1
  unfold Addr.add
  rcases j with _ | j
  · rcases m with _ | m
    · simp
    · simp
  · simp; omega
end Go.Proofs.Ythjikcfpoomioaa
