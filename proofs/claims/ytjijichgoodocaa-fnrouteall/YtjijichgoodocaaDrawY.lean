/- A map that was drawn: whatever it holds, it is small, and where it may be spoiled. -/
import Derived.Test.YtjijichgoodocaaDrawV
namespace Go.Proofs.Ytjijichgoodocaa
open Go.RowKit

structure Md (lo : Nat) (w : World) (a : Option Addr) (os : List ObjD) : Prop where
  inn : ObjsIn w a os
  fits : ∀ o ∈ os, o.fits
  pl : ∀ o ∈ os, o.plain
  len : os.length ≤ 20
  vl : ∀ o ∈ os, o.vers.length ≤ 20
  la : ∀ b o, a = some ⟨b, o, none⟩ → lo ≤ b
  l2 : ∀ x ∈ os, ∀ b o, x.at_ = some ⟨b, o, none⟩ → lo ≤ b
theorem Md.turned {S : Nat → Prop} {lo : Nat} {w u : World} {a : Option Addr} {os : List ObjD} (h : Md lo w a os) (ht : Turned S w u) (hS : ∀ b, S b → b < lo) : Md lo u a os :=
  ⟨h.inn.turned (fun b o e q => by have := h.la b o e; have := hS b q; omega) (fun x hx b o e q => by have := h.l2 x hx b o e; have := hS b q; omega) ht, h.fits, h.pl, h.len, h.vl, h.la, h.l2⟩
theorem Md.go {rb lo : Nat} {w u : World} {a : Option Addr} {os : List ObjD} (h : Md lo w a os) (ho : Only rb w u) (hrb : rb < lo) : Md lo u a os := h.turned ho.turned (fun b e => by omega)
theorem Md.below {lo : Nat} {w u : World} {a : Option Addr} {os : List ObjD} (h : Md lo w a os) (hb : Below w.heap.size w u) : Md lo u a os := ⟨h.inn.below hb, h.fits, h.pl, h.len, h.vl, h.la, h.l2⟩
theorem Md.set {lo : Nat} {w : World} {a : Option Addr} {os : List ObjD} (h : Md lo w a os) {p : Addr} (hp : p.block < lo) (x : Value) : Md lo (w.setCell p x) a os := h.turned (S := fun b => b = p.block) ((Turned.refl (fun b => b = p.block) w).setCell (p := p) rfl x) (fun b e => by omega)
theorem Md.lower {lo lo' : Nat} {w : World} {a : Option Addr} {os : List ObjD} (h : Md lo w a os) (hl : lo' ≤ lo) : Md lo' w a os := ⟨h.inn, h.fits, h.pl, h.len, h.vl, fun b o e => Nat.le_trans hl (h.la b o e), fun x hx b o e => Nat.le_trans hl (h.l2 x hx b o e)⟩
theorem Md.n {lo : Nat} {w : World} {a : Option Addr} {os : List ObjD} (h : Md lo w a os) : os.length ≤ 1048576 := Nat.le_trans h.len (by omega)
theorem Md.nm {lo : Nat} {w : World} {a : Option Addr} {os : List ObjD} (h : Md lo w a os) : os.length ≤ maxLen := Nat.le_trans h.len (by unfold maxLen; omega)
theorem Md.vn {lo : Nat} {w : World} {a : Option Addr} {os : List ObjD} (h : Md lo w a os) : ∀ o ∈ os, o.vers.length ≤ 1048576 := fun o ho => Nat.le_trans (h.vl o ho) (by omega)

/-- How an object may be read and written. -/
theorem VmAt.obj {w : World} {lo hi b off : Nat} {os : List ObjD} (h : VmAt w lo hi (some ⟨b, off, none⟩) os) {k : Nat} (hk : k < os.length) :
    lo ≤ b ∧ b < hi ∧ b < w.heap.size ∧ w.cell? ⟨b, off + k * 2, none⟩ = some (.string os[k].key) ∧ w.cell? ⟨b, off + k * 2 + 1, none⟩ = some (.slice os[k].at_ os[k].vers.length os[k].cap) ∧ w.frozen? ⟨b, off + k * 2, none⟩ = false ∧ w.frozen? ⟨b, off + k * 2 + 1, none⟩ = false := by
  have hl := h.l1 b off rfl
  have hle := h.le
  rcases h.in1 with rfl | ⟨b', off', e, hb, hc⟩
  · simp at hk
  cases e
  obtain ⟨c0, c1, _⟩ := hc k hk
  rcases h.fr1 with h0 | ⟨b', off', e, _, hq⟩
  · omega
  cases e
  exact ⟨hl.1, hl.2, hb, c0, c1, (hq (k * 2) (by omega)).2, by have := (hq (k * 2 + 1) (by omega)).2; rwa [← Nat.add_assoc] at this⟩
theorem VmAt.go {rb lo hi : Nat} {w u : World} {a : Option Addr} {os : List ObjD} (h : VmAt w lo hi a os) (hrb : rb < lo) (ho : Only rb w u) : VmAt u lo hi a os :=
  h.turned (S := fun b => b = rb) (fun b h1 _ e => by omega) ho.turned
theorem VmAt.ex {w : World} {lo hi : Nat} {a : Option Addr} {os : List ObjD} (h : VmAt w lo hi a os) (hn : 0 < os.length) : ∃ b off, a = some ⟨b, off, none⟩ := by
  rcases h.in1 with rfl | ⟨b', off', e, hb, hc⟩
  · simp at hn
  · exact ⟨_, _, e⟩

theorem setObj_in {w : World} {lo hi b off k : Nat} {os : List ObjD} (h : VmAt w lo hi (some ⟨b, off, none⟩) os) (hk : k < os.length) {u : World} {x : ObjD} (hs : w.heap.size ≤ u.heap.size)
    (h0 : u.cell? ⟨b, off + k * 2, none⟩ = some (.string x.key)) (h1 : u.cell? ⟨b, off + k * 2 + 1, none⟩ = some (.slice x.at_ x.vers.length x.cap)) (hx : VersIn u x.at_ x.vers)
    (hr : ∀ i (hi : i < os.length), i ≠ k → u.cell? ⟨b, off + i * 2, none⟩ = w.cell? ⟨b, off + i * 2, none⟩ ∧ u.cell? ⟨b, off + i * 2 + 1, none⟩ = w.cell? ⟨b, off + i * 2 + 1, none⟩ ∧ VersIn u os[i].at_ os[i].vers) :
    ObjsIn u (some ⟨b, off, none⟩) (os.set k x) := by
  refine .inr ⟨b, off, rfl, Nat.lt_of_lt_of_le (h.obj hk).2.2.1 hs, fun i hi => ?_⟩
  rw [List.length_set] at hi
  rw [List.getElem_set]
  by_cases e : k = i
  · subst e; rw [if_pos rfl]; exact ⟨h0, h1, hx⟩
  · rw [if_neg e]
    obtain ⟨e0, e1, e2⟩ := hr i hi (fun q => e q.symm)
    rw [e0, e1]
    exact ⟨(h.obj hi).2.2.2.1, (h.obj hi).2.2.2.2.1, e2⟩
theorem VmAt.vers {w : World} {lo hi : Nat} {a : Option Addr} {os : List ObjD} (h : VmAt w lo hi a os) {o : ObjD} (ho : o ∈ os) : VersIn w o.at_ o.vers := h.in1.mem ho
theorem VmAt.offB {w : World} {lo hi b off : Nat} {os : List ObjD} (h : VmAt w lo hi (some ⟨b, off, none⟩) os) {o : ObjD} (ho : o ∈ os) : OffS (fun k => k = b) o.at_ := fun b' o' e q => h.ap1 o ho b off b' o' rfl e q.symm

/-- Its key in place. -/
theorem VmAt.putKey {w : World} {lo hi b off k : Nat} {os : List ObjD} (h : VmAt w lo hi (some ⟨b, off, none⟩) os) (hk : k < os.length) (s : ByteArray) :
    ObjsIn (w.setCell ⟨b, off + k * 2, none⟩ (.string s)) (some ⟨b, off, none⟩) (os.set k ⟨s, os[k].at_, os[k].cap, os[k].vers⟩) := by
  obtain ⟨_, _, _, c0, c1, _, _⟩ := h.obj hk
  have ht : Turned (fun c => c = b) w (w.setCell ⟨b, off + k * 2, none⟩ (.string s)) := (Turned.refl (fun c => c = b) w).setCell (p := ⟨b, off + k * 2, none⟩) rfl _
  refine setObj_in h hk (by simp) (World.cell?_setCell_same _ _ _ c0) ?_ ((h.vers (List.getElem_mem hk)).turned (h.offB (List.getElem_mem hk)) ht) fun i hi hn => ⟨cell_offR (by omega), cell_offR (by omega), (h.vers (List.getElem_mem hi)).turned (h.offB (List.getElem_mem hi)) ht⟩
  rw [cell_offR (by omega)]; exact c1
/-- Its versions struck. -/
theorem VmAt.putNil {w : World} {lo hi b off k : Nat} {os : List ObjD} (h : VmAt w lo hi (some ⟨b, off, none⟩) os) (hk : k < os.length) :
    ObjsIn (w.setCell ⟨b, off + k * 2 + 1, none⟩ (.slice none 0 0)) (some ⟨b, off, none⟩) (os.set k ⟨os[k].key, none, 0, []⟩) := by
  obtain ⟨_, _, _, c0, c1, _, _⟩ := h.obj hk
  have ht : Turned (fun c => c = b) w (w.setCell ⟨b, off + k * 2 + 1, none⟩ (.slice none 0 0)) := (Turned.refl (fun c => c = b) w).setCell (p := ⟨b, off + k * 2 + 1, none⟩) rfl _
  refine setObj_in h hk (by simp) ?_ (World.cell?_setCell_same _ _ _ c1) (.inl rfl) fun i hi hn => ⟨cell_offR (by omega), cell_offR (by omega), (h.vers (List.getElem_mem hi)).turned (h.offB (List.getElem_mem hi)) ht⟩
  rw [cell_offR (by omega)]; exact c0

theorem VmAt.ver0 {w : World} {lo hi : Nat} {a : Option Addr} {os : List ObjD} (h : VmAt w lo hi a os) {k : Nat} (hk : k < os.length) (hv : 0 < os[k].vers.length) :
    ∃ b' o', os[k].at_ = some ⟨b', o', none⟩ ∧ lo ≤ b' ∧ b' < w.heap.size ∧ w.cell? ⟨b', o', none⟩ = some (.int .i64 os[k].vers[0].id) ∧ w.cell? ⟨b', o' + 1, none⟩ = some (.string os[k].vers[0].text) ∧ w.cell? ⟨b', o' + 2, none⟩ = some (.bool os[k].vers[0].gone) ∧ w.frozen? ⟨b', o', none⟩ = false ∧ w.frozen? ⟨b', o' + 1, none⟩ = false ∧ w.frozen? ⟨b', o' + 2, none⟩ = false := by
  have hm := List.getElem_mem hk
  rcases h.vers hm with e | ⟨b', o', e, hb, hc⟩
  · rw [e] at hv; simp at hv
  have hl := h.l2 _ hm b' o' e
  obtain ⟨c0, c1, c2⟩ := hc 0 hv
  rcases h.fr2 _ hm with h0 | ⟨b2, o2, e2, _, hq⟩
  · omega
  rw [e] at e2
  cases e2
  simp only [Nat.zero_mul, Nat.add_zero] at c0 c1 c2
  exact ⟨b', o', e, hl.1, hb, c0, c1, c2, (hq 0 (by omega)).2, (hq 1 (by omega)).2, (hq 2 (by omega)).2⟩
/-- Its first version in place. -/
theorem VmAt.putVer {w : World} {lo hi b off k b' o' : Nat} {os : List ObjD} (h : VmAt w lo hi (some ⟨b, off, none⟩) os) (hk : k < os.length) (hv : 0 < os[k].vers.length) (ha : os[k].at_ = some ⟨b', o', none⟩) (v : VerD) :
    ObjsIn (((w.setCell ⟨b', o', none⟩ (.int .i64 v.id)).setCell ⟨b', o' + 1, none⟩ (.string v.text)).setCell ⟨b', o' + 2, none⟩ (.bool v.gone)) (some ⟨b, off, none⟩) (os.set k ⟨os[k].key, os[k].at_, os[k].cap, os[k].vers.set 0 v⟩) := by
  obtain ⟨_, _, hbl, c0, c1, _, _⟩ := h.obj hk
  have hm := List.getElem_mem hk
  obtain ⟨b2, o2, e2, _, hb', d0, d1, d2, _, _, _⟩ := h.ver0 hk hv
  rw [ha] at e2
  cases e2
  have hne : b' ≠ b := h.offB hm b' o' ha
  obtain ⟨u, hu⟩ : ∃ u, ((w.setCell ⟨b', o', none⟩ (.int .i64 v.id)).setCell ⟨b', o' + 1, none⟩ (.string v.text)).setCell ⟨b', o' + 2, none⟩ (.bool v.gone) = u := ⟨_, rfl⟩
  have ht : Turned (fun c => c = b') w u := by
    rw [← hu]
    exact (((Turned.refl (fun c => c = b') w).setCell (p := ⟨b', o', none⟩) rfl _).setCell (p := ⟨b', o' + 1, none⟩) rfl _).setCell (p := ⟨b', o' + 2, none⟩) rfl _
  have hcell : ∀ j, j ≠ o' → j ≠ o' + 1 → j ≠ o' + 2 → u.cell? ⟨b', j, none⟩ = w.cell? ⟨b', j, none⟩ := fun j h1 h2 h3 => by
    rw [← hu, cell_offR (by omega), cell_offR (by omega), cell_offR (by omega)]
  have n0 : u.cell? ⟨b', o', none⟩ = some (.int .i64 v.id) := by
    rw [← hu, cell_offR (by omega), cell_offR (by omega)]; exact World.cell?_setCell_same _ _ _ d0
  have n1 : u.cell? ⟨b', o' + 1, none⟩ = some (.string v.text) := by
    rw [← hu, cell_offR (by omega)]; exact World.cell?_setCell_same _ _ _ (by rw [cell_offR (by omega)]; exact d1)
  have n2 : u.cell? ⟨b', o' + 2, none⟩ = some (.bool v.gone) := by
    rw [← hu]; exact World.cell?_setCell_same _ _ _ (by rw [cell_offR (by omega), cell_offR (by omega)]; exact d2)
  rw [hu]
  clear hu
  have hcb : ∀ j, u.cell? ⟨b, j, none⟩ = w.cell? ⟨b, j, none⟩ := fun j => ht.cell (p := ⟨b, j, none⟩) hbl (fun e => hne e.symm)
  refine setObj_in h hk ht.size (by rw [hcb]; exact c0) (by rw [hcb, List.length_set]; exact c1) ?_ fun i hi hn => ⟨hcb _, hcb _, (h.vers (List.getElem_mem hi)).turned (fun b3 o3 e3 q => ?_) ht⟩
  · rcases h.vers hm with e | ⟨b2, o2, e2, _, hc⟩
    · rw [e] at hv; simp at hv
    rw [ha] at e2
    cases e2
    refine .inr ⟨b', o', ha, Nat.lt_of_lt_of_le hb' ht.size, fun i hi => ?_⟩
    rw [List.length_set] at hi
    obtain ⟨q0, q1, q2⟩ := hc i hi
    rw [List.getElem_set]
    by_cases e : 0 = i
    · subst e
      rw [if_pos rfl]
      simp only [Nat.zero_mul, Nat.add_zero]
      exact ⟨n0, n1, n2⟩
    · rw [if_neg e, hcell _ (by omega) (by omega) (by omega), hcell _ (by omega) (by omega) (by omega), hcell _ (by omega) (by omega) (by omega)]
      exact ⟨q0, q1, q2⟩
  · subst q
    have hp := h.ap2
    rw [List.pairwise_iff_getElem] at hp
    rcases Nat.lt_or_gt_of_ne hn with q | q
    · exact hp i k hi hk q b3 o3 b3 o' e3 ha rfl
    · exact hp k i hk hi q b3 o' b3 o3 ha e3 rfl

theorem mem_set {α : Type} {P : α → Prop} {os : List α} {k : Nat} {x : α} (h : ∀ o ∈ os, P o) (hx : P x) : ∀ o ∈ os.set k x, P o := fun o ho => by
  rcases List.mem_or_eq_of_mem_set ho with h1 | rfl
  · exact h o h1
  · exact hx
/-- A map that is owned, with one object changed. -/
theorem Md.mk_ {w u : World} {lo hi : Nat} {a : Option Addr} {os : List ObjD} (h : VmAt w lo hi a os) (hf : ∀ o ∈ os, o.fits) (hn : os.length ≤ 20) (hv : ∀ o ∈ os, o.vers.length ≤ 20) {k : Nat} {x : ObjD} (hi : ObjsIn u a (os.set k x)) (hx : x.fits) (hp : x.plain) (hxv : x.vers.length ≤ 20) (hxl : ∀ b o, x.at_ = some ⟨b, o, none⟩ → lo ≤ b) : Md lo u a (os.set k x) :=
  ⟨hi, mem_set hf hx, mem_set h.pl hp, by rw [List.length_set]; exact hn, mem_set hv hxv, fun b o e => (h.l1 b o e).1, mem_set (fun o ho b c e => (h.l2 o ho b c e).1) hxl⟩
theorem Md.of_at {w : World} {lo hi : Nat} {a : Option Addr} {os : List ObjD} (h : VmAt w lo hi a os) (hf : ∀ o ∈ os, o.fits) (hn : os.length ≤ 20) (hv : ∀ o ∈ os, o.vers.length ≤ 20) : Md lo w a os :=
  ⟨h.in1, hf, h.pl, hn, hv, fun b o e => (h.l1 b o e).1, fun o ho b c e => (h.l2 o ho b c e).1⟩

def SomeVmA (rb p : Nat) (w : World) (e : Ending) (w' : World) : Prop := ∃ (cs : List ObjD) (a : Option Addr) (c q : Nat), q ≤ p ∧ e = .returned (.agg #[.slice a cs.length c]) ∧ Md (w.heap.size + 1) w' a cs ∧ RdAt rb q w' ∧ Only rb w w'
theorem SomeVmA.mk_ {rb p q c n : Nat} {w w' : World} {a : Option Addr} {cs : List ObjD} (hq : q ≤ p) (hm : Md (w.heap.size + 1) w' a cs) (hr : RdAt rb q w') (ho : Only rb w w') (hn : cs.length = n) : SomeVmA rb p w (.returned (.agg #[.slice a n c])) w' :=
  ⟨cs, a, c, q, hq, by rw [hn], hm, hr, ho⟩
end Go.Proofs.Ytjijichgoodocaa
