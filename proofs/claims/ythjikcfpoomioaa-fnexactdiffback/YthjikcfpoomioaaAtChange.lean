/- Slices of Change in memory that belongs to a call: where they lie, copies, equality, marks; what appends have made. -/
import Derived.Test.YthjikcfpoomioaaMkChange
import Derived.Test.YthjikcfpoomioaaLie
namespace Go.Proofs.Ythjikcfpoomioaa
open Go.RowKit

structure ChangesAt (w : World) (lo hi : Nat) (a : Option Addr) (vs : List ChangeD) : Prop where
  in1 : ChangesIn w a vs
  fr1 : Free w a (vs.length * 5)
  l1 : Lies lo hi a
  le : hi ≤ w.heap.size
theorem ChangesAt.below {w w' : World} {lo hi : Nat} {a : Option Addr} {vs : List ChangeD} (h : ChangesAt w lo hi a vs) (hb : Below w.heap.size w w') : ChangesAt w' lo hi a vs := ⟨h.in1.below hb, h.fr1.below hb, h.l1, Nat.le_trans h.le hb.size⟩
theorem ChangesAt.turned {S : Nat → Prop} {w w' : World} {lo hi : Nat} {a : Option Addr} {vs : List ChangeD} (h : ChangesAt w lo hi a vs) (hS : ∀ b, lo ≤ b → b < hi → ¬ S b) (ht : Turned S w w') : ChangesAt w' lo hi a vs :=
  ⟨h.in1.turned (h.l1.off hS) ht, h.fr1.turned (h.l1.off hS) ht, h.l1, Nat.le_trans h.le ht.size⟩
theorem ChangesAt.drewAt {w : World} {lo hi : Nat} {a : Option Addr} {vs : List ChangeD} (h : ChangesAt w lo hi a vs) : ChangesAt w.drew lo hi a vs := ⟨h.in1, h.fr1, h.l1, h.le⟩
theorem ChangesAt.nil (w : World) : ChangesAt w w.heap.size w.heap.size none [] := ⟨.inl rfl, .inl rfl, (fun b off e => by cases e), Nat.le_refl _⟩
theorem ChangesAt.lower {w : World} {lo lo' hi : Nat} {a : Option Addr} {vs : List ChangeD} (h : ChangesAt w lo hi a vs) (hl : lo' ≤ lo) : ChangesAt w lo' w.heap.size a vs := ⟨h.in1, h.fr1, h.l1.mono hl h.le, Nat.le_refl _⟩

def ChangesOut (vs : List ChangeD) (w : World) (e : Ending) (w' : World) : Prop :=
  ∃ a c, e = .returned (.slice a vs.length c) ∧ ChangesAt w' w.heap.size w'.heap.size a vs ∧ Below w.heap.size w w'
/-- .. beside a bool. -/
def ChangesOutB (vs : List ChangeD) (b : Bool) (w : World) (e : Ending) (w' : World) : Prop :=
  ∃ a c, e = .returned (.tuple #[.slice a vs.length c, .bool b]) ∧ ChangesAt w' w.heap.size w'.heap.size a vs ∧ Below w.heap.size w w'

theorem toChangeS_at (a : Option Addr) (vs : List ChangeD) (cap : Nat) (w : World) (hv : ChangesIn w a vs) (hn : vs.length ≤ 1048576) :
    Calls Try.prog 22 #[.slice a vs.length cap] w (ChangesOut vs w) :=
  (toChangeS_any a vs cap w hv hn).mono fun e w' ⟨he, i1, f1, hb, hlt⟩ => ⟨_, _, he, ⟨i1, f1, fun b off e => by cases e; exact ⟨Nat.le_refl _, hlt⟩, Nat.le_refl _⟩, hb⟩

theorem eqChangeS_at {a b : Option Addr} {vs : List ChangeD} {k l lo hi lo' hi' : Nat} {w : World} (ha : ChangesAt w lo hi a vs) (hb : ChangesAt w lo' hi' b vs) (hn : vs.length ≤ maxLen) :
    Calls Try.prog 24 #[.slice a vs.length k, .slice b vs.length l] w fun e w' => e = .returned (.bool true) ∧ Below w.heap.size w w' :=
  eqChangeS_same a b vs k l w ha.in1 hb.in1 hn

def ChangesMk (lo hi : Nat) (a : Option Addr) (k n : Nat) (w : World) (e : Ending) (w' : World) : Prop :=
  e = .returned (.int .i64 ((k + n * 5 : Nat) : Int)) ∧ ChangesAt w' lo hi a (Changemarks k n) ∧ Turned (fun b => lo ≤ b ∧ b < hi) w w'

theorem markChangeS_at {a : Option Addr} {vs : List ChangeD} {c lo hi k : Nat} {w : World} (h : ChangesAt w lo hi a vs) (hk : 1 ≤ k) (hkn : k + vs.length * 5 ≤ 100000000) :
    Calls Try.prog 27 #[.slice a vs.length c, .int .i64 (k : Int)] w (ChangesMk lo hi a k vs.length w) :=
  (markChangeS_any (fun b => lo ≤ b ∧ b < hi) a vs.length c k w h.fr1 (fun b off e => h.l1 b off e) hk hkn).mono fun e w' ⟨he, i1, f1, ht⟩ =>
    ⟨he, ⟨i1, by rw [Changemarks_length]; exact f1, h.l1, Nat.le_trans h.le ht.size⟩, ht⟩

theorem heldChangeS_at {a : Option Addr} {n c lo hi k : Nat} {w : World} (h : ChangesAt w lo hi a (Changemarks k n)) (hk : 1 ≤ k) (hkn : k + n * 5 ≤ 100000000) :
    Calls Try.prog 28 #[.slice a n c, .int .i64 (k : Int)] w fun e w' => e = .returned (.int .i64 ((k + n * 5 : Nat) : Int)) ∧ Below w.heap.size w w' :=
  heldChangeS_any a n c k w h.in1 hk hkn

def changeCells (v : ChangeD) : List Value := [.string v.f0, .bool v.f1, .string v.f2, .bool v.f3, .string v.f4]
theorem own_changes {w : World} {base : Nat} {v : Value} {vs : List ChangeD} (h : w.ownsRow base 115 5 v vs.length (vs.flatMap changeCells)) :
    ∃ a cap, v = .slice a vs.length cap ∧ ChangesAt w base w.heap.size a vs := by
  rcases Joins.ownsRow_forms h with ⟨rfl, h0⟩ | ⟨g, cap, rfl⟩
  · have : vs = [] := List.eq_nil_of_length_eq_zero h0
    subst this
    exact ⟨none, 0, rfl, .inl rfl, .inl rfl, (fun b off e => by cases e), Nat.le_refl _⟩
  · have hg := h.lt g rfl
    refine ⟨some ⟨g, 0, none⟩, cap, rfl, .inr ⟨g, 0, rfl, hg.2, fun i hi => ?_⟩, own_free h, (fun b off e => by cases e; exact hg), Nat.le_refl _⟩
    have e0 := h.cellAt (i * 5) (by omega)
    have e1 := h.cellAt (i * 5 + 1) (by omega)
    have e2 := h.cellAt (i * 5 + 2) (by omega)
    have e3 := h.cellAt (i * 5 + 3) (by omega)
    have e4 := h.cellAt (i * 5 + 4) (by omega)
    have f0 := flat_at changeCells 5 (fun _ => rfl) vs i 0 hi (by omega)
    have f1 := flat_at changeCells 5 (fun _ => rfl) vs i 1 hi (by omega)
    have f2 := flat_at changeCells 5 (fun _ => rfl) vs i 2 hi (by omega)
    have f3 := flat_at changeCells 5 (fun _ => rfl) vs i 3 hi (by omega)
    have f4 := flat_at changeCells 5 (fun _ => rfl) vs i 4 hi (by omega)
    rw [Nat.add_zero] at f0
    simp only [Nat.zero_add]
    exact ⟨e0.trans f0, e1.trans f1, e2.trans f2, e3.trans f3, e4.trans f4⟩
theorem changes_len (vs : List ChangeD) : (vs.flatMap changeCells).length = vs.length * 5 := flat_len changeCells 5 (fun _ => rfl) vs
theorem changes_one (vs : List ChangeD) : ∀ u ∈ vs.flatMap changeCells, u.oneCell' = true := fun u hu => by
  obtain ⟨v, _, h⟩ := List.mem_flatMap.1 hu
  simp [changeCells] at h
  rcases h with rfl | rfl | rfl | rfl | rfl <;> rfl
theorem change_one (v : ChangeD) : ∀ u ∈ changeCells v, u.oneCell' = true := fun u hu => by
  simp [changeCells] at hu
  rcases hu with rfl | rfl | rfl | rfl | rfl <;> rfl
theorem newsChange (w : World) (v : ChangeD) (ty : TypeId) (g : Nat) (hg : w.heap.size = g) : ∀ j u, (changeCells v)[j]? = some u → (w.alloc (.cells #[.string v.f0, .bool v.f1, .string v.f2, .bool v.f3, .string v.f4] ty)).cell? ((⟨g, 0, none⟩ : Addr).add j) = some u := by
  subst hg
  exact World.news_of_block (heap_alloc_new w _)
theorem empty_changes {u : World} {B g : Nat} (h : u.heap[g]? = some (.cells #[] 115 (0, 0))) (hb : B ≤ g) : u.ownsRow B 115 5 (.slice (some ⟨g, 0, none⟩) 0 0) 0 [] :=
  ⟨by simp, .inr ⟨g, 0, #[], rfl, hb, h, Nat.le_refl _, Nat.zero_le _, by simp, by simp⟩⟩
/-- The cells of a slice, as an append takes them. -/
theorem changes_news {w : World} {b off : Nat} {vs : List ChangeD} (hc : ∀ i (h : i < vs.length), w.cell? ⟨b, off + i * 5, none⟩ = some (.string vs[i].f0) ∧ w.cell? ⟨b, off + i * 5 + 1, none⟩ = some (.bool vs[i].f1) ∧ w.cell? ⟨b, off + i * 5 + 2, none⟩ = some (.string vs[i].f2) ∧ w.cell? ⟨b, off + i * 5 + 3, none⟩ = some (.bool vs[i].f3) ∧ w.cell? ⟨b, off + i * 5 + 4, none⟩ = some (.string vs[i].f4)) :
    ∀ j u, (vs.flatMap changeCells)[j]? = some u → w.cell? ((⟨b, off, none⟩ : Addr).add j) = some u := fun j u hu => by
  have hadd : (⟨b, off, none⟩ : Addr).add j = ⟨b, off + j, none⟩ := by unfold Addr.add; split <;> simp_all
  have hl := changes_len vs
  have hj : j < vs.length * 5 := by
    rcases Nat.lt_or_ge j (vs.length * 5) with h | h
    · exact h
    · rw [List.getElem?_eq_none (by omega)] at hu; cases hu
  have hi : j / 5 < vs.length := by omega
  rw [hadd]
  have hat := flat_at changeCells 5 (fun _ => rfl) vs (j / 5) (j % 5) hi (by omega)
  rw [show j / 5 * 5 + j % 5 = j by omega, hu] at hat
  have hm : j % 5 = 0 ∨ j % 5 = 1 ∨ j % 5 = 2 ∨ j % 5 = 3 ∨ j % 5 = 4 := by omega
  rcases hm with h0 | h0 | h0 | h0 | h0
  · rw [h0] at hat
    have := (hc (j / 5) hi).1
    rw [show off + j / 5 * 5 = off + j by omega] at this
    rw [this]; simpa [changeCells] using hat.symm
  · rw [h0] at hat
    have := (hc (j / 5) hi).2.1
    rw [show off + j / 5 * 5 + 1 = off + j by omega] at this
    rw [this]; simpa [changeCells] using hat.symm
  · rw [h0] at hat
    have := (hc (j / 5) hi).2.2.1
    rw [show off + j / 5 * 5 + 2 = off + j by omega] at this
    rw [this]; simpa [changeCells] using hat.symm
  · rw [h0] at hat
    have := (hc (j / 5) hi).2.2.2.1
    rw [show off + j / 5 * 5 + 3 = off + j by omega] at this
    rw [this]; simpa [changeCells] using hat.symm
  · rw [h0] at hat
    have := (hc (j / 5) hi).2.2.2.2
    rw [show off + j / 5 * 5 + 4 = off + j by omega] at this
    rw [this]; simpa [changeCells] using hat.symm
end Go.Proofs.Ythjikcfpoomioaa
