/- Slices of Known in memory that belongs to a call: where they lie, copies, equality, marks; what appends have made. -/
import Derived.Test.YthjikcfpoomioaaMkKnown
import Derived.Test.YthjikcfpoomioaaLie
namespace Go.Proofs.Ythjikcfpoomioaa
open Go.RowKit

structure KnownsAt (w : World) (lo hi : Nat) (a : Option Addr) (vs : List KnownD) : Prop where
  in1 : KnownsIn w a vs
  fr1 : Free w a (vs.length * 4)
  l1 : Lies lo hi a
  le : hi ≤ w.heap.size
theorem KnownsAt.below {w w' : World} {lo hi : Nat} {a : Option Addr} {vs : List KnownD} (h : KnownsAt w lo hi a vs) (hb : Below w.heap.size w w') : KnownsAt w' lo hi a vs := ⟨h.in1.below hb, h.fr1.below hb, h.l1, Nat.le_trans h.le hb.size⟩
theorem KnownsAt.turned {S : Nat → Prop} {w w' : World} {lo hi : Nat} {a : Option Addr} {vs : List KnownD} (h : KnownsAt w lo hi a vs) (hS : ∀ b, lo ≤ b → b < hi → ¬ S b) (ht : Turned S w w') : KnownsAt w' lo hi a vs :=
  ⟨h.in1.turned (h.l1.off hS) ht, h.fr1.turned (h.l1.off hS) ht, h.l1, Nat.le_trans h.le ht.size⟩
theorem KnownsAt.drewAt {w : World} {lo hi : Nat} {a : Option Addr} {vs : List KnownD} (h : KnownsAt w lo hi a vs) : KnownsAt w.drew lo hi a vs := ⟨h.in1, h.fr1, h.l1, h.le⟩
theorem KnownsAt.nil (w : World) : KnownsAt w w.heap.size w.heap.size none [] := ⟨.inl rfl, .inl rfl, (fun b off e => by cases e), Nat.le_refl _⟩
theorem KnownsAt.lower {w : World} {lo lo' hi : Nat} {a : Option Addr} {vs : List KnownD} (h : KnownsAt w lo hi a vs) (hl : lo' ≤ lo) : KnownsAt w lo' w.heap.size a vs := ⟨h.in1, h.fr1, h.l1.mono hl h.le, Nat.le_refl _⟩

def KnownsOut (vs : List KnownD) (w : World) (e : Ending) (w' : World) : Prop :=
  ∃ a c, e = .returned (.slice a vs.length c) ∧ KnownsAt w' w.heap.size w'.heap.size a vs ∧ Below w.heap.size w w'
/-- .. beside a bool. -/
def KnownsOutB (vs : List KnownD) (b : Bool) (w : World) (e : Ending) (w' : World) : Prop :=
  ∃ a c, e = .returned (.tuple #[.slice a vs.length c, .bool b]) ∧ KnownsAt w' w.heap.size w'.heap.size a vs ∧ Below w.heap.size w w'

theorem toKnownS_at (a : Option Addr) (vs : List KnownD) (cap : Nat) (w : World) (hv : KnownsIn w a vs) (hn : vs.length ≤ 1048576) :
    Calls Try.prog 31 #[.slice a vs.length cap] w (KnownsOut vs w) :=
  (toKnownS_any a vs cap w hv hn).mono fun e w' ⟨he, i1, f1, hb, hlt⟩ => ⟨_, _, he, ⟨i1, f1, fun b off e => by cases e; exact ⟨Nat.le_refl _, hlt⟩, Nat.le_refl _⟩, hb⟩

theorem eqKnownS_at {a b : Option Addr} {vs : List KnownD} {k l lo hi lo' hi' : Nat} {w : World} (ha : KnownsAt w lo hi a vs) (hb : KnownsAt w lo' hi' b vs) (hn : vs.length ≤ maxLen) :
    Calls Try.prog 33 #[.slice a vs.length k, .slice b vs.length l] w fun e w' => e = .returned (.bool true) ∧ Below w.heap.size w w' :=
  eqKnownS_same a b vs k l w ha.in1 hb.in1 hn

def KnownsMk (lo hi : Nat) (a : Option Addr) (k n : Nat) (w : World) (e : Ending) (w' : World) : Prop :=
  e = .returned (.int .i64 ((k + n * 4 : Nat) : Int)) ∧ KnownsAt w' lo hi a (Knownmarks k n) ∧ Turned (fun b => lo ≤ b ∧ b < hi) w w'

theorem markKnownS_at {a : Option Addr} {vs : List KnownD} {c lo hi k : Nat} {w : World} (h : KnownsAt w lo hi a vs) (hk : 1 ≤ k) (hkn : k + vs.length * 4 ≤ 100000000) :
    Calls Try.prog 43 #[.slice a vs.length c, .int .i64 (k : Int)] w (KnownsMk lo hi a k vs.length w) :=
  (markKnownS_any (fun b => lo ≤ b ∧ b < hi) a vs.length c k w h.fr1 (fun b off e => h.l1 b off e) hk hkn).mono fun e w' ⟨he, i1, f1, ht⟩ =>
    ⟨he, ⟨i1, by rw [Knownmarks_length]; exact f1, h.l1, Nat.le_trans h.le ht.size⟩, ht⟩

theorem heldKnownS_at {a : Option Addr} {n c lo hi k : Nat} {w : World} (h : KnownsAt w lo hi a (Knownmarks k n)) (hk : 1 ≤ k) (hkn : k + n * 4 ≤ 100000000) :
    Calls Try.prog 44 #[.slice a n c, .int .i64 (k : Int)] w fun e w' => e = .returned (.int .i64 ((k + n * 4 : Nat) : Int)) ∧ Below w.heap.size w w' :=
  heldKnownS_any a n c k w h.in1 hk hkn

def knownCells (v : KnownD) : List Value := [.string v.f0, .string v.f1, .int .i64 v.f2, .int .i64 v.f3]
theorem own_knowns {w : World} {base : Nat} {v : Value} {vs : List KnownD} (h : w.ownsRow base 48 4 v vs.length (vs.flatMap knownCells)) :
    ∃ a cap, v = .slice a vs.length cap ∧ KnownsAt w base w.heap.size a vs := by
  rcases Joins.ownsRow_forms h with ⟨rfl, h0⟩ | ⟨g, cap, rfl⟩
  · have : vs = [] := List.eq_nil_of_length_eq_zero h0
    subst this
    exact ⟨none, 0, rfl, .inl rfl, .inl rfl, (fun b off e => by cases e), Nat.le_refl _⟩
  · have hg := h.lt g rfl
    refine ⟨some ⟨g, 0, none⟩, cap, rfl, .inr ⟨g, 0, rfl, hg.2, fun i hi => ?_⟩, own_free h, (fun b off e => by cases e; exact hg), Nat.le_refl _⟩
    have e0 := h.cellAt (i * 4) (by omega)
    have e1 := h.cellAt (i * 4 + 1) (by omega)
    have e2 := h.cellAt (i * 4 + 2) (by omega)
    have e3 := h.cellAt (i * 4 + 3) (by omega)
    have f0 := flat_at knownCells 4 (fun _ => rfl) vs i 0 hi (by omega)
    have f1 := flat_at knownCells 4 (fun _ => rfl) vs i 1 hi (by omega)
    have f2 := flat_at knownCells 4 (fun _ => rfl) vs i 2 hi (by omega)
    have f3 := flat_at knownCells 4 (fun _ => rfl) vs i 3 hi (by omega)
    rw [Nat.add_zero] at f0
    simp only [Nat.zero_add]
    exact ⟨e0.trans f0, e1.trans f1, e2.trans f2, e3.trans f3⟩
theorem knowns_len (vs : List KnownD) : (vs.flatMap knownCells).length = vs.length * 4 := flat_len knownCells 4 (fun _ => rfl) vs
theorem knowns_one (vs : List KnownD) : ∀ u ∈ vs.flatMap knownCells, u.oneCell' = true := fun u hu => by
  obtain ⟨v, _, h⟩ := List.mem_flatMap.1 hu
  simp [knownCells] at h
  rcases h with rfl | rfl | rfl | rfl <;> rfl
theorem known_one (v : KnownD) : ∀ u ∈ knownCells v, u.oneCell' = true := fun u hu => by
  simp [knownCells] at hu
  rcases hu with rfl | rfl | rfl | rfl <;> rfl
theorem newsKnown (w : World) (v : KnownD) (ty : TypeId) (g : Nat) (hg : w.heap.size = g) : ∀ j u, (knownCells v)[j]? = some u → (w.alloc (.cells #[.string v.f0, .string v.f1, .int .i64 v.f2, .int .i64 v.f3] ty)).cell? ((⟨g, 0, none⟩ : Addr).add j) = some u := by
  subst hg
  exact World.news_of_block (heap_alloc_new w _)
theorem empty_knowns {u : World} {B g : Nat} (h : u.heap[g]? = some (.cells #[] 48 (0, 0))) (hb : B ≤ g) : u.ownsRow B 48 4 (.slice (some ⟨g, 0, none⟩) 0 0) 0 [] :=
  ⟨by simp, .inr ⟨g, 0, #[], rfl, hb, h, Nat.le_refl _, Nat.zero_le _, by simp, by simp⟩⟩
/-- The cells of a slice, as an append takes them. -/
theorem knowns_news {w : World} {b off : Nat} {vs : List KnownD} (hc : ∀ i (h : i < vs.length), w.cell? ⟨b, off + i * 4, none⟩ = some (.string vs[i].f0) ∧ w.cell? ⟨b, off + i * 4 + 1, none⟩ = some (.string vs[i].f1) ∧ w.cell? ⟨b, off + i * 4 + 2, none⟩ = some (.int .i64 vs[i].f2) ∧ w.cell? ⟨b, off + i * 4 + 3, none⟩ = some (.int .i64 vs[i].f3)) :
    ∀ j u, (vs.flatMap knownCells)[j]? = some u → w.cell? ((⟨b, off, none⟩ : Addr).add j) = some u := fun j u hu => by
  have hadd : (⟨b, off, none⟩ : Addr).add j = ⟨b, off + j, none⟩ := by unfold Addr.add; split <;> simp_all
  have hl := knowns_len vs
  have hj : j < vs.length * 4 := by
    rcases Nat.lt_or_ge j (vs.length * 4) with h | h
    · exact h
    · rw [List.getElem?_eq_none (by omega)] at hu; cases hu
  have hi : j / 4 < vs.length := by omega
  rw [hadd]
  have hat := flat_at knownCells 4 (fun _ => rfl) vs (j / 4) (j % 4) hi (by omega)
  rw [show j / 4 * 4 + j % 4 = j by omega, hu] at hat
  have hm : j % 4 = 0 ∨ j % 4 = 1 ∨ j % 4 = 2 ∨ j % 4 = 3 := by omega
  rcases hm with h0 | h0 | h0 | h0
  · rw [h0] at hat
    have := (hc (j / 4) hi).1
    rw [show off + j / 4 * 4 = off + j by omega] at this
    rw [this]; simpa [knownCells] using hat.symm
  · rw [h0] at hat
    have := (hc (j / 4) hi).2.1
    rw [show off + j / 4 * 4 + 1 = off + j by omega] at this
    rw [this]; simpa [knownCells] using hat.symm
  · rw [h0] at hat
    have := (hc (j / 4) hi).2.2.1
    rw [show off + j / 4 * 4 + 2 = off + j by omega] at this
    rw [this]; simpa [knownCells] using hat.symm
  · rw [h0] at hat
    have := (hc (j / 4) hi).2.2.2
    rw [show off + j / 4 * 4 + 3 = off + j by omega] at this
    rw [this]; simpa [knownCells] using hat.symm
end Go.Proofs.Ythjikcfpoomioaa
