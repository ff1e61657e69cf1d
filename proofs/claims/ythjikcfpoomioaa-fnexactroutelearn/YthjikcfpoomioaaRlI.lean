/- What is known with one more: the program's walk. -/
import Derived.Test.YthjikcfpoomioaaNewK
namespace Go.Proofs.Ythjikcfpoomioaa
open Go.RowKit

def OldAll (k : KnownD) (vs : List KnownD) (n : Nat) : Prop := ∀ i (h : i < vs.length), i < n → meetB vs[i].f0 vs[i].f1 k.f0 k.f1 = true → oldB k.f3 vs[i] = true
def LearnRel (vs : List KnownD) (k : KnownD) (us : List KnownD) (b : Bool) : Prop :=
  ((RouteOkP vs ∧ knownOkB k = true) ∧ (OldAll k vs vs.length ∧ (putI k vs).length ≤ 6) ∧ us = putI k vs ∧ b = true) ∨
  ((RouteOkP vs ∧ knownOkB k = true) ∧ ¬ (OldAll k vs vs.length ∧ (putI k vs).length ≤ 6) ∧ us = vs ∧ b = false) ∨
  (¬ (RouteOkP vs ∧ knownOkB k = true) ∧ us = [] ∧ b = false)
theorem LearnRel.unique {vs : List KnownD} {k : KnownD} {us us' : List KnownD} {b b' : Bool} (h : LearnRel vs k us b) (g : LearnRel vs k us' b') : us = us' ∧ b = b' := by
  rcases h with ⟨h1, h2, rfl, rfl⟩ | ⟨h1, h2, rfl, rfl⟩ | ⟨h1, rfl, rfl⟩ <;> rcases g with ⟨g1, g2, rfl, rfl⟩ | ⟨g1, g2, rfl, rfl⟩ | ⟨g1, rfl, rfl⟩
  all_goals first | exact ⟨rfl, rfl⟩ | exact absurd h1 g1 | exact absurd g1 h1 | exact absurd h2 g2 | exact absurd g2 h2
theorem mem_within {lo hi : ByteArray} {vs : List KnownD} {n : Nat} {u : KnownD} (hu : u ∈ within lo hi vs n) : ∃ i, ∃ h : i < vs.length, i < n ∧ meetB vs[i].f0 vs[i].f1 lo hi = true ∧ u.f3 = vs[i].f3 := by
  unfold within at hu
  obtain ⟨v, hv, hu⟩ := List.mem_flatMap.1 hu
  obtain ⟨i, hi, rfl⟩ := List.getElem_of_mem hv
  rw [List.getElem_take] at hu
  have hl : i < vs.length := by rw [List.length_take] at hi; omega
  refine ⟨i, hl, by rw [List.length_take] at hi; omega, ?_⟩
  unfold cutK at hu
  split at hu
  · rename_i hm
    simp at hu
    exact ⟨hm, by rw [hu]⟩
  · simp at hu
theorem old_within {k : KnownD} {vs : List KnownD} : OkBy (oldB k.f3) (within k.f0 k.f1 vs vs.length) (within k.f0 k.f1 vs vs.length).length ↔ OldAll k vs vs.length := by
  constructor
  · intro h i hi hin hm
    have hmem : (⟨mLo vs[i].f0 vs[i].f1 k.f0 k.f1, mHi vs[i].f0 vs[i].f1 k.f0 k.f1, vs[i].f2, vs[i].f3⟩ : KnownD) ∈ within k.f0 k.f1 vs vs.length := by
      unfold within
      rw [List.take_length]
      refine List.mem_flatMap.2 ⟨vs[i], List.getElem_mem hi, ?_⟩
      unfold cutK; rw [if_pos hm]; simp
    obtain ⟨j, hj, e⟩ := List.getElem_of_mem hmem
    have := h j hj hj
    rw [e] at this
    exact this
  · intro h j hj _
    obtain ⟨i, hi, hin, hm, e⟩ := mem_within (List.getElem_mem hj)
    have := h i hi hin hm
    unfold oldB at *
    rw [e]; exact this
theorem putI_le {k : KnownD} {vs : List KnownD} : (putI k vs).length ≤ 2 * vs.length + 1 := by
  unfold putI
  rw [List.length_append, List.length_append]
  have h1 := within_le ⟨#[]⟩ k.f0 vs vs.length
  have h2 := within_le k.f1 ⟨#[]⟩ vs vs.length
  split <;> split <;> simp <;> omega
theorem knownsOutB_own {w w' : World} {v : Value} {us : List KnownD} {base n : Nat} {b : Bool} (hn : n = us.length) (h : w'.ownsRow base 48 4 v n (us.flatMap knownCells)) (hb : w.heap.size ≤ base) (hB : Below w.heap.size w w') : KnownsOutB us b w (.returned (.tuple #[v, .bool b])) w' := by
  subst hn
  obtain ⟨a, c, rfl, hat⟩ := own_knowns h
  exact ⟨a, c, rfl, hat.lower hb, hB⟩
theorem knownsOutB_nil {w w' : World} {b : Bool} (hB : Below w.heap.size w w') : KnownsOutB [] b w (.returned (.tuple #[.slice none 0 0, .bool b])) w' :=
  ⟨none, 0, rfl, ⟨.inl rfl, .inl rfl, (fun b off e => by cases e), Nat.le_refl _⟩, hB⟩

set_option maxRecDepth 100000 in
set_option maxHeartbeats 4000000 in
theorem routeLearn_any (k : KnownD) (a : Option Addr) (vs : List KnownD) (cap : Nat) (w : World) (hkf : k.fits) (hv : KnownsIn w a vs) (hf : ∀ v ∈ vs, v.fits) (hn : vs.length ≤ 1048576) :
    Calls Try.prog 50 #[.slice a vs.length cap, .agg #[.string k.f0, .string k.f1, .int .i64 k.f2, .int .i64 k.f3]] w fun e w' => ∃ us b, LearnRel vs k us b ∧ KnownsOutB us b w e w' := by
  have HV := Lib.hid hv
  have HF := Lib.hid hf
  have HKF := Lib.hid hkf
  have HN := Lib.hid (show vs.length ≤ maxLen by unfold maxLen; omega)
  clear hv hf
  obtain ⟨hk0, hk1⟩ := hkf
  obtain ⟨W0, hW0⟩ : ∃ W0, w.alloc (.cells #[.string k.f0, .string k.f1, .int .i64 k.f2, .int .i64 k.f3] 48) = W0 := ⟨_, rfl⟩
  have B0 : Below w.heap.size w W0 := by rw [← hW0]; exact (Below.refl _ _).alloc (Nat.le_refl _) _
  have s0 : w.heap.size < W0.heap.size := by rw [← hW0]; simp
  have x0 : W0.cell? ⟨w.heap.size, 0, none⟩ = some (.string k.f0) := by rw [← hW0]; simp [go_sem]
  have x1 : W0.cell? ⟨w.heap.size, 1, none⟩ = some (.string k.f1) := by rw [← hW0]; simp [go_sem]
  have x2 : W0.cell? ⟨w.heap.size, 2, none⟩ = some (.int .i64 k.f2) := by rw [← hW0]; simp [go_sem]
  have x3 : W0.cell? ⟨w.heap.size, 3, none⟩ = some (.int .i64 k.f3) := by rw [← hW0]; simp [go_sem]
  have HB0 := Lib.hid B0
  clear B0
  go_enter Try.func50, Try.ntmps50
  go_wp2_with fail
  clear hW0
  refine (routeOk_any a vs cap _ (HV.out.below HB0.out) HF.out HN.out).mono ?_
  rintro e w1 ⟨b, rfl, hb, hb1⟩
  have HI := Lib.hid hb
  replace x0 := (hb1.cell (p := ⟨w.heap.size, 0, none⟩) s0).trans x0
  replace x1 := (hb1.cell (p := ⟨w.heap.size, 1, none⟩) s0).trans x1
  replace x2 := (hb1.cell (p := ⟨w.heap.size, 2, none⟩) s0).trans x2
  replace x3 := (hb1.cell (p := ⟨w.heap.size, 3, none⟩) s0).trans x3
  replace s0 : w.heap.size < w1.heap.size := Nat.lt_of_lt_of_le s0 hb1.size
  have HB1 := Lib.hid (HB0.out.trans (hb1.mono HB0.out.size))
  clear hb hb1
  cases b
  · go_wp2_with fail
    go_ret2
    exact ⟨[], false, .inr (.inr ⟨fun h => absurd (HI.out.2 h.1) (by decide), rfl, rfl⟩), knownsOutB_nil HB1.out⟩
  have HRK := Lib.hid (HI.out.1 (by simp))
  clear HI
  go_wp2_with fail
  cases hKO : knownOkB k
  · refine (knownValid_is hKO HKF.out _).mono ?_
    rintro e w2 ⟨rfl, hb2⟩
    have HB2 := Lib.hid (HB1.out.trans (hb2.mono HB1.out.size))
    clear hb2
    go_wp2_with fail
    go_ret2
    exact ⟨[], false, .inr (.inr ⟨fun h => absurd h.2 (by rw [hKO]; decide), rfl, rfl⟩), knownsOutB_nil HB2.out⟩
  have HOK := Lib.hid (And.intro HRK.out hKO)
  refine (knownValid_is hKO HKF.out _).mono ?_
  clear hKO
  rintro e w2 ⟨rfl, hb2⟩
  replace x0 := (hb2.cell (p := ⟨w.heap.size, 0, none⟩) s0).trans x0
  replace x1 := (hb2.cell (p := ⟨w.heap.size, 1, none⟩) s0).trans x1
  replace x2 := (hb2.cell (p := ⟨w.heap.size, 2, none⟩) s0).trans x2
  replace x3 := (hb2.cell (p := ⟨w.heap.size, 3, none⟩) s0).trans x3
  replace s0 : w.heap.size < w2.heap.size := Nat.lt_of_lt_of_le s0 hb2.size
  have HB2 := Lib.hid (HB1.out.trans (hb2.mono HB1.out.size))
  clear hb2
  go_wp2_with fail
  refine (putInto_any k a vs cap _ HKF.out (HV.out.below HB2.out) HF.out (by have := HRK.out.2; omega)).mono ?_
  rintro e w3 ⟨v1, rfl, hO1, hb3⟩
  replace x0 := (hb3.cell (p := ⟨w.heap.size, 0, none⟩) s0).trans x0
  replace x1 := (hb3.cell (p := ⟨w.heap.size, 1, none⟩) s0).trans x1
  replace x3 := (hb3.cell (p := ⟨w.heap.size, 3, none⟩) s0).trans x3
  replace s0 : w.heap.size < w3.heap.size := Nat.lt_of_lt_of_le s0 hb3.size
  have HB3 := Lib.hid (HB2.out.trans (hb3.mono HB2.out.size))
  have hq2 := HB2.out.size
  obtain ⟨a1, c1, rfl, -⟩ := own_knowns hO1
  have HO1 := Lib.hid hO1
  clear hb3 hO1 x2
  obtain ⟨N1, hN1⟩ : ∃ N1, (putI k vs).length = N1 := ⟨_, rfl⟩
  have hN1b : N1 ≤ 2 * vs.length + 1 := by rw [← hN1]; exact putI_le
  rw [hN1]
  go_wp2_with fail
  refine (knownWithin_any k.f0 k.f1 a vs cap _ (HV.out.below HB3.out) HF.out hk0 hk1 (by omega)).mono ?_
  rintro e w4 ⟨v2, rfl, hO2, hb4⟩
  replace x3 := (hb4.cell (p := ⟨w.heap.size, 3, none⟩) s0).trans x3
  replace s0 : w.heap.size < w4.heap.size := Nat.lt_of_lt_of_le s0 hb4.size
  have HB4 := Lib.hid (HB3.out.trans (hb4.mono HB3.out.size))
  have HO14 := Lib.hid (Go.Proofs.Ythjikcfpoomioaa.ownsRow_of_below HO1.out hb4)
  obtain ⟨a2, c2, rfl, hat2⟩ := own_knowns hO2
  have HA2 := Lib.hid hat2.in1
  clear hb4 hO2 hat2 x0 x1 HO1
  have hN2 := within_le k.f0 k.f1 vs vs.length
  go_wp2_with fail
  refine (newHas_any k.f3 w.heap.size a2 (within k.f0 k.f1 vs vs.length) c2 _ HA2.out (by unfold maxLen; omega) x3 s0).mono ?_
  rintro e w5 ⟨b, rfl, hb, hb5⟩
  have HI := Lib.hid (hb.trans old_within)
  have HB5 := Lib.hid (HB4.out.trans (hb5.mono HB4.out.size))
  have HO15 := Lib.hid (Go.Proofs.Ythjikcfpoomioaa.ownsRow_of_below HO14.out hb5)
  clear hb hb5 HO14
  cases b
  · have HOld := Lib.hid (HI.out.1 (by simp))
    by_cases h6 : 6 < N1
    · go_wp2_with fail
      refine (cloneKnown_any a vs cap _ (HV.out.below HB5.out) (by omega) (by omega)).mono ?_
      rintro e w6 ⟨g, cp, rfl, hO6, hb6⟩
      have HO6 := Lib.hid hO6
      have HB6 := Lib.hid (HB5.out.trans (hb6.mono HB5.out.size))
      clear hO6 hb6
      go_wp2_with fail
      go_ret2
      exact ⟨vs, false, .inr (.inl ⟨HOK.out, fun h => absurd h.2 (by omega), rfl, rfl⟩), knownsOutB_own rfl HO6.out HB5.out.size HB6.out⟩
    · go_wp2_with fail
      go_ret2
      exact ⟨putI k vs, true, .inl ⟨HOK.out, ⟨HOld.out, by omega⟩, rfl, rfl⟩, knownsOutB_own hN1.symm (hN1 ▸ HO15.out) hq2 HB5.out⟩
  · have HNew := Lib.hid (fun h => absurd (HI.out.2 h) (by decide) : ¬ OldAll k vs vs.length)
    have hpos : 0 < vs.length := by
      rcases Nat.eq_zero_or_pos vs.length with h | h
      · exact absurd (fun i hi _ _ => absurd hi (by omega)) HNew.out
      · exact h
    go_wp2_with fail
    refine (cloneKnown_any a vs cap _ (HV.out.below HB5.out) hpos (by omega)).mono ?_
    rintro e w6 ⟨g, cp, rfl, hO6, hb6⟩
    have HO6 := Lib.hid hO6
    have HB6 := Lib.hid (HB5.out.trans (hb6.mono HB5.out.size))
    clear hO6 hb6
    go_wp2_with fail
    go_ret2
    exact ⟨vs, false, .inr (.inl ⟨HOK.out, fun h => HNew.out h.1, rfl, rfl⟩), knownsOutB_own rfl HO6.out HB5.out.size HB6.out⟩
end Go.Proofs.Ythjikcfpoomioaa
