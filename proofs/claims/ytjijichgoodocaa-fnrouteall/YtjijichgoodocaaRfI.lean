/- Where a key is by what is known, as the program and as the model find it. -/
import Derived.Test.YtjijichgoodocaaKnS
namespace Go.Proofs.Ytjijichgoodocaa
open Go.RowKit

def zeroK : KnownD := ⟨⟨#[]⟩, ⟨#[]⟩, 0, 0⟩
def findK (vs : List KnownD) (key : ByteArray) : Option KnownD := vs.find? fun v => hasB v.f0 v.f1 key
def RfRel (vs : List KnownD) (key : ByteArray) (r : KnownD) (b : Bool) : Prop :=
  (RouteOkP vs ∧ keyOkB key = true ∧ ((findK vs key = some r ∧ b = true) ∨ (findK vs key = none ∧ r = zeroK ∧ b = false))) ∨ (¬ (RouteOkP vs ∧ keyOkB key = true) ∧ r = zeroK ∧ b = false)
theorem RfRel.unique {vs : List KnownD} {key : ByteArray} {r r' : KnownD} {b b' : Bool} (h : RfRel vs key r b) (g : RfRel vs key r' b') : r = r' ∧ b = b' := by
  rcases h with ⟨h1, h2, ⟨h3, h4⟩ | ⟨h3, h4, h5⟩⟩ | ⟨h1, h4, h5⟩ <;> rcases g with ⟨g1, g2, ⟨g3, g4⟩ | ⟨g3, g4, g5⟩⟩ | ⟨g1, g4, g5⟩
  · rw [h3] at g3; exact ⟨Option.some.inj g3, h4.trans g4.symm⟩
  · rw [h3] at g3; cases g3
  · exact absurd ⟨h1, h2⟩ g1
  · rw [h3] at g3; cases g3
  · exact ⟨h4.trans g4.symm, h5.trans g5.symm⟩
  · exact absurd ⟨h1, h2⟩ g1
  · exact absurd ⟨g1, g2⟩ h1
  · exact absurd ⟨g1, g2⟩ h1
  · exact ⟨h4.trans g4.symm, h5.trans g5.symm⟩
def NoneTo (vs : List KnownD) (key : ByteArray) (k : Nat) : Prop := ∀ i (h : i < vs.length), i < k → hasB vs[i].f0 vs[i].f1 key = false
theorem NoneTo.succ {vs : List KnownD} {key : ByteArray} {k : Nat} (h : NoneTo vs key k) (hk : k < vs.length) (hh : hasB vs[k].f0 vs[k].f1 key = false) : NoneTo vs key (k + 1) := fun i hi hik => by
  by_cases e : i = k
  · subst e; exact hh
  · exact h i hi (by omega)
theorem find_some {vs : List KnownD} {key : ByteArray} {k : Nat} (h : NoneTo vs key k) (hk : k < vs.length) (hh : hasB vs[k].f0 vs[k].f1 key = true) : findK vs key = some vs[k] := by
  unfold findK
  rw [List.find?_eq_some_iff_getElem]
  exact ⟨hh, k, hk, rfl, fun j hj => by rw [h j (by omega) hj]; rfl⟩
theorem find_none {vs : List KnownD} {key : ByteArray} (h : NoneTo vs key vs.length) : findK vs key = none := by
  unfold findK
  rw [List.find?_eq_none]
  intro x hx
  obtain ⟨i, hi, rfl⟩ := List.getElem_of_mem hx
  rw [h i hi hi]; decide
def RfPost (vs : List KnownD) (key : ByteArray) (w : World) (e : Ending) (w' : World) : Prop :=
  ∃ (r : KnownD) (b : Bool), e = .returned (.tuple #[.agg #[.string r.f0, .string r.f1, .int .i64 r.f2, .int .i64 r.f3], .bool b]) ∧ RfRel vs key r b ∧ Below w.heap.size w w'
theorem spanOk_at {vs : List KnownD} (h : RouteOkP vs) {k : Nat} (hk : k < vs.length) : spanOkB vs[k].f0 vs[k].f1 = true := by
  have := h.1.1 k hk hk
  simp [knownOkB] at this
  exact this.1.1
theorem spanHas_is {lo hi key : ByteArray} {b : Bool} (h : spanHasB lo hi key = b) (hlo : lo.size ≤ maxLen) (hhi : hi.size ≤ maxLen) (hkey : key.size ≤ maxLen) (w : World) :
    Calls Try.prog 31 #[.agg #[.string lo, .string hi], .string key] w fun e w' => e = .returned (.bool b) ∧ Below w.heap.size w w' := h ▸ spanHas_any lo hi key w hlo hhi hkey
theorem l1Has_isK {lo hi key : ByteArray} {b : Bool} (h : hasB lo hi key = b) (w : World) :
    Calls Try.prog 117 #[.agg #[.string lo, .string hi], .string key] w fun e w' => e = .returned (.bool b) ∧ Below w.heap.size w w' := h ▸ l1Has_any lo hi key w

set_option maxRecDepth 100000 in
set_option maxHeartbeats 4000000 in
theorem routeFind_any (a : Option Addr) (vs : List KnownD) (cap : Nat) (key : ByteArray) (w : World) (hv : KnownsIn w a vs) (hf : ∀ v ∈ vs, v.fits) (hn : vs.length ≤ maxLen) (hkey : key.size ≤ maxLen) :
    Calls Try.prog 51 #[.slice a vs.length cap, .string key] w (RfPost vs key w) := by
  have HV := Lib.hid hv
  have HF := Lib.hid hf
  have HN := Lib.hid hn
  unfold maxLen at hn
  clear hv hf
  obtain ⟨W0, hW0⟩ : ∃ W0, w.alloc (.cells #[.string ⟨#[]⟩, .string ⟨#[]⟩, .int .i64 0, .int .i64 0] 84) = W0 := ⟨_, rfl⟩
  have B0 : Below w.heap.size w W0 := by rw [← hW0]; exact (Below.refl _ _).alloc (Nat.le_refl _) _
  have hs : w.heap.size < W0.heap.size := by rw [← hW0]; simp
  have r0 : W0.cell? ⟨w.heap.size, 0, none⟩ = some (.string ⟨#[]⟩) := by rw [← hW0]; simp [go_sem]
  have r1 : W0.cell? ⟨w.heap.size, 1, none⟩ = some (.string ⟨#[]⟩) := by rw [← hW0]; simp [go_sem]
  have r2 : W0.cell? ⟨w.heap.size, 2, none⟩ = some (.int .i64 0) := by rw [← hW0]; simp [go_sem]
  have r3 : W0.cell? ⟨w.heap.size, 3, none⟩ = some (.int .i64 0) := by rw [← hW0]; simp [go_sem]
  have fr0 : W0.frozen? ⟨w.heap.size, 0, none⟩ = false := by rw [← hW0]; simp [go_sem]
  have fr1 : W0.frozen? ⟨w.heap.size, 1, none⟩ = false := by rw [← hW0]; simp [go_sem]
  have fr2 : W0.frozen? ⟨w.heap.size, 2, none⟩ = false := by rw [← hW0]; simp [go_sem]
  have fr3 : W0.frozen? ⟨w.heap.size, 3, none⟩ = false := by rw [← hW0]; simp [go_sem]
  have HB0 := Lib.hid B0
  clear B0
  go_enter Try.func51, Try.ntmps51
  go_wp2_with fail
  clear hW0
  refine (routeOk_any a vs cap _ (HV.out.below HB0.out) HF.out HN.out).mono ?_
  rintro e w1 ⟨b, rfl, hb, hb1⟩
  have HI := Lib.hid hb
  replace r0 := (hb1.cell (p := ⟨w.heap.size, 0, none⟩) hs).trans r0
  replace r1 := (hb1.cell (p := ⟨w.heap.size, 1, none⟩) hs).trans r1
  replace r2 := (hb1.cell (p := ⟨w.heap.size, 2, none⟩) hs).trans r2
  replace r3 := (hb1.cell (p := ⟨w.heap.size, 3, none⟩) hs).trans r3
  replace fr0 := (hb1.frozen (p := ⟨w.heap.size, 0, none⟩) hs).trans fr0
  replace fr1 := (hb1.frozen (p := ⟨w.heap.size, 1, none⟩) hs).trans fr1
  replace fr2 := (hb1.frozen (p := ⟨w.heap.size, 2, none⟩) hs).trans fr2
  replace fr3 := (hb1.frozen (p := ⟨w.heap.size, 3, none⟩) hs).trans fr3
  replace hs : w.heap.size < w1.heap.size := Nat.lt_of_lt_of_le hs hb1.size
  have HB := Lib.hid (HB0.out.trans (hb1.mono HB0.out.size))
  clear hb hb1
  cases b
  · have hno : ¬ RouteOkP vs := fun h => absurd (HI.out.2 h) (by decide)
    have HNO := Lib.hid hno
    clear hno
    go_wp2_with fail
    exact bodyPost_ret (v := .tuple #[.agg #[.string ⟨#[]⟩, .string ⟨#[]⟩, .int .i64 0, .int .i64 0], .bool false]) (by simp [results, Try.results51, go_sem, r0, r1, r2, r3, fr0, fr1, fr2, fr3, hs]) rfl ⟨_, false, rfl, .inr ⟨fun h => HNO.out h.1, rfl, rfl⟩, ((((HB.out.setCell (p := ⟨w.heap.size, 0, none⟩) (Nat.le_refl _) _).setCell (p := ⟨w.heap.size, 1, none⟩) (Nat.le_refl _) _).setCell (p := ⟨w.heap.size, 2, none⟩) (Nat.le_refl _) _).setCell (p := ⟨w.heap.size, 3, none⟩) (Nat.le_refl _) _)⟩
  have hyes : RouteOkP vs := HI.out.1 (by simp)
  have HY := Lib.hid hyes
  clear hyes
  go_wp2_with fail
  go_loopw [14] (fun i wr => ∃ k : Nat, k ≤ vs.length ∧ i = .int .i64 k ∧ Below w1.heap.size w1 wr ∧ (keyOkB key = true → NoneTo vs key k)) (fun i _ => vs.length - (intOf i).toNat)
  case atStart => exact ⟨0, Nat.zero_le _, rfl, Below.refl _ _, fun _ _ _ h => absurd h (by omega)⟩
  case round =>
    obtain ⟨k, hk, rfl, hB, hM⟩ := hrel
    replace r0 := (hB.cell (p := ⟨w.heap.size, 0, none⟩) hs).trans r0
    replace r1 := (hB.cell (p := ⟨w.heap.size, 1, none⟩) hs).trans r1
    replace r2 := (hB.cell (p := ⟨w.heap.size, 2, none⟩) hs).trans r2
    replace r3 := (hB.cell (p := ⟨w.heap.size, 3, none⟩) hs).trans r3
    replace fr0 := (hB.frozen (p := ⟨w.heap.size, 0, none⟩) hs).trans fr0
    replace fr1 := (hB.frozen (p := ⟨w.heap.size, 1, none⟩) hs).trans fr1
    replace fr2 := (hB.frozen (p := ⟨w.heap.size, 2, none⟩) hs).trans fr2
    replace fr3 := (hB.frozen (p := ⟨w.heap.size, 3, none⟩) hs).trans fr3
    have hs1 := hs
    replace hs : w.heap.size < wr.heap.size := Nat.lt_of_lt_of_le hs hB.size
    have HW := Lib.hid hB
    have HB2 := Lib.hid (HB.out.trans (hB.mono HB.out.size))
    have HM := Lib.hid hM
    clear hB hM
    by_cases hlt : k < vs.length
    · rcases HV.out.below HB2.out with hnil | ⟨b1, o1, rfl, hb1, hc1⟩
      · rw [hnil] at hlt; simp at hlt
      obtain ⟨c0, c1, c2, c3⟩ := hc1 k hlt
      obtain ⟨hs0, hsB⟩ := HF.out _ (List.getElem_mem hlt)
      clear hc1
      have hsp := spanOk_at HY.out hlt
      obtain ⟨W1, hW1⟩ : ∃ W1, wr.alloc (.cells #[.string vs[k].f0, .string vs[k].f1, .int .i64 vs[k].f2, .int .i64 vs[k].f3] 84) = W1 := ⟨_, rfl⟩
      have B1 : Below wr.heap.size wr W1 := by rw [← hW1]; exact (Below.refl _ _).alloc (Nat.le_refl _) _
      have z1 : wr.heap.size < W1.heap.size := by rw [← hW1]; simp
      have d0 : W1.cell? ⟨wr.heap.size, 0, none⟩ = some (.string vs[k].f0) := by rw [← hW1]; simp [go_sem]
      have d1 : W1.cell? ⟨wr.heap.size, 1, none⟩ = some (.string vs[k].f1) := by rw [← hW1]; simp [go_sem]
      have d2 : W1.cell? ⟨wr.heap.size, 2, none⟩ = some (.int .i64 vs[k].f2) := by rw [← hW1]; simp [go_sem]
      have d3 : W1.cell? ⟨wr.heap.size, 3, none⟩ = some (.int .i64 vs[k].f3) := by rw [← hW1]; simp [go_sem]
      replace r0 := (B1.cell (p := ⟨w.heap.size, 0, none⟩) hs).trans r0
      replace r1 := (B1.cell (p := ⟨w.heap.size, 1, none⟩) hs).trans r1
      replace r2 := (B1.cell (p := ⟨w.heap.size, 2, none⟩) hs).trans r2
      replace r3 := (B1.cell (p := ⟨w.heap.size, 3, none⟩) hs).trans r3
      replace fr0 := (B1.frozen (p := ⟨w.heap.size, 0, none⟩) hs).trans fr0
      replace fr1 := (B1.frozen (p := ⟨w.heap.size, 1, none⟩) hs).trans fr1
      replace fr2 := (B1.frozen (p := ⟨w.heap.size, 2, none⟩) hs).trans fr2
      replace fr3 := (B1.frozen (p := ⟨w.heap.size, 3, none⟩) hs).trans fr3
      replace hs : w.heap.size < W1.heap.size := Nat.lt_of_lt_of_le hs B1.size
      have HX1 := Lib.hid B1
      clear B1
      go_wp2_with fail
      clear hW1
      cases hH : spanHasB vs[k].f0 vs[k].f1 key
      all_goals
        refine (spanHas_is hH hs0 hsB hkey _).mono ?_
        rintro e w2 ⟨rfl, hb2⟩
        replace r0 := (hb2.cell (p := ⟨w.heap.size, 0, none⟩) hs).trans r0
        replace r1 := (hb2.cell (p := ⟨w.heap.size, 1, none⟩) hs).trans r1
        replace r2 := (hb2.cell (p := ⟨w.heap.size, 2, none⟩) hs).trans r2
        replace r3 := (hb2.cell (p := ⟨w.heap.size, 3, none⟩) hs).trans r3
        replace fr0 := (hb2.frozen (p := ⟨w.heap.size, 0, none⟩) hs).trans fr0
        replace fr1 := (hb2.frozen (p := ⟨w.heap.size, 1, none⟩) hs).trans fr1
        replace fr2 := (hb2.frozen (p := ⟨w.heap.size, 2, none⟩) hs).trans fr2
        replace fr3 := (hb2.frozen (p := ⟨w.heap.size, 3, none⟩) hs).trans fr3
        replace d0 := (hb2.cell (p := ⟨wr.heap.size, 0, none⟩) z1).trans d0
        replace d1 := (hb2.cell (p := ⟨wr.heap.size, 1, none⟩) z1).trans d1
        replace d2 := (hb2.cell (p := ⟨wr.heap.size, 2, none⟩) z1).trans d2
        replace d3 := (hb2.cell (p := ⟨wr.heap.size, 3, none⟩) z1).trans d3
        replace hs : w.heap.size < w2.heap.size := Nat.lt_of_lt_of_le hs hb2.size
        have HX2 := Lib.hid (HX1.out.trans (hb2.mono HX1.out.size))
        have HB3 := Lib.hid (HB2.out.trans (HX2.out.mono HB2.out.size))
        clear hb2
        go_wp2_with fail
      · go_roundw
        case rel => exact ⟨k + 1, by omega, by go_num, HW.out.trans (HX2.out.mono HW.out.size), fun hK => (HM.out hK).succ hlt (by simpa [spanHasB, hsp, hK] using hH)⟩
        case measure => simp [intOf]; omega
      · have hK : keyOkB key = true ∧ hasB vs[k].f0 vs[k].f1 key = true := by simpa [spanHasB, hsp] using hH
        have HK := Lib.hid hK
        clear hK hH
        exact bodyPost_ret (v := .tuple #[.agg #[.string vs[k].f0, .string vs[k].f1, .int .i64 vs[k].f2, .int .i64 vs[k].f3], .bool true]) (by simp [results, Try.results51, go_sem, r0, r1, r2, r3, fr0, fr1, fr2, fr3, hs]) rfl ⟨_, true, rfl, .inl ⟨HY.out, HK.out.1, .inl ⟨find_some (HM.out HK.out.1) hlt HK.out.2, rfl⟩⟩, ((((HB3.out.setCell (p := ⟨w.heap.size, 0, none⟩) (Nat.le_refl _) _).setCell (p := ⟨w.heap.size, 1, none⟩) (Nat.le_refl _) _).setCell (p := ⟨w.heap.size, 2, none⟩) (Nat.le_refl _) _).setCell (p := ⟨w.heap.size, 3, none⟩) (Nat.le_refl _) _)⟩
    · obtain rfl : k = vs.length := by omega
      go_wp2_with fail
      cases hK : keyOkB key
      · exact bodyPost_ret (v := .tuple #[.agg #[.string ⟨#[]⟩, .string ⟨#[]⟩, .int .i64 0, .int .i64 0], .bool false]) (by simp [results, Try.results51, go_sem, r0, r1, r2, r3, fr0, fr1, fr2, fr3, hs]) rfl ⟨_, false, rfl, .inr ⟨fun h => absurd h.2 (by rw [hK]; decide), rfl, rfl⟩, ((((HB2.out.setCell (p := ⟨w.heap.size, 0, none⟩) (Nat.le_refl _) _).setCell (p := ⟨w.heap.size, 1, none⟩) (Nat.le_refl _) _).setCell (p := ⟨w.heap.size, 2, none⟩) (Nat.le_refl _) _).setCell (p := ⟨w.heap.size, 3, none⟩) (Nat.le_refl _) _)⟩
      · exact bodyPost_ret (v := .tuple #[.agg #[.string ⟨#[]⟩, .string ⟨#[]⟩, .int .i64 0, .int .i64 0], .bool false]) (by simp [results, Try.results51, go_sem, r0, r1, r2, r3, fr0, fr1, fr2, fr3, hs]) rfl ⟨_, false, rfl, .inl ⟨HY.out, hK, .inr ⟨find_none (HM.out hK), rfl, rfl⟩⟩, ((((HB2.out.setCell (p := ⟨w.heap.size, 0, none⟩) (Nat.le_refl _) _).setCell (p := ⟨w.heap.size, 1, none⟩) (Nat.le_refl _) _).setCell (p := ⟨w.heap.size, 2, none⟩) (Nat.le_refl _) _).setCell (p := ⟨w.heap.size, 3, none⟩) (Nat.le_refl _) _)⟩

set_option maxRecDepth 100000 in
set_option maxHeartbeats 4000000 in
theorem specRouteFind_any (a : Option Addr) (vs : List KnownD) (cap : Nat) (key : ByteArray) (w : World) (hv : KnownsIn w a vs) (hf : ∀ v ∈ vs, v.fits) (hn : vs.length ≤ maxLen) (hkey : key.size ≤ maxLen) :
    Calls Try.prog 52 #[.slice a vs.length cap, .string key] w (RfPost vs key w) := by
  have HV := Lib.hid hv
  have HF := Lib.hid hf
  have HN := Lib.hid hn
  unfold maxLen at hn
  clear hv hf
  obtain ⟨W0, hW0⟩ : ∃ W0, w.alloc (.cells #[.string ⟨#[]⟩, .string ⟨#[]⟩, .int .i64 0, .int .i64 0] 84) = W0 := ⟨_, rfl⟩
  have B0 : Below w.heap.size w W0 := by rw [← hW0]; exact (Below.refl _ _).alloc (Nat.le_refl _) _
  have hs : w.heap.size < W0.heap.size := by rw [← hW0]; simp
  have r0 : W0.cell? ⟨w.heap.size, 0, none⟩ = some (.string ⟨#[]⟩) := by rw [← hW0]; simp [go_sem]
  have r1 : W0.cell? ⟨w.heap.size, 1, none⟩ = some (.string ⟨#[]⟩) := by rw [← hW0]; simp [go_sem]
  have r2 : W0.cell? ⟨w.heap.size, 2, none⟩ = some (.int .i64 0) := by rw [← hW0]; simp [go_sem]
  have r3 : W0.cell? ⟨w.heap.size, 3, none⟩ = some (.int .i64 0) := by rw [← hW0]; simp [go_sem]
  have fr0 : W0.frozen? ⟨w.heap.size, 0, none⟩ = false := by rw [← hW0]; simp [go_sem]
  have fr1 : W0.frozen? ⟨w.heap.size, 1, none⟩ = false := by rw [← hW0]; simp [go_sem]
  have fr2 : W0.frozen? ⟨w.heap.size, 2, none⟩ = false := by rw [← hW0]; simp [go_sem]
  have fr3 : W0.frozen? ⟨w.heap.size, 3, none⟩ = false := by rw [← hW0]; simp [go_sem]
  have HB0 := Lib.hid B0
  clear B0
  go_enter Try.func52, Try.ntmps52
  go_wp2_with fail
  clear hW0
  refine (l12Ok_any a vs cap _ (HV.out.below HB0.out) HF.out HN.out).mono ?_
  rintro e w1 ⟨b, rfl, hb, hb1⟩
  have HI := Lib.hid hb
  replace r0 := (hb1.cell (p := ⟨w.heap.size, 0, none⟩) hs).trans r0
  replace r1 := (hb1.cell (p := ⟨w.heap.size, 1, none⟩) hs).trans r1
  replace r2 := (hb1.cell (p := ⟨w.heap.size, 2, none⟩) hs).trans r2
  replace r3 := (hb1.cell (p := ⟨w.heap.size, 3, none⟩) hs).trans r3
  replace fr0 := (hb1.frozen (p := ⟨w.heap.size, 0, none⟩) hs).trans fr0
  replace fr1 := (hb1.frozen (p := ⟨w.heap.size, 1, none⟩) hs).trans fr1
  replace fr2 := (hb1.frozen (p := ⟨w.heap.size, 2, none⟩) hs).trans fr2
  replace fr3 := (hb1.frozen (p := ⟨w.heap.size, 3, none⟩) hs).trans fr3
  replace hs : w.heap.size < w1.heap.size := Nat.lt_of_lt_of_le hs hb1.size
  have HB := Lib.hid (HB0.out.trans (hb1.mono HB0.out.size))
  clear hb hb1
  cases b
  · have hno : ¬ RouteOkP vs := fun h => absurd (HI.out.2 h) (by decide)
    have HNO := Lib.hid hno
    clear hno
    go_wp2_with fail
    exact bodyPost_ret (v := .tuple #[.agg #[.string ⟨#[]⟩, .string ⟨#[]⟩, .int .i64 0, .int .i64 0], .bool false]) (by simp [results, Try.results52, go_sem, r0, r1, r2, r3, fr0, fr1, fr2, fr3, hs]) rfl ⟨_, false, rfl, .inr ⟨fun h => HNO.out h.1, rfl, rfl⟩, ((((HB.out.setCell (p := ⟨w.heap.size, 0, none⟩) (Nat.le_refl _) _).setCell (p := ⟨w.heap.size, 1, none⟩) (Nat.le_refl _) _).setCell (p := ⟨w.heap.size, 2, none⟩) (Nat.le_refl _) _).setCell (p := ⟨w.heap.size, 3, none⟩) (Nat.le_refl _) _)⟩
  have hyes : RouteOkP vs := HI.out.1 (by simp)
  have HY := Lib.hid hyes
  clear hyes
  cases hK : keyOkB key
  · go_wp2_with (go_at_call 79; refine (l1Key_any _ _ hkey).mono ?_; rintro e w' ⟨rfl, rfl⟩; rw [hK])
    exact bodyPost_ret (v := .tuple #[.agg #[.string ⟨#[]⟩, .string ⟨#[]⟩, .int .i64 0, .int .i64 0], .bool false]) (by simp [results, Try.results52, go_sem, r0, r1, r2, r3, fr0, fr1, fr2, fr3, hs]) rfl ⟨_, false, rfl, .inr ⟨fun h => absurd h.2 (by rw [hK]; decide), rfl, rfl⟩, ((((HB.out.setCell (p := ⟨w.heap.size, 0, none⟩) (Nat.le_refl _) _).setCell (p := ⟨w.heap.size, 1, none⟩) (Nat.le_refl _) _).setCell (p := ⟨w.heap.size, 2, none⟩) (Nat.le_refl _) _).setCell (p := ⟨w.heap.size, 3, none⟩) (Nat.le_refl _) _)⟩
  go_wp2_with (go_at_call 79; refine (l1Key_any _ _ hkey).mono ?_; rintro e w' ⟨rfl, rfl⟩; rw [hK])
  go_loopw [6] (fun i wr => ∃ k : Nat, k ≤ vs.length ∧ i = .int .i64 k ∧ Below w1.heap.size w1 wr ∧ NoneTo vs key k) (fun i _ => vs.length - (intOf i).toNat)
  case atStart => exact ⟨0, Nat.zero_le _, rfl, Below.refl _ _, fun _ _ h => absurd h (by omega)⟩
  case round =>
    obtain ⟨k, hk, rfl, hB, hM⟩ := hrel
    replace r0 := (hB.cell (p := ⟨w.heap.size, 0, none⟩) hs).trans r0
    replace r1 := (hB.cell (p := ⟨w.heap.size, 1, none⟩) hs).trans r1
    replace r2 := (hB.cell (p := ⟨w.heap.size, 2, none⟩) hs).trans r2
    replace r3 := (hB.cell (p := ⟨w.heap.size, 3, none⟩) hs).trans r3
    replace fr0 := (hB.frozen (p := ⟨w.heap.size, 0, none⟩) hs).trans fr0
    replace fr1 := (hB.frozen (p := ⟨w.heap.size, 1, none⟩) hs).trans fr1
    replace fr2 := (hB.frozen (p := ⟨w.heap.size, 2, none⟩) hs).trans fr2
    replace fr3 := (hB.frozen (p := ⟨w.heap.size, 3, none⟩) hs).trans fr3
    have hs1 := hs
    replace hs : w.heap.size < wr.heap.size := Nat.lt_of_lt_of_le hs hB.size
    have HW := Lib.hid hB
    have HB2 := Lib.hid (HB.out.trans (hB.mono HB.out.size))
    have HM := Lib.hid hM
    clear hB hM
    by_cases hlt : k < vs.length
    · rcases HV.out.below HB2.out with hnil | ⟨b1, o1, rfl, hb1, hc1⟩
      · rw [hnil] at hlt; simp at hlt
      obtain ⟨c0, c1, c2, c3⟩ := hc1 k hlt
      obtain ⟨hs0, hsB⟩ := HF.out _ (List.getElem_mem hlt)
      clear hc1
      go_wp2_with fail
      cases hH : hasB vs[k].f0 vs[k].f1 key
      all_goals
        refine (l1Has_isK hH _).mono ?_
        rintro e w2 ⟨rfl, hb2⟩
        replace r0 := (hb2.cell (p := ⟨w.heap.size, 0, none⟩) hs).trans r0
        replace r1 := (hb2.cell (p := ⟨w.heap.size, 1, none⟩) hs).trans r1
        replace r2 := (hb2.cell (p := ⟨w.heap.size, 2, none⟩) hs).trans r2
        replace r3 := (hb2.cell (p := ⟨w.heap.size, 3, none⟩) hs).trans r3
        replace fr0 := (hb2.frozen (p := ⟨w.heap.size, 0, none⟩) hs).trans fr0
        replace fr1 := (hb2.frozen (p := ⟨w.heap.size, 1, none⟩) hs).trans fr1
        replace fr2 := (hb2.frozen (p := ⟨w.heap.size, 2, none⟩) hs).trans fr2
        replace fr3 := (hb2.frozen (p := ⟨w.heap.size, 3, none⟩) hs).trans fr3
        replace c0 := (hb2.cell (p := ⟨b1, o1 + k * 4, none⟩) hb1).trans c0
        replace c1 := (hb2.cell (p := ⟨b1, o1 + k * 4 + 1, none⟩) hb1).trans c1
        replace c2 := (hb2.cell (p := ⟨b1, o1 + k * 4 + 2, none⟩) hb1).trans c2
        replace c3 := (hb2.cell (p := ⟨b1, o1 + k * 4 + 3, none⟩) hb1).trans c3
        replace hs : w.heap.size < w2.heap.size := Nat.lt_of_lt_of_le hs hb2.size
        have hb1' : b1 < w2.heap.size := Nat.lt_of_lt_of_le hb1 hb2.size
        have HX2 := Lib.hid hb2
        have HB3 := Lib.hid (HB2.out.trans (HX2.out.mono HB2.out.size))
        clear hb2
        go_wp2_with fail
      · go_roundw
        case rel => exact ⟨k + 1, by omega, by go_num, HW.out.trans (HX2.out.mono HW.out.size), HM.out.succ hlt hH⟩
        case measure => simp [intOf]; omega
      · exact bodyPost_ret (v := .tuple #[.agg #[.string vs[k].f0, .string vs[k].f1, .int .i64 vs[k].f2, .int .i64 vs[k].f3], .bool true]) (by simp [results, Try.results52, go_sem, r0, r1, r2, r3, fr0, fr1, fr2, fr3, hs]) rfl ⟨_, true, rfl, .inl ⟨HY.out, hK, .inl ⟨find_some HM.out hlt hH, rfl⟩⟩, ((((HB3.out.setCell (p := ⟨w.heap.size, 0, none⟩) (Nat.le_refl _) _).setCell (p := ⟨w.heap.size, 1, none⟩) (Nat.le_refl _) _).setCell (p := ⟨w.heap.size, 2, none⟩) (Nat.le_refl _) _).setCell (p := ⟨w.heap.size, 3, none⟩) (Nat.le_refl _) _)⟩
    · obtain rfl : k = vs.length := by omega
      go_wp2_with fail
      exact bodyPost_ret (v := .tuple #[.agg #[.string ⟨#[]⟩, .string ⟨#[]⟩, .int .i64 0, .int .i64 0], .bool false]) (by simp [results, Try.results52, go_sem, r0, r1, r2, r3, fr0, fr1, fr2, fr3, hs]) rfl ⟨_, false, rfl, .inl ⟨HY.out, hK, .inr ⟨find_none HM.out, rfl, rfl⟩⟩, ((((HB2.out.setCell (p := ⟨w.heap.size, 0, none⟩) (Nat.le_refl _) _).setCell (p := ⟨w.heap.size, 1, none⟩) (Nat.le_refl _) _).setCell (p := ⟨w.heap.size, 2, none⟩) (Nat.le_refl _) _).setCell (p := ⟨w.heap.size, 3, none⟩) (Nat.le_refl _) _)⟩
end Go.Proofs.Ytjijichgoodocaa
