/- One more in its place: the program's walk. -/
import Derived.Test.YtjijichgoodocaaAppK
import Derived.Deep.Cut
import Derived.Test.YtjijichgoodocaaRrS
namespace Go.Proofs.Ytjijichgoodocaa
open Go.RowKit

theorem own_lower {w : World} {B B' size n : Nat} {e : TypeId} {v : Value} {xs : List Value} (h : w.ownsRow B e size v n xs) (hb : B' ≤ B) : w.ownsRow B' e size v n xs :=
  ⟨h.1, h.2.imp id fun ⟨g, c, cur, a, b, r⟩ => ⟨g, c, cur, a, Nat.le_trans hb b, r⟩⟩
theorem put_far {w1 w2 : World} {b o : Nat} {v x : Value} {ob : Obj} (hb : b < w1.heap.size) (hne : some b ≠ v.ownBlock) (hg : (w1.alloc ob).grownBy w2 v.ownBlock) (hx : w1.cell? ⟨b, o, none⟩ = some x) : w2.cell? ⟨b, o, none⟩ = some x :=
  (hg.cell_far ⟨b, o, none⟩ (by simp; omega) hne).trans ((((Below.refl w1.heap.size w1).alloc (Nat.le_refl _) _).cell (p := ⟨b, o, none⟩) hb).trans hx)
end Go.Proofs.Ytjijichgoodocaa

/- Is something of it known by a later map? The program's closure and its search; a copy of a list. -/
namespace Go.Proofs.Ytjijichgoodocaa
open Go.RowKit

def oldB (ep : Int) (v : KnownD) : Bool := !(decide (ep < v.f3))

theorem eqNilKnown (b o n c : Nat) (w : World) : (binOp .eql 80 (.slice (some ⟨b, o, none⟩) n c) (.slice none 0 0)).run Try.prog w = .ok (.bool false) w := by first | kernel_rfl | rfl | (simp [binOp, go_sem]; done)
end Go.Proofs.Ytjijichgoodocaa

/- What is known with one more: the program's walk. -/
namespace Go.Proofs.Ytjijichgoodocaa
open Go.RowKit

def OldAll (k : KnownD) (vs : List KnownD) (n : Nat) : Prop := ∀ i (h : i < vs.length), i < n → meetB vs[i].f0 vs[i].f1 k.f0 k.f1 = true → oldB k.f3 vs[i] = true
def LearnRel (vs : List KnownD) (k : KnownD) (us : List KnownD) (b : Bool) : Prop :=
  ((RouteOkP vs ∧ knownOkB k = true) ∧ (OldAll k vs vs.length ∧ (putI k vs).length ≤ 6) ∧ us = putI k vs ∧ b = true) ∨
  ((RouteOkP vs ∧ knownOkB k = true) ∧ ¬ (OldAll k vs vs.length ∧ (putI k vs).length ≤ 6) ∧ us = vs ∧ b = false) ∨
  (¬ (RouteOkP vs ∧ knownOkB k = true) ∧ us = [] ∧ b = false)
theorem LearnRel.unique {vs : List KnownD} {k : KnownD} {us us' : List KnownD} {b b' : Bool} (h : LearnRel vs k us b) (g : LearnRel vs k us' b') : us = us' ∧ b = b' := by
  rcases h with ⟨h1, h2, rfl, rfl⟩ | ⟨h1, h2, rfl, rfl⟩ | ⟨h1, rfl, rfl⟩ <;> rcases g with ⟨g1, g2, rfl, rfl⟩ | ⟨g1, g2, rfl, rfl⟩ | ⟨g1, rfl, rfl⟩
  all_goals first | exact ⟨rfl, rfl⟩ | exact absurd h1 g1 | exact absurd g1 h1 | exact absurd h2 g2 | exact absurd g2 h2
theorem mem_within {lo hi : ByteArray} {vs : List KnownD} {n : Nat} {u : KnownD} (hu : u ∈ within lo hi vs n) : ∃ i, ∃ h : i < vs.length, i < n ∧ meetB vs[i].f0 vs[i].f1 lo hi = true ∧ u.f3 = vs[i].f3 := by
  unfold within at hu
  obtain ⟨v, hv, hu⟩ := List.mem_flatMap.1 hu
  obtain ⟨i, hi, rfl⟩ := List.getElem_of_mem hv
  rw [List.getElem_take] at hu
  have hl : i < vs.length := by rw [List.length_take] at hi; omega
  refine ⟨i, hl, by rw [List.length_take] at hi; omega, ?_⟩
  unfold cutK at hu
  split at hu
  · rename_i hm
    simp at hu
    exact ⟨hm, by rw [hu]⟩
  · simp at hu
theorem old_within {k : KnownD} {vs : List KnownD} : OkBy (oldB k.f3) (within k.f0 k.f1 vs vs.length) (within k.f0 k.f1 vs vs.length).length ↔ OldAll k vs vs.length := by
  constructor
  · intro h i hi hin hm
    have hmem : (⟨mLo vs[i].f0 vs[i].f1 k.f0 k.f1, mHi vs[i].f0 vs[i].f1 k.f0 k.f1, vs[i].f2, vs[i].f3⟩ : KnownD) ∈ within k.f0 k.f1 vs vs.length := by
      unfold within
      rw [List.take_length]
      refine List.mem_flatMap.2 ⟨vs[i], List.getElem_mem hi, ?_⟩
      unfold cutK; rw [if_pos hm]; simp
    obtain ⟨j, hj, e⟩ := List.getElem_of_mem hmem
    have := h j hj hj
    rw [e] at this
    exact this
  · intro h j hj _
    obtain ⟨i, hi, hin, hm, e⟩ := mem_within (List.getElem_mem hj)
    have := h i hi hin hm
    unfold oldB at *
    rw [e]; exact this
theorem putI_le {k : KnownD} {vs : List KnownD} : (putI k vs).length ≤ 2 * vs.length + 1 := by
  unfold putI
  rw [List.length_append, List.length_append]
  have h1 := within_le ⟨#[]⟩ k.f0 vs vs.length
  have h2 := within_le k.f1 ⟨#[]⟩ vs vs.length
  split <;> split <;> simp <;> omega
theorem knownsOutB_own {w w' : World} {v : Value} {us : List KnownD} {base n : Nat} {b : Bool} (hn : n = us.length) (h : w'.ownsRow base 84 4 v n (us.flatMap knownCells)) (hb : w.heap.size ≤ base) (hB : Below w.heap.size w w') : KnownsOutB us b w (.returned (.tuple #[v, .bool b])) w' := by
  subst hn
  obtain ⟨a, c, rfl, hat⟩ := own_knowns h
  exact ⟨a, c, rfl, hat.lower hb, hB⟩
theorem knownsOutB_nil {w w' : World} {b : Bool} (hB : Below w.heap.size w w') : KnownsOutB [] b w (.returned (.tuple #[.slice none 0 0, .bool b])) w' :=
  ⟨none, 0, rfl, ⟨.inl rfl, .inl rfl, (fun b off e => by cases e), Nat.le_refl _⟩, hB⟩
end Go.Proofs.Ytjijichgoodocaa

/- Is nothing of it known by a later map? The model's walk. -/
namespace Go.Proofs.Ytjijichgoodocaa
open Go.RowKit

set_option maxRecDepth 100000 in
set_option maxHeartbeats 8000000 in
theorem l12Newer_any (k : KnownD) (a : Option Addr) (vs : List KnownD) (cap : Nat) (w : World) (hkf : k.fits) (hv : KnownsIn w a vs) (hf : ∀ v ∈ vs, v.fits) (hn : vs.length ≤ 1048576) :
    Calls Try.prog 207 #[.slice a vs.length cap, .agg #[.string k.f0, .string k.f1, .int .i64 k.f2, .int .i64 k.f3]] w (BoolPost (OldAll k vs vs.length) w) := by
  have HV := Lib.hid hv
  have HF := Lib.hid hf
  clear hv hf
  obtain ⟨ht0, ht1⟩ := hkf
  obtain ⟨W0, hW0⟩ : ∃ W0, w.alloc (.cells #[.string k.f0, .string k.f1, .int .i64 k.f2, .int .i64 k.f3] 84) = W0 := ⟨_, rfl⟩
  have B0 : Below w.heap.size w W0 := by rw [← hW0]; exact (Below.refl _ _).alloc (Nat.le_refl _) _
  have s0 : w.heap.size < W0.heap.size := by rw [← hW0]; simp
  have x0 : W0.cell? ⟨w.heap.size, 0, none⟩ = some (.string k.f0) := by rw [← hW0]; simp [go_sem]
  have x1 : W0.cell? ⟨w.heap.size, 1, none⟩ = some (.string k.f1) := by rw [← hW0]; simp [go_sem]
  have x3 : W0.cell? ⟨w.heap.size, 3, none⟩ = some (.int .i64 k.f3) := by rw [← hW0]; simp [go_sem]
  have HB0 := Lib.hid B0
  clear B0
  go_enter Try.func207, Try.ntmps207
  go_wp2_with fail
  clear hW0
  go_loopw [5] (fun i wr => ∃ j : Nat, j ≤ vs.length ∧ i = .int .i64 j ∧ Below W0.heap.size W0 wr ∧ OldAll k vs j) (fun i _ => vs.length - (intOf i).toNat)
  case atStart => exact ⟨0, Nat.zero_le _, rfl, Below.refl _ _, fun i _ h => absurd h (by omega)⟩
  case round =>
    obtain ⟨j, hjl, rfl, hB, hM⟩ := hrel
    have HM := Lib.hid hM
    have z0 := (hB.cell (p := ⟨w.heap.size, 0, none⟩) s0).trans x0
    have z1 := (hB.cell (p := ⟨w.heap.size, 1, none⟩) s0).trans x1
    have z3 := (hB.cell (p := ⟨w.heap.size, 3, none⟩) s0).trans x3
    have sr : w.heap.size < wr.heap.size := Nat.lt_of_lt_of_le s0 hB.size
    have HWr := Lib.hid hB
    have HX := Lib.hid (HB0.out.trans (hB.mono HB0.out.size))
    clear hB hM
    by_cases hjt : j < vs.length
    case neg =>
      obtain rfl : j = vs.length := by omega
      go_wp2_with fail
      go_ret
      exact BoolPost.yes HM.out HX.out
    rcases HV.out.below HX.out with hnil | ⟨b1, o1, rfl, sb, hc1⟩
    · rw [hnil] at hjt; simp at hjt
    obtain ⟨d0, d1, -, d3⟩ := hc1 j hjt
    clear hc1
    obtain ⟨hs0, hs1⟩ := HF.out _ (List.getElem_mem hjt)
    have i1 : (0 : Int) ≤ (j : Int) := by omega
    have i2 : (j : Int) < (vs.length : Int) := by omega
    obtain ⟨V, hV⟩ : ∃ V, wr.alloc (.cells #[.string ⟨#[]⟩, .string ⟨#[]⟩] 47) = V := ⟨_, rfl⟩
    have hb0 : Below wr.heap.size wr V := by rw [← hV]; exact (Below.refl _ _).alloc (Nat.le_refl _) _
    have n0 : V.cell? ⟨wr.heap.size, 0, none⟩ = some (.string ⟨#[]⟩) := by rw [← hV]; simp [go_sem]
    have n1 : V.cell? ⟨wr.heap.size, 1, none⟩ = some (.string ⟨#[]⟩) := by rw [← hV]; simp [go_sem]
    have m0 : V.frozen? ⟨wr.heap.size, 0, none⟩ = false := by rw [← hV]; simp [go_sem]
    have m1 : V.frozen? ⟨wr.heap.size, 1, none⟩ = false := by rw [← hV]; simp [go_sem]
    have v0 := (hb0.cell (p := ⟨w.heap.size, 0, none⟩) sr).trans z0
    have v1 := (hb0.cell (p := ⟨w.heap.size, 1, none⟩) sr).trans z1
    have v2 := (hb0.cell (p := ⟨b1, o1 + j * 4, none⟩) sb).trans d0
    have v3 := (hb0.cell (p := ⟨b1, o1 + j * 4 + 1, none⟩) sb).trans d1
    have sn : wr.heap.size < V.heap.size := by rw [← hV]; simp
    go_upto_region 4 with fail
    go_cut [6, 7] from 8 to 24 (fun s6 s7 u => s7 = .bool (meetB vs[j].f0 vs[j].f1 k.f0 k.f1) ∧ Below wr.heap.size wr u)
    case first =>
      go_region_with (first
        | (go_at_call 126; (with_reducible refine (specSpanMeet_any vs[j].f0 vs[j].f1 k.f0 k.f1 V.drew hs0 hs1 ht0 ht1).mono ?_); rintro e wD ⟨rfl, hb⟩; have n0' := (hb.cell (p := ⟨wr.heap.size, 0, none⟩) sn).trans n0; have n1' := (hb.cell (p := ⟨wr.heap.size, 1, none⟩) sn).trans n1; have m0' := (hb.frozen (p := ⟨wr.heap.size, 0, none⟩) sn).trans m0; have m1' := (hb.frozen (p := ⟨wr.heap.size, 1, none⟩) sn).trans m1; have X2 := Lib.hid hb; clear hb)
        | (go_at_call 126; (with_reducible refine (specSpanMeet_any vs[j].f0 vs[j].f1 k.f0 k.f1 _ hs0 hs1 ht0 ht1).mono ?_); rintro e wD ⟨rfl, hb⟩; have X2 := Lib.hid hb; clear hb))
      all_goals
        have BD : Below wr.heap.size wr wD := by first | exact below_bothD X2.out | exact below_bothV hb0 X2.out
        first
          | (obtain ⟨F, hF⟩ : ∃ F, wD.alloc (.cells #[.string (mLo vs[j].f0 vs[j].f1 k.f0 k.f1), .string (mHi vs[j].f0 vs[j].f1 k.f0 k.f1)] 47) = F := ⟨_, rfl⟩; rw [hF]; have Z : Below wr.heap.size wr F := hF ▸ BD.alloc BD.size _)
          | (obtain ⟨F, hF⟩ : ∃ F, ((wD.setCell ⟨wr.heap.size, 0, none⟩ (.string (mLo vs[j].f0 vs[j].f1 k.f0 k.f1))).setCell ⟨wr.heap.size, 1, none⟩ (.string (mHi vs[j].f0 vs[j].f1 k.f0 k.f1))) = F := ⟨_, rfl⟩; rw [hF]; have Z : Below wr.heap.size wr F := hF ▸ (BD.setCell (Nat.le_refl _) _).setCell (Nat.le_refl _) _)
        go_wp2_with fail
        go_meet
        exact ⟨rfl, Z⟩
    case rest =>
      obtain ⟨rfl, Z⟩ := hcut
      clear hb0 hV n0 n1 m0 m1 v0 v1 v2 v3 sn
      obtain ⟨F, rfl⟩ : ∃ F, F = wc := ⟨_, rfl⟩
      have z3F := (Z.cell (p := ⟨w.heap.size, 3, none⟩) sr).trans z3
      have d3F := (Z.cell (p := ⟨b1, o1 + j * 4 + 3, none⟩) sb).trans d3
      have HZ := Lib.hid Z
      clear Z
      cases hMt : meetB vs[j].f0 vs[j].f1 k.f0 k.f1
      case' true => by_cases hND : k.f3 < vs[j].f3
      case pos =>
        go_wp2_with fail
        go_quiet (fail)
        go_wp2_with fail
        go_ret
        exact BoolPost.no (fun h => absurd (h j hjt hjt hMt) (by simp [oldB, hND])) (below_drewN (HX.out.trans (HZ.out.mono HX.out.size)) _)
      all_goals
        have HP := Lib.hid (show meetB vs[j].f0 vs[j].f1 k.f0 k.f1 = true → oldB k.f3 vs[j] = true from fun hm => by first | (simp [oldB, hND]; done) | (rw [hMt] at hm; cases hm) | (simp [oldB]; omega))
        go_wp2_with fail
        go_quiet (fail)
        go_wp2_with fail
        go_roundw
        case rel => exact ⟨j + 1, by omega, by go_num, below_drewN (HWr.out.trans (HZ.out.mono HWr.out.size)) _, fun i hi hin => by
          by_cases q : i = j
          · subst q; exact HP.out
          · exact HM.out i hi (by omega)⟩
        case measure => simp [intOf]; omega
end Go.Proofs.Ytjijichgoodocaa

/- What is left of a span without another one: the model's walk. -/
namespace Go.Proofs.Ytjijichgoodocaa
open Go.RowKit

theorem own_litK (w : World) (v : KnownD) {B : Nat} (hb : B ≤ w.heap.size) : (w.alloc (.cells #[.string v.f0, .string v.f1, .int .i64 v.f2, .int .i64 v.f3] 84)).ownsRow B 84 4 (.slice (some ⟨w.heap.size, 0, none⟩) 1 1) 1 (knownCells v) :=
  World.ownsRow_lit w #[.string v.f0, .string v.f1, .int .i64 v.f2, .int .i64 v.f3] 1 hb (by unfold maxLen; omega) rfl

set_option maxRecDepth 100000 in
set_option maxHeartbeats 4000000 in
theorem l12Rest_any (k v : KnownD) (w : World) (hkf : k.fits) (hvf : v.fits) :
    Calls Try.prog 208 #[.agg #[.string v.f0, .string v.f1, .int .i64 v.f2, .int .i64 v.f3], .agg #[.string k.f0, .string k.f1]] w fun e w' => ∃ gx cx, e = .returned (.slice (some ⟨gx, 0, none⟩) (restK k v).length cx) ∧ w'.ownsRow w.heap.size 84 4 (.slice (some ⟨gx, 0, none⟩) (restK k v).length cx) (restK k v).length ((restK k v).flatMap knownCells) ∧ Below w.heap.size w w' := by
  obtain ⟨hk0, hk1⟩ := hkf
  obtain ⟨hv0, hv1⟩ := hvf
  obtain ⟨i0, hi0, hz0, hz1, hz2⟩ := info_parts infoKnown
  obtain ⟨W0, hW0⟩ : ∃ W0, (w.alloc (.cells #[.string v.f0, .string v.f1, .int .i64 v.f2, .int .i64 v.f3] 84)).alloc (.cells #[.string k.f0, .string k.f1] 47) = W0 := ⟨_, rfl⟩
  have B0 : Below w.heap.size w W0 := by rw [← hW0]; exact ((Below.refl _ _).alloc (Nat.le_refl _) _).alloc (by simp) _
  have s0 : W0.heap.size = w.heap.size + 1 + 1 := by rw [← hW0]; simp
  have x0 : W0.cell? ⟨w.heap.size, 0, none⟩ = some (.string v.f0) := by rw [← hW0]; simp [go_sem]
  have x1 : W0.cell? ⟨w.heap.size, 1, none⟩ = some (.string v.f1) := by rw [← hW0]; simp [go_sem]
  have x2 : W0.cell? ⟨w.heap.size, 2, none⟩ = some (.int .i64 v.f2) := by rw [← hW0]; simp [go_sem]
  have x3 : W0.cell? ⟨w.heap.size, 3, none⟩ = some (.int .i64 v.f3) := by rw [← hW0]; simp [go_sem]
  have y0 : W0.cell? ⟨w.heap.size + 1, 0, none⟩ = some (.string k.f0) := by rw [← hW0]; simp [go_sem]
  have y1 : W0.cell? ⟨w.heap.size + 1, 1, none⟩ = some (.string k.f1) := by rw [← hW0]; simp [go_sem]
  have sx : w.heap.size < W0.heap.size := by omega
  have sy : w.heap.size + 1 < W0.heap.size := by omega
  have HB0 := Lib.hid B0
  clear B0
  go_enter Try.func208, Try.ntmps208
  go_wp2_with fail
  clear hW0
  refine (specSpanMeet_any v.f0 v.f1 k.f0 k.f1 _ hv0 hv1 hk0 hk1).mono ?_
  rintro e w5 ⟨rfl, hb5⟩
  obtain ⟨W6, hW6⟩ : ∃ W6, w5.alloc (.cells #[.string (mLo v.f0 v.f1 k.f0 k.f1), .string (mHi v.f0 v.f1 k.f0 k.f1)] 47) = W6 := ⟨_, rfl⟩
  have b6 : Below w5.heap.size w5 W6 := by rw [← hW6]; exact (Below.refl _ _).alloc (Nat.le_refl _) _
  have b06 : Below W0.heap.size W0 W6 := hb5.trans (b6.mono hb5.size)
  replace x0 := (b06.cell (p := ⟨w.heap.size, 0, none⟩) sx).trans x0
  replace x1 := (b06.cell (p := ⟨w.heap.size, 1, none⟩) sx).trans x1
  replace x2 := (b06.cell (p := ⟨w.heap.size, 2, none⟩) sx).trans x2
  replace x3 := (b06.cell (p := ⟨w.heap.size, 3, none⟩) sx).trans x3
  replace y0 := (b06.cell (p := ⟨w.heap.size + 1, 0, none⟩) sy).trans y0
  replace y1 := (b06.cell (p := ⟨w.heap.size + 1, 1, none⟩) sy).trans y1
  replace sx : w.heap.size < W6.heap.size := Nat.lt_of_lt_of_le sx b06.size
  replace sy : w.heap.size + 1 < W6.heap.size := Nat.lt_of_lt_of_le sy b06.size
  have HB6 := Lib.hid (HB0.out.trans (b06.mono HB0.out.size))
  clear b06 b6 hb5
  cases hMt : meetB v.f0 v.f1 k.f0 k.f1
  · have hR : restK k v = [v] := by unfold restK; rw [if_neg (by rw [hMt]; decide)]
    have HR := Lib.hid hR
    clear hR
    go_wp2_with fail
    clear hW6
    go_ret
    rw [HR.out]
    exact ⟨_, _, rfl, by simpa using own_litK W6 v HB6.out.size, HB6.out.alloc HB6.out.size _⟩
  obtain ⟨A, hA⟩ : ∃ A, (if v.f0.toList < k.f0.toList then [(⟨v.f0, k.f0, v.f2, v.f3⟩ : KnownD)] else []) = A := ⟨_, rfl⟩
  obtain ⟨C, hC⟩ : ∃ C, (if k.f1.toList ≠ [] ∧ (v.f1.toList = [] ∨ k.f1.toList < v.f1.toList) then [(⟨k.f1, v.f1, v.f2, v.f3⟩ : KnownD)] else []) = C := ⟨_, rfl⟩
  have HR := Lib.hid (show restK k v = A ++ C by unfold restK; rw [if_pos hMt, hA, hC])
  have lA : A.length ≤ 1 := by rw [← hA]; split <;> simp
  have HA := Lib.hid hA
  have HC := Lib.hid hC
  clear hA hC
  obtain ⟨W7, hW7⟩ : ∃ W7, W6.alloc (.cells #[] 84) = W7 := ⟨_, rfl⟩
  have O7 : W7.ownsRow W6.heap.size 84 4 (.slice (some ⟨W6.heap.size, 0, none⟩) 0 0) 0 [] := by rw [← hW7]; exact empty_knowns (heap_alloc_new _ _) (Nat.le_refl _)
  have b7 : Below W6.heap.size W6 W7 := by rw [← hW7]; exact (Below.refl _ _).alloc (Nat.le_refl _) _
  have s7 : W6.heap.size < W7.heap.size := by rw [← hW7]; simp
  have z0 := (b7.cell (p := ⟨w.heap.size, 0, none⟩) sx).trans x0
  have z2 := (b7.cell (p := ⟨w.heap.size, 2, none⟩) sx).trans x2
  have z3 := (b7.cell (p := ⟨w.heap.size, 3, none⟩) sx).trans x3
  have u0 := (b7.cell (p := ⟨w.heap.size + 1, 0, none⟩) sy).trans y0
  have HO7 := Lib.hid O7
  have HB7 := Lib.hid b7
  clear O7 b7
  go_upto_if 25 with fail
  clear hW7 hW6
  go_cut [7] from 8 (fun s7 u => ∃ g7 c7, s7 = .slice (some ⟨g7, 0, none⟩) A.length c7 ∧ u.ownsRow W6.heap.size 84 4 (.slice (some ⟨g7, 0, none⟩) A.length c7) A.length (A.flatMap knownCells) ∧ Below W6.heap.size W6 u)
  case first =>
    cases hx : Op.bytesLess v.f0.toList k.f0.toList
    · have hA2 := HA.out
      rw [if_neg (fun h => by rw [(less_iffK _ _).2 h] at hx; cases hx)] at hA2
      have HA2 := Lib.hid hA2
      clear hA2
      go_wp2_with fail
      go_meet
      rw [← HA2.out]
      exact ⟨_, _, rfl, HO7.out, HB7.out⟩
    · have hA2 := HA.out
      rw [if_pos ((less_iffK _ _).1 hx)] at hA2
      have HA2 := Lib.hid hA2
      clear hA2
      go_wp2_with (at_builtin; refine wpList_append_lies _ rfl _ _ 80 rfl W6.heap.size 84 i0 (.agg #[.string ⟨#[]⟩, .string ⟨#[]⟩, .int .i64 0, .int .i64 0]) 4 48 Try.underlying80 hi0 hz0 hz1 hz2 rfl (by decide) _ 0 [] rfl (HO7.out.alloc _) ⟨W7.heap.size, 0, none⟩ 1 1 (knownCells ⟨v.f0, k.f0, v.f2, v.f3⟩) rfl rfl (newsKnown _ ⟨v.f0, k.f0, v.f2, v.f3⟩ _ _ rfl) (known_one _) (by omega) (by unfold maxLen; omega) (by omega) (by simp; omega) _ rfl ?_; intro gg cp w8 hown hgrow hat hlt2; have X := Lib.hid (And.intro hown hgrow); clear hown hgrow hat hlt2)
      go_meet
      rw [← HA2.out]
      exact ⟨gg, cp, by simp, by simpa using X.out.1, Below.grown (HB7.out.alloc HB7.out.size _) X.out.2 (by simp; omega) (fun j hj => (HO7.out.lt j hj).1)⟩
  case rest =>
  obtain ⟨g7, c7, rfl, hO8, hb8⟩ := hcut
  obtain ⟨w8, rfl⟩ : ∃ V, V = wc := ⟨_, rfl⟩
  replace x0 := (hb8.cell (p := ⟨w.heap.size, 0, none⟩) sx).trans x0
  replace x1 := (hb8.cell (p := ⟨w.heap.size, 1, none⟩) sx).trans x1
  replace x2 := (hb8.cell (p := ⟨w.heap.size, 2, none⟩) sx).trans x2
  replace x3 := (hb8.cell (p := ⟨w.heap.size, 3, none⟩) sx).trans x3
  replace y0 := (hb8.cell (p := ⟨w.heap.size + 1, 0, none⟩) sy).trans y0
  replace y1 := (hb8.cell (p := ⟨w.heap.size + 1, 1, none⟩) sy).trans y1
  have hq := HB6.out.size
  have HO8 := Lib.hid hO8
  have HB8 := Lib.hid (HB6.out.trans (hb8.mono HB6.out.size))
  have s8 : W6.heap.size ≤ w8.heap.size := hb8.size
  clear hO8 hb8 z0 z2 z3 u0
  cases hh : k.f1.toList.isEmpty
  case' false => cases hy : v.f1.toList.isEmpty
  case' false.false => cases hz : Op.bytesLess k.f1.toList v.f1.toList
  case true =>
    have hC2 := HC.out
    rw [if_neg (fun h => h.1 ((empty_iff _).1 hh))] at hC2
    have HC2 := Lib.hid hC2
    clear hC2
    go_wp2_with fail
    go_ret
    rw [HR.out, ← HC2.out, List.append_nil]
    exact ⟨_, _, rfl, own_lower HO8.out hq, HB8.out⟩
  case false.false.false =>
    have hC2 := HC.out
    rw [if_neg (fun h => h.2.elim (fun g => by rw [(empty_iff _).2 g] at hy; cases hy) (fun g => by rw [(less_iffK _ _).2 g] at hz; cases hz))] at hC2
    have HC2 := Lib.hid hC2
    clear hC2
    go_wp2_with fail
    go_ret
    rw [HR.out, ← HC2.out, List.append_nil]
    exact ⟨_, _, rfl, own_lower HO8.out hq, HB8.out⟩
  all_goals
    have hC2 := HC.out
    rw [if_pos (And.intro (fun g => absurd ((empty_iff _).2 g) (by rw [hh]; decide)) (by first | exact Or.inl ((empty_iff _).1 hy) | exact Or.inr ((less_iffK _ _).1 hz)))] at hC2
    have HC2 := Lib.hid hC2
    clear hC2
    go_wp2_with (at_builtin; refine wpList_append_lies _ rfl _ _ 80 rfl W6.heap.size 84 i0 (.agg #[.string ⟨#[]⟩, .string ⟨#[]⟩, .int .i64 0, .int .i64 0]) 4 48 Try.underlying80 hi0 hz0 hz1 hz2 rfl (by decide) _ A.length _ rfl (HO8.out.alloc _) ⟨w8.heap.size, 0, none⟩ 1 1 (knownCells ⟨k.f1, v.f1, v.f2, v.f3⟩) rfl rfl (newsKnown _ ⟨k.f1, v.f1, v.f2, v.f3⟩ _ _ rfl) (known_one _) (by omega) (by unfold maxLen; omega) (by omega) (by simp; omega) _ rfl ?_; intro gg cp w9 hown hgrow hat hlt2; have X := Lib.hid (And.intro hown hgrow); clear hown hgrow hat hlt2)
    go_ret
    rw [HR.out, ← HC2.out, List.flatMap_append, List.length_append]
    exact ⟨gg, cp, by simp, own_lower (by simpa using X.out.1) hq, Below.grown (HB8.out.alloc HB8.out.size _) X.out.2 (by simp; omega) (fun j hj => Nat.le_trans hq (HO8.out.lt j hj).1)⟩
end Go.Proofs.Ytjijichgoodocaa
