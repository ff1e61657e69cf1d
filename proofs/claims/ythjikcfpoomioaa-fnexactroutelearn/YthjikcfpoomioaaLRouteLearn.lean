/- The law of RouteLearn, walked. -/
import Derived.Test.YthjikcfpoomioaaRlS
import Derived.Test.YthjikcfpoomioaaOpKnown
import Derived.Test.YthjikcfpoomioaaLVmapOk
import Derived.Test.YthjikcfpoomioaaLPmapOk
import Derived.Deep.RegionWith
import Derived.Deep.Cut
namespace Go.Proofs.Ythjikcfpoomioaa
open Go.RowKit

/-- The box of one known span. -/
structure KBox (W : World) (b : Nat) (k : KnownD) : Prop where
  c0 : W.cell? ⟨b, 0, none⟩ = some (.string k.f0)
  c1 : W.cell? ⟨b, 1, none⟩ = some (.string k.f1)
  c2 : W.cell? ⟨b, 2, none⟩ = some (.int .i64 k.f2)
  c3 : W.cell? ⟨b, 3, none⟩ = some (.int .i64 k.f3)
  lt : b < W.heap.size
theorem KBox.below {W W' : World} {b : Nat} {k : KnownD} (h : KBox W b k) (hb : Below W.heap.size W W') : KBox W' b k :=
  ⟨(hb.cell (p := ⟨b, 0, none⟩) h.lt).trans h.c0, (hb.cell (p := ⟨b, 1, none⟩) h.lt).trans h.c1, (hb.cell (p := ⟨b, 2, none⟩) h.lt).trans h.c2, (hb.cell (p := ⟨b, 3, none⟩) h.lt).trans h.c3, Nat.lt_of_lt_of_le h.lt hb.size⟩
theorem KBox.turned {S : Nat → Prop} {W W' : World} {b : Nat} {k : KnownD} (h : KBox W b k) (hS : ∀ c, b ≤ c → c < b + 1 → ¬ S c) (ht : Turned S W W') : KBox W' b k :=
  have n : ¬ S b := hS b (Nat.le_refl _) (Nat.lt_succ_self _)
  ⟨(ht.cell (p := ⟨b, 0, none⟩) h.lt n).trans h.c0, (ht.cell (p := ⟨b, 1, none⟩) h.lt n).trans h.c1, (ht.cell (p := ⟨b, 2, none⟩) h.lt n).trans h.c2, (ht.cell (p := ⟨b, 3, none⟩) h.lt n).trans h.c3, Nat.lt_of_lt_of_le h.lt ht.size⟩
theorem LearnRel.len {vs : List KnownD} {k : KnownD} {us : List KnownD} {b : Bool} (h : LearnRel vs k us b) (hn : vs.length ≤ 1048576) : us.length ≤ 2097152 := by
  rcases h with ⟨_, h2, rfl, _⟩ | ⟨_, _, rfl, _⟩ | ⟨_, rfl, _⟩
  · have := h2.2; omega
  · omega
  · simp

set_option maxRecDepth 100000 in
set_option maxHeartbeats 8000000 in
theorem routeLearn_law (a0 : Option Addr) (vs0 : List KnownD) (cap0 : Nat) (k : KnownD) (w : World) (hv0 : KnownsIn w a0 vs0) (hn0 : vs0.length ≤ maxLen) (hf0 : ∀ v ∈ vs0, v.fits) (hkf : k.fits) :
    Calls Try.prog 10 #[.slice a0 vs0.length cap0, .agg #[.string k.f0, .string k.f1, .int .i64 k.f2, .int .i64 k.f3]] w fun e w' => e = .returned (.bool true) ∧ Below w.heap.size w w' := by
  have HV0 := Lib.hid hv0
  have HF0 := Lib.hid hf0
  have HN0 := Lib.hid hn0
  have HKF := Lib.hid hkf
  clear hv0 hf0 hn0 hkf
  obtain ⟨W0, hW0⟩ : ∃ W0, w.alloc (.cells #[.string k.f0, .string k.f1, .int .i64 k.f2, .int .i64 k.f3] 70) = W0 := ⟨_, rfl⟩
  have HB0 := Lib.hid (show Below w.heap.size w W0 by rw [← hW0]; exact (Below.refl _ _).alloc (Nat.le_refl _) _)
  have o0 : w.heap.size + 1 ≤ W0.heap.size := by rw [← hW0]; simp
  have HK := Lib.hid (show KBox W0 w.heap.size k by rw [← hW0]; exact ⟨by simp [go_sem], by simp [go_sem], by simp [go_sem], by simp [go_sem], by simp⟩)
  go_enter Try.func10, Try.ntmps10
  go_wp2_with fail
  clear hW0
  refine (szKnownS_any a0 vs0 cap0 _ _ (HV0.out.below HB0.out) HF0.out HN0.out (by omega) (by omega)).mono ?_
  rintro e wz0 ⟨z0, rfl, hz0, hb⟩
  have H1 := Lib.hid ((HK.out).below hb)
  have B2 := Lib.hid (step (HB0.out) hb)
  have o3 : W0.heap.size ≤ wz0.heap.size := hb.size
  clear HK HB0
  clear hb
  rcases hz0 with rfl | ⟨hz0, hsum0⟩
  · go_wp2_with fail
    go_ret
    exact ⟨rfl, B2.out⟩
  have hL0 : vs0.length ≤ 1048576 := by have := KnownsSize_len vs0; omega
  have hzz0 : z0 ≤ 1048576 := by omega
  clear hsum0
  obtain ⟨kc0, kc1, kc2, kc3, kcl⟩ := H1.out
  go_wp2_with fail
  clear kc0 kc1 kc2 kc3 kcl
  refine (szKnown_any k _ _ HKF.out (by omega) (by omega)).mono ?_
  rintro e wz1 ⟨z1, rfl, hz1, hb⟩
  have H4 := Lib.hid ((H1.out).below hb)
  have B5 := Lib.hid (step (B2.out) hb)
  have o6 : wz0.heap.size ≤ wz1.heap.size := hb.size
  clear H1 B2
  clear hb
  rcases hz1 with rfl | ⟨hz1, hsum1⟩
  · go_wp2_with fail
    go_ret
    exact ⟨rfl, B5.out⟩
  clear hsum1
  obtain ⟨kc0, kc1, kc2, kc3, kcl⟩ := H4.out
  go_upto_region 8 with fail
  go_cut [6, 7] from 26 to 33 (fun p q u => ∃ us b aw cw, p = .slice aw us.length cw ∧ q = .bool b ∧ LearnRel vs0 k us b ∧ KnownsAt u wz1.heap.size u.heap.size aw us ∧ Below wz1.heap.size wz1 u)
  case first =>
    go_region_with (first
      | (go_at_call 31; refine (toKnownS_any a0 vs0 cap0 _ (HV0.out.below B5.out.drew) hL0).mono ?_; rintro e wA ⟨rfl, hin, -, hb, -⟩; have kd0 := (hb.cell (p := ⟨w.heap.size, 0, none⟩) kcl).trans kc0; have kd1 := (hb.cell (p := ⟨w.heap.size, 1, none⟩) kcl).trans kc1; have kd2 := (hb.cell (p := ⟨w.heap.size, 2, none⟩) kcl).trans kc2; have kd3 := (hb.cell (p := ⟨w.heap.size, 3, none⟩) kcl).trans kc3; have HIA := Lib.hid hin; have DA := Lib.hid hb; clear hin hb)
      | (go_at_call 49; refine (toKnown_any k _).mono ?_; rintro e wB ⟨rfl, hb⟩; have HIB := Lib.hid (HIA.out.below hb); have DB := Lib.hid hb; clear hb)
      | (go_at_call 48; refine (specRouteLearn_any k _ _ vs0 _ _ HKF.out HIB.out HF0.out hL0).mono ?_; rintro e wD ⟨us, b, hR, aw, cw, rfl, hatw, hb⟩; have HRD := Lib.hid hR; have TD := Lib.hid hatw; have DD := Lib.hid hb; clear hR hatw hb))
    all_goals
      have BB : Below wz1.heap.size wz1 wB := step (below_bothD DA.out) DB.out
      go_wp2_with fail
      go_meet
      exact ⟨us, b, aw, cw, rfl, rfl, HRD.out, TD.out.lower BB.size, step BB DD.out⟩
  case rest =>
  obtain ⟨us, r, aw, cw, rfl, rfl, hR, hatw, hb⟩ := hcut
  obtain ⟨ws, rfl⟩ : ∃ V, V = wc := ⟨_, rfl⟩
  clear kc0 kc1 kc2 kc3 kcl
  have HR := Lib.hid hR
  have Tw := Lib.hid hatw
  have H7 := Lib.hid ((H4.out).below hb)
  have B8 := Lib.hid (step (B5.out) hb)
  have o9 : wz1.heap.size ≤ ws.heap.size := hb.size
  clear H4 B5
  clear hR hatw hb
  have hUs := LearnRel.len HR.out hL0
  go_wp2_with fail
  refine (toKnownS_at a0 vs0 cap0 _ (HV0.out.below B8.out) hL0).mono ?_
  rintro e wx ⟨ax0, cx0, rfl, hat, hb⟩
  have Tx0 := Lib.hid hat
  have H10 := Lib.hid ((H7.out).below hb)
  have H11 := Lib.hid ((Tw.out).below hb)
  have B12 := Lib.hid (step (B8.out) hb)
  have o13 : ws.heap.size ≤ wx.heap.size := hb.size
  clear H7 Tw B8
  clear hat hb
  obtain ⟨kc0, kc1, kc2, kc3, kcl⟩ := H10.out
  go_wp2_with fail
  clear kc0 kc1 kc2 kc3 kcl
  refine (toKnown_any k _).mono ?_
  rintro e wxk ⟨rfl, hb⟩
  have H14 := Lib.hid ((H10.out).below hb)
  have H15 := Lib.hid ((H11.out).below hb)
  have H16 := Lib.hid ((Tx0.out).below hb)
  have B17 := Lib.hid (step (B12.out) hb)
  have o18 : wx.heap.size ≤ wxk.heap.size := hb.size
  clear H10 H11 Tx0 B12
  clear hb
  go_wp2_with fail
  refine (routeLearn_any k ax0 vs0 cx0 _ HKF.out H16.out.in1 HF0.out hL0).mono ?_
  rintro e wg ⟨us5, r5, hR5, ag, cg, rfl, hatg, hb⟩
  have HR5 := Lib.hid hR5
  have Tg := Lib.hid hatg
  have H19 := Lib.hid ((H14.out).below hb)
  have H20 := Lib.hid ((H15.out).below hb)
  have H21 := Lib.hid ((H16.out).below hb)
  have B22 := Lib.hid (step (B17.out) hb)
  have o23 : wxk.heap.size ≤ wg.heap.size := hb.size
  clear H14 H15 H16 B17
  clear hR5 hatg hb
  obtain ⟨rfl, rfl⟩ := LearnRel.unique HR5.out HR.out
  go_wp2_with fail
  refine (eqKnownS_at Tg.out H20.out (by unfold maxLen; omega)).mono ?_
  rintro e w6 ⟨rfl, hb⟩
  have H24 := Lib.hid ((H19.out).below hb)
  have H25 := Lib.hid ((H20.out).below hb)
  have H26 := Lib.hid ((H21.out).below hb)
  have H27 := Lib.hid ((Tg.out).below hb)
  have B28 := Lib.hid (step (B22.out) hb)
  have o29 : wg.heap.size ≤ w6.heap.size := hb.size
  clear H19 H20 H21 Tg B22
  clear hb
  go_wp2_with fail
  refine (toKnownS_at a0 vs0 cap0 _ (HV0.out.below B28.out) hL0).mono ?_
  rintro e wy0 ⟨ay0, cy0, rfl, hat, hb⟩
  have Ty0 := Lib.hid hat
  have H30 := Lib.hid ((H24.out).below hb)
  have H31 := Lib.hid ((H25.out).below hb)
  have H32 := Lib.hid ((H26.out).below hb)
  have H33 := Lib.hid ((H27.out).below hb)
  have B34 := Lib.hid (step (B28.out) hb)
  have o35 : w6.heap.size ≤ wy0.heap.size := hb.size
  clear H24 H25 H26 H27 B28
  clear hat hb
  go_wp2_with fail
  refine (eqKnownS_at H32.out Ty0.out HN0.out).mono ?_
  rintro e we0 ⟨rfl, hb⟩
  have H36 := Lib.hid ((H30.out).below hb)
  have H37 := Lib.hid ((H31.out).below hb)
  have H38 := Lib.hid ((H32.out).below hb)
  have H39 := Lib.hid ((H33.out).below hb)
  have B40 := Lib.hid (step (B34.out) hb)
  have o41 : wy0.heap.size ≤ we0.heap.size := hb.size
  clear H30 H31 H32 H33 B34
  clear hb
  go_wp2_with fail
  refine (markKnownS_at H38.out (k := 1) (by omega) (by omega)).mono ?_
  rintro e wm0 ⟨rfl, hatm, hb⟩
  have H42 := Lib.hid (H36.out.turned (by intro b h1 h2; omega) hb)
  have H43 := Lib.hid (H37.out.turned (by intro b h1 h2; omega) hb)
  have H44 := Lib.hid (H39.out.turned (by intro b h1 h2; omega) hb)
  have B45 := Lib.hid (step_turned B40.out hb (by omega) B40.out.size)
  have o46 : we0.heap.size ≤ wm0.heap.size := hb.size
  clear H36 H37 H39 B40
  clear hatm hb
  go_wp2_with fail
  refine (eqKnownS_at H44.out H43.out (by unfold maxLen; omega)).mono ?_
  rintro e w10 ⟨rfl, hb⟩
  have H47 := Lib.hid ((H42.out).below hb)
  have H48 := Lib.hid ((H43.out).below hb)
  have H49 := Lib.hid ((H44.out).below hb)
  have B50 := Lib.hid (step (B45.out) hb)
  have o51 : wm0.heap.size ≤ w10.heap.size := hb.size
  clear H42 H43 H44 B45
  clear hb
  go_wp2_with fail
  refine (markKnownS_at H49.out (k := 1) (by omega) (by omega)).mono ?_
  rintro e w11 ⟨rfl, hatm, hb⟩
  have Tm := Lib.hid hatm
  have H52 := Lib.hid (H47.out.turned (by intro b h1 h2; omega) hb)
  have H53 := Lib.hid (H48.out.turned (by intro b h1 h2; omega) hb)
  have B54 := Lib.hid (step_turned B50.out hb (by omega) B50.out.size)
  have o55 : w10.heap.size ≤ w11.heap.size := hb.size
  clear H47 H48 B50
  clear hatm hb
  go_wp2_with fail
  refine (heldKnownS_at Tm.out (by omega) (by omega)).mono ?_
  rintro e w12 ⟨rfl, hb⟩
  have H56 := Lib.hid ((H52.out).below hb)
  have H57 := Lib.hid ((H53.out).below hb)
  have H58 := Lib.hid ((Tm.out).below hb)
  have B59 := Lib.hid (step (B54.out) hb)
  have o60 : w11.heap.size ≤ w12.heap.size := hb.size
  clear H52 H53 Tm B54
  clear hb
  obtain ⟨kc0, kc1, kc2, kc3, kcl⟩ := H56.out
  go_upto_region 27 with fail
  go_cut [14, 15] from 84 to 91 (fun p q u => ∃ us b aw cw, p = .slice aw us.length cw ∧ q = .bool b ∧ LearnRel vs0 k us b ∧ KnownsAt u w12.heap.size u.heap.size aw us ∧ Below w12.heap.size w12 u)
  case first =>
    go_region_with (first
      | (go_at_call 31; refine (toKnownS_any a0 vs0 cap0 _ (HV0.out.below B59.out.drew) hL0).mono ?_; rintro e wA ⟨rfl, hin, -, hb, -⟩; have kd0 := (hb.cell (p := ⟨w.heap.size, 0, none⟩) kcl).trans kc0; have kd1 := (hb.cell (p := ⟨w.heap.size, 1, none⟩) kcl).trans kc1; have kd2 := (hb.cell (p := ⟨w.heap.size, 2, none⟩) kcl).trans kc2; have kd3 := (hb.cell (p := ⟨w.heap.size, 3, none⟩) kcl).trans kc3; have HIA := Lib.hid hin; have DA := Lib.hid hb; clear hin hb)
      | (go_at_call 49; refine (toKnown_any k _).mono ?_; rintro e wB ⟨rfl, hb⟩; have HIB := Lib.hid (HIA.out.below hb); have DB := Lib.hid hb; clear hb)
      | (go_at_call 50; refine (routeLearn_any k _ vs0 _ _ HKF.out HIB.out HF0.out hL0).mono ?_; rintro e wD ⟨us, b, hR, aw, cw, rfl, hatw, hb⟩; have HRD := Lib.hid hR; have TD := Lib.hid hatw; have DD := Lib.hid hb; clear hR hatw hb))
    all_goals
      have BB : Below w12.heap.size w12 wB := step (below_bothD DA.out) DB.out
      go_wp2_with fail
      go_meet
      exact ⟨us, b, aw, cw, rfl, rfl, HRD.out, TD.out.lower BB.size, step BB DD.out⟩
  case rest =>
  obtain ⟨us6, r6, ai, ci, rfl, rfl, hR, hatw, hb⟩ := hcut
  obtain ⟨w14, rfl⟩ : ∃ V, V = wc := ⟨_, rfl⟩
  clear kc0 kc1 kc2 kc3 kcl
  have HR6 := Lib.hid hR
  have Ti := Lib.hid hatw
  have H61 := Lib.hid ((H56.out).below hb)
  have H62 := Lib.hid ((H57.out).below hb)
  have H63 := Lib.hid ((H58.out).below hb)
  have B64 := Lib.hid (step (B59.out) hb)
  have o65 : w12.heap.size ≤ w14.heap.size := hb.size
  clear H56 H57 H58 B59
  clear hR hatw hb
  obtain ⟨rfl, rfl⟩ := LearnRel.unique HR6.out HR.out
  go_wp2_with fail
  refine (eqKnownS_at Ti.out H62.out (by unfold maxLen; omega)).mono ?_
  rintro e w15 ⟨rfl, hb⟩
  have H66 := Lib.hid ((H61.out).below hb)
  have H67 := Lib.hid ((H62.out).below hb)
  have H68 := Lib.hid ((H63.out).below hb)
  have H69 := Lib.hid ((Ti.out).below hb)
  have B70 := Lib.hid (step (B64.out) hb)
  have o71 : w14.heap.size ≤ w15.heap.size := hb.size
  clear H61 H62 H63 Ti B64
  clear hb
  go_wp2_with fail
  refine (heldKnownS_at H68.out (by omega) (by omega)).mono ?_
  rintro e w16 ⟨rfl, hb⟩
  have H72 := Lib.hid ((H66.out).below hb)
  have H73 := Lib.hid ((H67.out).below hb)
  have H74 := Lib.hid ((H68.out).below hb)
  have H75 := Lib.hid ((H69.out).below hb)
  have B76 := Lib.hid (step (B70.out) hb)
  have o77 : w15.heap.size ≤ w16.heap.size := hb.size
  clear H66 H67 H68 H69 B70
  clear hb
  go_wp2_with fail
  go_ret
  exact ⟨rfl, B76.out⟩
end Go.Proofs.Ythjikcfpoomioaa
