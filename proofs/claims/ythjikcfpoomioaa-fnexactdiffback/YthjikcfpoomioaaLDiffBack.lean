/- The law of DiffBack, walked. -/
import Derived.Test.YthjikcfpoomioaaBackI
import Derived.Test.YthjikcfpoomioaaLVmapOk
import Derived.Deep.RegionWith
namespace Go.Proofs.Ythjikcfpoomioaa
open Go.RowKit

set_option maxRecDepth 100000 in
set_option maxHeartbeats 4000000 in
theorem diffBack_law (a0 : Option Addr) (vs0 : List ChangeD) (cap0 : Nat) (w : World) (hv0 : ChangesIn w a0 vs0) (hn0 : vs0.length ≤ maxLen) (hf0 : ∀ v ∈ vs0, v.fits) :
    Calls Try.prog 5 #[.slice a0 vs0.length cap0] w fun e w' => e = .returned (.bool true) ∧ Below w.heap.size w w' := by
  have HV0 := Lib.hid hv0
  have HF0 := Lib.hid hf0
  have HN0 := Lib.hid hn0
  clear hv0 hf0 hn0
  have HB0 := Lib.hid (Below.refl w.heap.size w)
  go_enter Try.func5, Try.ntmps5
  go_wp2_with fail
  refine (szChangeS_any a0 vs0 cap0 _ _ (HV0.out.below HB0.out) HF0.out HN0.out (by omega) (by omega)).mono ?_
  rintro e wz0 ⟨z0, rfl, hz0, hb⟩
  have B1 := Lib.hid (step (HB0.out) hb)
  have o2 : w.heap.size ≤ wz0.heap.size := hb.size
  clear HB0
  clear hb
  rcases hz0 with rfl | ⟨hz0, hsum0⟩
  · go_wp2_with fail
    go_ret
    exact ⟨rfl, B1.out⟩
  have hL0 : vs0.length ≤ 1048576 := by have := ChangesSize_len vs0; omega
  have hzz0 : z0 ≤ 1048576 := by omega
  clear hsum0
  go_wp2_with fail
  refine (toChangeS_at a0 vs0 cap0 _ (HV0.out.below B1.out) hL0).mono ?_
  rintro e wq ⟨aq0, cq0, rfl, hat, hb⟩
  have Tq0 := Lib.hid hat
  have B3 := Lib.hid (step (B1.out) hb)
  have o4 : wz0.heap.size ≤ wq.heap.size := hb.size
  clear B1
  clear hat hb
  go_wp2_with fail
  refine (specDiffBack_any aq0 vs0 cq0 _ Tq0.out.in1 HF0.out hL0).mono ?_
  rintro e ws ⟨us, hR, aw, cw, rfl, hatw, hb⟩
  have HR := Lib.hid hR
  have Tw := Lib.hid hatw
  have H5 := Lib.hid ((Tq0.out).below hb)
  have B6 := Lib.hid (step (B3.out) hb)
  have o7 : wq.heap.size ≤ ws.heap.size := hb.size
  clear Tq0 B3
  clear hR hatw hb
  have hUs := DiffBackRel.len HR.out hL0
  go_wp2_with fail
  refine (toChangeS_at a0 vs0 cap0 _ (HV0.out.below B6.out) hL0).mono ?_
  rintro e wx ⟨ax0, cx0, rfl, hat, hb⟩
  have Tx0 := Lib.hid hat
  have H8 := Lib.hid ((Tw.out).below hb)
  have B9 := Lib.hid (step (B6.out) hb)
  have o10 : ws.heap.size ≤ wx.heap.size := hb.size
  clear Tw B6
  clear hat hb
  go_wp2_with fail
  refine (diffBack_any ax0 vs0 cx0 _ Tx0.out.in1 HF0.out hL0).mono ?_
  rintro e wg ⟨us5, hR5, ag, cg, rfl, hatg, hb⟩
  have HR5 := Lib.hid hR5
  have Tg := Lib.hid hatg
  have H11 := Lib.hid ((H8.out).below hb)
  have H12 := Lib.hid ((Tx0.out).below hb)
  have B13 := Lib.hid (step (B9.out) hb)
  have o14 : wx.heap.size ≤ wg.heap.size := hb.size
  clear H8 Tx0 B9
  clear hR5 hatg hb
  obtain rfl := DiffBackRel.unique HR5.out HR.out
  go_wp2_with fail
  refine (eqChangeS_at Tg.out H11.out (by unfold maxLen; omega)).mono ?_
  rintro e w6 ⟨rfl, hb⟩
  have H15 := Lib.hid ((H11.out).below hb)
  have H16 := Lib.hid ((H12.out).below hb)
  have H17 := Lib.hid ((Tg.out).below hb)
  have B18 := Lib.hid (step (B13.out) hb)
  have o19 : wg.heap.size ≤ w6.heap.size := hb.size
  clear H11 H12 Tg B13
  clear hb
  go_wp2_with fail
  refine (toChangeS_at a0 vs0 cap0 _ (HV0.out.below B18.out) hL0).mono ?_
  rintro e wy0 ⟨ay0, cy0, rfl, hat, hb⟩
  have Ty0 := Lib.hid hat
  have H20 := Lib.hid ((H15.out).below hb)
  have H21 := Lib.hid ((H16.out).below hb)
  have H22 := Lib.hid ((H17.out).below hb)
  have B23 := Lib.hid (step (B18.out) hb)
  have o24 : w6.heap.size ≤ wy0.heap.size := hb.size
  clear H15 H16 H17 B18
  clear hat hb
  go_wp2_with fail
  refine (eqChangeS_at H21.out Ty0.out HN0.out).mono ?_
  rintro e we0 ⟨rfl, hb⟩
  have H25 := Lib.hid ((H20.out).below hb)
  have H26 := Lib.hid ((H21.out).below hb)
  have H27 := Lib.hid ((H22.out).below hb)
  have B28 := Lib.hid (step (B23.out) hb)
  have o29 : wy0.heap.size ≤ we0.heap.size := hb.size
  clear H20 H21 H22 B23
  clear hb
  go_wp2_with fail
  refine (markChangeS_at H26.out (k := 1) (by omega) (by omega)).mono ?_
  rintro e wm0 ⟨rfl, hatm, hb⟩
  have H30 := Lib.hid (H25.out.turned (by intro b h1 h2; omega) hb)
  have H31 := Lib.hid (H27.out.turned (by intro b h1 h2; omega) hb)
  have B32 := Lib.hid (step_turned B28.out hb (by omega) B28.out.size)
  have o33 : we0.heap.size ≤ wm0.heap.size := hb.size
  clear H25 H27 B28
  clear hatm hb
  go_wp2_with fail
  refine (eqChangeS_at H31.out H30.out (by unfold maxLen; omega)).mono ?_
  rintro e w10 ⟨rfl, hb⟩
  have H34 := Lib.hid ((H30.out).below hb)
  have H35 := Lib.hid ((H31.out).below hb)
  have B36 := Lib.hid (step (B32.out) hb)
  have o37 : wm0.heap.size ≤ w10.heap.size := hb.size
  clear H30 H31 B32
  clear hb
  go_wp2_with fail
  refine (markChangeS_at H35.out (k := 1) (by omega) (by omega)).mono ?_
  rintro e w11 ⟨rfl, hatm, hb⟩
  have Tm := Lib.hid hatm
  have H38 := Lib.hid (H34.out.turned (by intro b h1 h2; omega) hb)
  have B39 := Lib.hid (step_turned B36.out hb (by omega) B36.out.size)
  have o40 : w10.heap.size ≤ w11.heap.size := hb.size
  clear H34 B36
  clear hatm hb
  go_wp2_with fail
  refine (heldChangeS_at Tm.out (by omega) (by omega)).mono ?_
  rintro e w12 ⟨rfl, hb⟩
  have H41 := Lib.hid ((H38.out).below hb)
  have H42 := Lib.hid ((Tm.out).below hb)
  have B43 := Lib.hid (step (B39.out) hb)
  have o44 : w11.heap.size ≤ w12.heap.size := hb.size
  clear H38 Tm B39
  clear hb
  go_wp2_with fail
  refine (toChangeS_at a0 vs0 cap0 _ (HV0.out.below B43.out) hL0).mono ?_
  rintro e w13 ⟨ah0, ch0, rfl, hat, hb⟩
  have Th0 := Lib.hid hat
  have H45 := Lib.hid ((H41.out).below hb)
  have H46 := Lib.hid ((H42.out).below hb)
  have B47 := Lib.hid (step (B43.out) hb)
  have o48 : w12.heap.size ≤ w13.heap.size := hb.size
  clear H41 H42 B43
  clear hat hb
  go_wp2_with fail
  refine (diffBack_any ah0 vs0 ch0 _ Th0.out.in1 HF0.out hL0).mono ?_
  rintro e w14 ⟨us6, hR6, ai, ci, rfl, hati, hb⟩
  have HR6 := Lib.hid hR6
  have Ti := Lib.hid hati
  have H49 := Lib.hid ((H45.out).below hb)
  have H50 := Lib.hid ((H46.out).below hb)
  have B51 := Lib.hid (step (B47.out) hb)
  have o52 : w13.heap.size ≤ w14.heap.size := hb.size
  clear H45 H46 B47
  clear hR6 hati hb
  obtain rfl := DiffBackRel.unique HR6.out HR.out
  go_wp2_with fail
  refine (eqChangeS_at Ti.out H49.out (by unfold maxLen; omega)).mono ?_
  rintro e w15 ⟨rfl, hb⟩
  have H53 := Lib.hid ((H49.out).below hb)
  have H54 := Lib.hid ((H50.out).below hb)
  have H55 := Lib.hid ((Ti.out).below hb)
  have B56 := Lib.hid (step (B51.out) hb)
  have o57 : w14.heap.size ≤ w15.heap.size := hb.size
  clear H49 H50 Ti B51
  clear hb
  go_wp2_with fail
  refine (heldChangeS_at H54.out (by omega) (by omega)).mono ?_
  rintro e w16 ⟨rfl, hb⟩
  have H58 := Lib.hid ((H53.out).below hb)
  have H59 := Lib.hid ((H54.out).below hb)
  have H60 := Lib.hid ((H55.out).below hb)
  have B61 := Lib.hid (step (B56.out) hb)
  have o62 : w15.heap.size ≤ w16.heap.size := hb.size
  clear H53 H54 H55 B56
  clear hb
  go_wp2_with fail
  go_ret
  exact ⟨rfl, B61.out⟩
end Go.Proofs.Ythjikcfpoomioaa
