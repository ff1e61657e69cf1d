/- The law of RouteRight, walked. -/
import Derived.Test.YthjikcfpoomioaaRrS
import Derived.Test.YthjikcfpoomioaaOpKnown
import Derived.Test.YthjikcfpoomioaaLPmapOk
namespace Go.Proofs.Ythjikcfpoomioaa
open Go.RowKit

set_option maxRecDepth 100000 in
set_option maxHeartbeats 4000000 in
theorem routeRight_law (a : Option Addr) (ks : List KnownD) (cap : Nat) (ep : Int) (am : Option Addr) (vs : List RowD) (cm : Nat) (w : World) (hk : KnownsIn w a ks) (hkn : ks.length ≤ maxLen) (hkf : ∀ v ∈ ks, v.fits) (hv : RowsIn w am vs) (hf : ∀ v ∈ vs, v.fits) (hn : vs.length ≤ maxLen) :
    Calls Try.prog 9 #[.slice a ks.length cap, .agg #[.int .i64 ep, .slice am vs.length cm]] w fun e w' => e = .returned (.bool true) ∧ Below w.heap.size w w' := by
  have HK := Lib.hid hk
  have HKF := Lib.hid hkf
  have HKN := Lib.hid hkn
  have HV := Lib.hid hv
  have HF := Lib.hid hf
  have HN := Lib.hid hn
  clear hk hkf hv hf hn
  obtain ⟨W0, hW0⟩ : ∃ W0, w.alloc (.cells #[.int .i64 ep, .slice am vs.length cm] 55) = W0 := ⟨_, rfl⟩
  have hb0 : Below w.heap.size w W0 := by rw [← hW0]; exact (Below.refl _ _).alloc (Nat.le_refl _) _
  have s0 : w.heap.size < W0.heap.size := by rw [← hW0]; simp
  have c0 : W0.cell? ⟨w.heap.size, 0, none⟩ = some (.int .i64 ep) := by rw [← hW0]; simp [go_sem]
  have x0 : W0.cell? ⟨w.heap.size, 1, none⟩ = some (.slice am vs.length cm) := by rw [← hW0]; simp [go_sem]
  have B0 := Lib.hid hb0
  clear hb0
  go_enter Try.func9, Try.ntmps9
  go_wp2_with fail
  clear hW0
  refine (szKnownS_any a ks cap _ _ (HK.out.below B0.out) HKF.out HKN.out (by omega) (by omega)).mono ?_
  rintro e w1 ⟨z, rfl, hz, hb1⟩
  have c1 := (hb1.cell (p := ⟨w.heap.size, 0, none⟩) s0).trans c0
  have x1 := (hb1.cell (p := ⟨w.heap.size, 1, none⟩) s0).trans x0
  have s1 : w.heap.size < w1.heap.size := Nat.lt_of_lt_of_le s0 hb1.size
  have B1 := Lib.hid (step B0.out hb1)
  clear hb1 c0 x0 s0
  rcases hz with rfl | ⟨hz, hsum⟩
  · go_wp2_with fail
    go_ret
    exact ⟨rfl, B1.out⟩
  have hL : ks.length ≤ 1048576 := by have := KnownsSize_len ks; omega
  have hz1 : z ≤ 1048576 := by omega
  have hz0 : 0 ≤ z := by omega
  clear hsum
  go_wp2_with fail
  refine (szPmap_any ep am vs cm _ _ (HV.out.below B1.out) HF.out HN.out (by omega) (by omega)).mono ?_
  rintro e w2 ⟨y, rfl, hy, hb2⟩
  have c2 := (hb2.cell (p := ⟨w.heap.size, 0, none⟩) s1).trans c1
  have x2 := (hb2.cell (p := ⟨w.heap.size, 1, none⟩) s1).trans x1
  have s2 : w.heap.size < w2.heap.size := Nat.lt_of_lt_of_le s1 hb2.size
  have B2 := Lib.hid (step B1.out hb2)
  clear hb2 c1 x1 s1
  rcases hy with rfl | ⟨hy, hsum⟩
  · go_wp2_with fail
    go_ret
    exact ⟨rfl, B2.out⟩
  have hM : vs.length ≤ 1048576 := by have := RowsSize_len vs; omega
  clear hsum
  go_upto_region 8 with fail
  go_cut [6] from 20 to 24 (fun s6 u => ∃ b, s6 = .bool b ∧ (b = true ↔ RightP ks ep vs) ∧ Below w2.heap.size w2 u)
  case first =>
    go_region_with (first
      | (go_at_call 31; refine (toKnownS_any a ks cap _ (HK.out.below B2.out.drew) hL).mono ?_; rintro e w3 ⟨rfl, hin3, -, hb3, -⟩; have c3 := (hb3.cell (p := ⟨w.heap.size, 0, none⟩) s2).trans c2; have x3 := (hb3.cell (p := ⟨w.heap.size, 1, none⟩) s2).trans x2; have HI3 := Lib.hid hin3; have B3 := Lib.hid (step B2.out.drew hb3); have D3 := Lib.hid hb3; clear hb3 hin3)
      | (go_at_call 39; refine (toPmap_any ep am vs cm _ (HV.out.below B3.out) hM).mono ?_; rintro e w4 ⟨g4, hg4, rfl, hin4, hfr4, hb4, -⟩; have HI4 := Lib.hid hin4; have HI34 := Lib.hid (HI3.out.below hb4); have D4 := Lib.hid hb4; clear hb4 hfr4 hin4)
      | (go_at_call 45; refine (specRouteRight_any _ ks _ ep _ vs _ _ HI34.out HKF.out HKN.out HI4.out HF.out hM).mono ?_; rintro e w5 ⟨b5, rfl, hk5, hb5⟩; have K5 := Lib.hid (And.intro hk5 hb5); clear hk5 hb5))
    all_goals
      go_wp2_with fail
      go_meet
      exact ⟨b5, rfl, K5.out.1, step (step (below_bothD D3.out) D4.out) K5.out.2⟩
  case rest =>
  obtain ⟨b5, rfl, hk5, hb5⟩ := hcut
  obtain ⟨w5, rfl⟩ : ∃ V, V = wc := ⟨_, rfl⟩
  have c5 := (hb5.cell (p := ⟨w.heap.size, 0, none⟩) s2).trans c2
  have x5 := (hb5.cell (p := ⟨w.heap.size, 1, none⟩) s2).trans x2
  have s5 : w.heap.size < w5.heap.size := Nat.lt_of_lt_of_le s2 hb5.size
  have B5 := Lib.hid (step B2.out hb5)
  have K5 := Lib.hid hk5
  clear hb5 hk5 c2 x2 s2
  go_wp2_with fail
  refine (toKnownS_any a ks cap _ (HK.out.below B5.out) hL).mono ?_
  rintro e w6 ⟨rfl, hin6, -, hb6, -⟩
  have c6 := (hb6.cell (p := ⟨w.heap.size, 0, none⟩) s5).trans c5
  have x6 := (hb6.cell (p := ⟨w.heap.size, 1, none⟩) s5).trans x5
  have s6 : w.heap.size < w6.heap.size := Nat.lt_of_lt_of_le s5 hb6.size
  have B6 := Lib.hid (step B5.out hb6)
  have HI6 := Lib.hid hin6
  clear hb6 hin6 c5 x5 s5
  go_wp2_with fail
  refine (toPmap_any ep am vs cm _ (HV.out.below B6.out) hM).mono ?_
  rintro e w7 ⟨g7, hg7, rfl, hin7, hfr7, hb7, -⟩
  have c7 := (hb7.cell (p := ⟨w.heap.size, 0, none⟩) s6).trans c6
  have x7 := (hb7.cell (p := ⟨w.heap.size, 1, none⟩) s6).trans x6
  have s7 : w.heap.size < w7.heap.size := Nat.lt_of_lt_of_le s6 hb7.size
  have B7 := Lib.hid (step B6.out hb7)
  have HI67 := Lib.hid (HI6.out.below hb7)
  have HI7 := Lib.hid hin7
  clear hb7 hin7 hfr7 c6 x6 s6 HI6
  obtain ⟨W8, hW8⟩ : ∃ W8, w7.alloc (.cells #[.int .i64 ep, .slice (some ⟨g7, 0, none⟩) vs.length vs.length] 60) = W8 := ⟨_, rfl⟩
  have hb8 : Below w7.heap.size w7 W8 := by rw [← hW8]; exact (Below.refl _ _).alloc (Nat.le_refl _) _
  have t8 : w7.heap.size < W8.heap.size := by rw [← hW8]; simp
  have d8 : W8.cell? ⟨w7.heap.size, 0, none⟩ = some (.int .i64 ep) := by rw [← hW8]; simp [go_sem]
  have y8 : W8.cell? ⟨w7.heap.size, 1, none⟩ = some (.slice (some ⟨g7, 0, none⟩) vs.length vs.length) := by rw [← hW8]; simp [go_sem]
  have c8 := (hb8.cell (p := ⟨w.heap.size, 0, none⟩) s7).trans c7
  have x8 := (hb8.cell (p := ⟨w.heap.size, 1, none⟩) s7).trans x7
  have s8 : w.heap.size < W8.heap.size := by omega
  have B8 := Lib.hid (step B7.out hb8)
  have HI8 := Lib.hid (HI67.out.below hb8)
  have HJ8 := Lib.hid (HI7.out.below hb8)
  clear hb8 HI67 HI7
  go_wp2_with fail
  clear hW8 c7 x7
  refine (routeRight_any _ ks _ ep _ vs _ _ HI8.out HKF.out HKN.out HJ8.out HF.out hM).mono ?_
  rintro e w9 ⟨b9, rfl, hk9, hb9⟩
  obtain rfl : b9 = b5 := not_both hk9 K5.out
  have c9 := (hb9.cell (p := ⟨w.heap.size, 0, none⟩) s8).trans c8
  have x9 := (hb9.cell (p := ⟨w.heap.size, 1, none⟩) s8).trans x8
  have d9 := (hb9.cell (p := ⟨w7.heap.size, 0, none⟩) t8).trans d8
  have y9 := (hb9.cell (p := ⟨w7.heap.size, 1, none⟩) t8).trans y8
  have s9 : w.heap.size < w9.heap.size := by have := hb9.size; omega
  have t9 : w7.heap.size < w9.heap.size := Nat.lt_of_lt_of_le t8 hb9.size
  have B9 := Lib.hid (step B8.out hb9)
  have HI9 := Lib.hid (HI8.out.below hb9)
  have HJ9 := Lib.hid (HJ8.out.below hb9)
  clear hb9 hk9 c8 x8 d8 y8 t8 s7 HI8 HJ8
  go_wp2_with fail
  refine (toKnownS_any a ks cap _ (HK.out.below B9.out) hL).mono ?_
  rintro e wA ⟨rfl, hinA, -, hbA, -⟩
  have cA := (hbA.cell (p := ⟨w.heap.size, 0, none⟩) s9).trans c9
  have xA := (hbA.cell (p := ⟨w.heap.size, 1, none⟩) s9).trans x9
  have dA := (hbA.cell (p := ⟨w7.heap.size, 0, none⟩) t9).trans d9
  have yA := (hbA.cell (p := ⟨w7.heap.size, 1, none⟩) t9).trans y9
  have sA : w.heap.size < wA.heap.size := Nat.lt_of_lt_of_le s9 hbA.size
  have tA : w7.heap.size < wA.heap.size := Nat.lt_of_lt_of_le t9 hbA.size
  have BA := Lib.hid (step B9.out hbA)
  have HIA := Lib.hid hinA
  have HI9A := Lib.hid (HI9.out.below hbA)
  have HJA := Lib.hid (HJ9.out.below hbA)
  clear hbA hinA c9 x9 d9 y9 s9 t9 HI9 HJ9
  go_wp2_with fail
  refine (eqKnownS_same _ _ ks _ _ _ HI9A.out HIA.out HKN.out).mono ?_
  rintro e wB ⟨rfl, hbB⟩
  have cB := (hbB.cell (p := ⟨w.heap.size, 0, none⟩) sA).trans cA
  have xB := (hbB.cell (p := ⟨w.heap.size, 1, none⟩) sA).trans xA
  have dB := (hbB.cell (p := ⟨w7.heap.size, 0, none⟩) tA).trans dA
  have yB := (hbB.cell (p := ⟨w7.heap.size, 1, none⟩) tA).trans yA
  have tB : w7.heap.size < wB.heap.size := Nat.lt_of_lt_of_le tA hbB.size
  have BB := Lib.hid (step BA.out hbB)
  have HJB := Lib.hid (HJA.out.below hbB)
  clear hbB cA xA dA yA sA tA HJA
  go_wp2_with fail
  go_region_with (first
    | (go_at_call 39; refine (toPmap_any ep am vs cm _ (HV.out.below (BB.out.drew)) hM).mono ?_; rintro e w6' ⟨g6, hg6, rfl, hin6, hfr6, hb6, -⟩; have d6 := (hb6.cell (p := ⟨w7.heap.size, 0, none⟩) tB).trans dB; have y6 := (hb6.cell (p := ⟨w7.heap.size, 1, none⟩) tB).trans yB; have HI6 := Lib.hid hin6; have HB6 := Lib.hid hb6; clear hin6 hb6 hfr6)
    | (go_at_call 41; refine (eqPmap_same ep _ _ vs _ _ vs.length _ rfl ((HJB.out.below ((Below.refl _ _).drew)).below HB6.out) HI6.out HN.out).mono ?_; rintro e w7' ⟨rfl, hb7⟩))
  all_goals
    go_wp2_with fail
    go_ret
    exact ⟨rfl, step (step (BB.out.drew) HB6.out) hb7⟩
end Go.Proofs.Ythjikcfpoomioaa
