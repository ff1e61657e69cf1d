/- The law of PmapOk, walked. -/
import Derived.Test.YtchnmcpnpipfiaaPmapI
import Derived.Test.YtchnmcpnpipfiaaPm
import Derived.Test.YtchnmcpnpipfiaaLVmapOk
namespace Go.Proofs.Ytchnmcpnpipfiaa
open Go.RowKit

theorem pmOk_both {ep : Int} {vs : List RowD} {b c : Bool} (h : b = true ↔ PmapOkP ep vs) (k : c = true ↔ PmapOkP ep vs) : b = c := by rw [Bool.eq_iff_iff, h, k]

set_option maxHeartbeats 2000000 in
theorem pmapOk_law (ep : Int) (a : Option Addr) (vs : List RowD) (cap : Nat) (w : World) (hv : RowsIn w a vs) (hf : ∀ v ∈ vs, v.fits) (hn : vs.length ≤ maxLen) :
    Calls Try.prog 3 #[.agg #[.int .i64 ep, .slice a vs.length cap]] w fun e w' => e = .returned (.bool true) ∧ Below w.heap.size w w' := by
  have HV := Lib.hid hv
  have HF := Lib.hid hf
  have HN := Lib.hid hn
  clear hv hf hn
  go_enter Try.func3, Try.ntmps3
  go_wp2_with fail
  have hb0 : Below w.heap.size w (w.alloc (.cells #[.int .i64 ep, .slice a vs.length cap] 24)) := (Below.refl _ _).alloc (Nat.le_refl _) _
  refine (szPmap_any ep a vs cap _ _ (HV.out.below hb0) HF.out HN.out (by omega) (by omega)).mono ?_
  rintro e w1 ⟨z, rfl, hz, hb1⟩
  have c1 := hb1.cell (p := ⟨w.heap.size, 0, none⟩) (by simp)
  have x1 := hb1.cell (p := ⟨w.heap.size, 1, none⟩) (by simp)
  simp [go_sem] at c1 x1
  have s1 : w.heap.size < w1.heap.size := by have := hb1.size; simp at this; omega
  have B1 := Lib.hid (hb0.trans (hb1.mono (by simp)))
  clear hb0 hb1
  rcases hz with rfl | ⟨hz, hsum⟩
  · go_wp2_with fail
    go_ret
    exact ⟨rfl, B1.out⟩
  · have hL : vs.length ≤ 1048576 := by have := RowsSize_len vs; omega
    clear hsum
    go_wp2_with fail
    refine (toPmap_any ep a vs cap _ (HV.out.below B1.out) hL).mono ?_
    rintro e w2 ⟨g2, hg2, rfl, hin2, hfr2, hb2⟩
    have c2 := (hb2.cell (p := ⟨w.heap.size, 0, none⟩) s1).trans c1
    have x2 := (hb2.cell (p := ⟨w.heap.size, 1, none⟩) s1).trans x1
    have s2 : w.heap.size < w2.heap.size := Nat.lt_of_lt_of_le s1 hb2.size
    have B2 := Lib.hid (step B1.out hb2)
    have HI2 := Lib.hid hin2
    clear hin2 hb2 hfr2 c1 x1
    go_wp2_with fail
    refine (specPmapOk_any ep _ vs _ _ HI2.out HF.out HN.out).mono ?_
    rintro e w3 ⟨b3, rfl, hk3, hb3⟩
    have c3 := (hb3.cell (p := ⟨w.heap.size, 0, none⟩) s2).trans c2
    have x3 := (hb3.cell (p := ⟨w.heap.size, 1, none⟩) s2).trans x2
    have s3 : w.heap.size < w3.heap.size := Nat.lt_of_lt_of_le s2 hb3.size
    have B3 := Lib.hid (step B2.out hb3)
    have K3 := Lib.hid hk3
    clear hb3 hk3 c2 x2
    go_wp2_with fail
    refine (toPmap_any ep a vs cap _ (HV.out.below B3.out) hL).mono ?_
    rintro e w4 ⟨g4, hg4, rfl, hin4, hfr4, hb4⟩
    have c4 := (hb4.cell (p := ⟨w.heap.size, 0, none⟩) s3).trans c3
    have x4 := (hb4.cell (p := ⟨w.heap.size, 1, none⟩) s3).trans x3
    have s4 : w.heap.size < w4.heap.size := Nat.lt_of_lt_of_le s3 hb4.size
    have B4 := Lib.hid (step B3.out hb4)
    have HI4 := Lib.hid hin4
    clear hin4 hb4 hfr4 c3 x3
    go_wp2_with fail
    have hb5' : Below w4.heap.size w4 (w4.alloc (.cells #[.int .i64 ep, .slice (some ⟨g4, 0, none⟩) vs.length vs.length] 29)) := (Below.refl _ _).alloc (Nat.le_refl _) _
    refine (pmapOk_any ep _ vs _ _ (HI4.out.below hb5') HF.out HN.out).mono ?_
    rintro e w5 ⟨b5, rfl, hk5, hb5⟩
    obtain rfl : b5 = b3 := pmOk_both hk5 K3.out
    have c5 := ((hb5.cell (p := ⟨w.heap.size, 0, none⟩) (by simp; omega)).trans (hb5'.cell (p := ⟨w.heap.size, 0, none⟩) s4)).trans c4
    have x5 := ((hb5.cell (p := ⟨w.heap.size, 1, none⟩) (by simp; omega)).trans (hb5'.cell (p := ⟨w.heap.size, 1, none⟩) s4)).trans x4
    have d5 := hb5.cell (p := ⟨w4.heap.size, 0, none⟩) (by simp)
    have y5 := hb5.cell (p := ⟨w4.heap.size, 1, none⟩) (by simp)
    simp [go_sem] at d5 y5
    have s5 : w4.heap.size < w5.heap.size := by have := hb5.size; simp at this; omega
    have HI5 := Lib.hid ((HI4.out.below hb5').below hb5)
    have B5 := Lib.hid (step (step B4.out hb5') hb5)
    clear hb5 hb5' hk5 c4 x4
    go_wp2_with fail
    go_region_with (first
      | (go_at_call 15; refine (toPmap_any ep a vs cap _ (HV.out.below (B5.out.drew)) hL).mono ?_; rintro e w6 ⟨g6, hg6, rfl, hin6, hfr6, hb6⟩; have d6 := (hb6.cell (p := ⟨w4.heap.size, 0, none⟩) s5).trans d5; have y6 := (hb6.cell (p := ⟨w4.heap.size, 1, none⟩) s5).trans y5; have HI6 := Lib.hid hin6; have HB6 := Lib.hid hb6; clear hin6 hb6 hfr6)
      | (go_at_call 17; refine (eqPmap_same ep _ _ vs _ _ vs.length _ rfl ((HI5.out.below ((Below.refl _ _).drew)).below HB6.out) HI6.out HN.out).mono ?_; rintro e w7 ⟨rfl, hb7⟩))
    all_goals
      go_wp2_with fail
      go_ret
      exact ⟨rfl, step (step (B5.out.drew) HB6.out) hb7⟩
end Go.Proofs.Ytchnmcpnpipfiaa
