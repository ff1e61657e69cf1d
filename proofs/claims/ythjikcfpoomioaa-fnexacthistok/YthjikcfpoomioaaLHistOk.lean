/- The law of HistOk, walked. -/
import Derived.Test.YthjikcfpoomioaaHiOk
import Derived.Test.YthjikcfpoomioaaHiS
import Derived.Test.YthjikcfpoomioaaEntTo
namespace Go.Proofs.Ythjikcfpoomioaa
open Go.RowKit

theorem bool_both {P : Prop} {b c : Bool} (h : b = true ↔ P) (k : c = true ↔ P) : b = c := by rw [Bool.eq_iff_iff, h, k]
theorem ents_len {vs : List EntD} (h : EntsSize vs ≤ 1048576) : vs.length ≤ 1048576 ∧ ∀ e ∈ vs, e.ws.length ≤ 1048576 ∧ e.us.length ≤ 1048576 := by
  unfold EntsSize at h
  refine ⟨by omega, fun e he => ?_⟩
  have h1 := entsTo_mem he
  have h2 := WantsSize_len e.ws
  have h3 := WritesSize_len e.us
  unfold EntD.size at h1
  omega

set_option maxHeartbeats 2000000 in
theorem histOk_law (a : Option Addr) (vs : List EntD) (cap : Nat) (w : World) (hv : EntriesIn w a vs) (hn : vs.length ≤ maxLen) (hf : ∀ v ∈ vs, v.fits) :
    Calls Try.prog 11 #[.slice a vs.length cap] w fun e w' => e = .returned (.bool true) ∧ Below w.heap.size w w' := by
  have HV := Lib.hid hv
  have HF := Lib.hid hf
  have HN := Lib.hid hn
  clear hv hf hn
  go_enter Try.func11, Try.ntmps11
  go_wp2_with fail
  refine (szEntryS_any a vs cap _ _ HV.out HF.out HN.out (by omega) (by omega)).mono ?_
  rintro e w1 ⟨z, rfl, hz, hb1⟩
  have B1 := Lib.hid hb1
  clear hb1
  rcases hz with rfl | ⟨hz, hsum⟩
  · go_wp2_with fail
    go_ret
    exact ⟨rfl, B1.out⟩
  · obtain ⟨hL, hLL⟩ := ents_len (vs := vs) (by omega)
    have HLL := Lib.hid hLL
    clear hLL
    clear hsum
    go_wp2_with fail
    refine (toEntryS_any a vs cap _ (HV.out.below B1.out) hL HLL.out).mono ?_
    rintro e w2 ⟨rfl, hin2, hb2⟩
    have B2 := Lib.hid (B1.out.trans (hb2.mono B1.out.size))
    have HI2 := Lib.hid hin2
    clear hin2 hb2
    go_wp2_with fail
    refine (specHistOk_any _ vs _ _ HI2.out HF.out HLL.out HN.out).mono ?_
    rintro e w3 ⟨b3, rfl, hk3, hb3⟩
    have B3 := Lib.hid (B2.out.trans (hb3.mono B2.out.size))
    have K3 := Lib.hid hk3
    clear hb3 hk3
    go_wp2_with fail
    refine (toEntryS_any a vs cap _ (HV.out.below B3.out) hL HLL.out).mono ?_
    rintro e w4 ⟨rfl, hin4, hb4⟩
    have B4 := Lib.hid (B3.out.trans (hb4.mono B3.out.size))
    have HI4 := Lib.hid hin4
    clear hin4 hb4
    go_wp2_with fail
    refine (histOk_any _ vs _ _ HI4.out HF.out HLL.out HN.out).mono ?_
    rintro e w5 ⟨b5, rfl, hk5, hb5⟩
    obtain rfl : b5 = b3 := bool_both hk5 K3.out
    have HI5 := Lib.hid (HI4.out.below hb5)
    have B5 := Lib.hid (B4.out.trans (hb5.mono B4.out.size))
    clear hb5 hk5
    go_wp2_with fail
    refine (toEntryS_any a vs cap _ (HV.out.below B5.out) hL HLL.out).mono ?_
    rintro e w6 ⟨rfl, hin6, hb6⟩
    have HI6 := Lib.hid hin6
    have HI7 := Lib.hid (HI5.out.below hb6)
    have B6 := Lib.hid (B5.out.trans (hb6.mono B5.out.size))
    clear hin6 hb6
    go_wp2_with fail
    refine (eqEntryS_same _ _ vs _ _ _ HI7.out HI6.out HF.out HN.out).mono ?_
    rintro e w7 ⟨rfl, hb7⟩
    have B7 := Lib.hid (B6.out.trans (hb7.mono B6.out.size))
    clear hb7
    go_wp2_with fail
    go_ret
    exact ⟨rfl, B7.out⟩
end Go.Proofs.Ythjikcfpoomioaa
