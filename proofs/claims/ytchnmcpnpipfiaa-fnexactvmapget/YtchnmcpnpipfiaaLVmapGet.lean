/- The law of VmapGet, walked. -/
import Derived.Test.YtchnmcpnpipfiaaLVmapOk
import Derived.Test.YtchnmcpnpipfiaaSpecGet
namespace Go.Proofs.Ytchnmcpnpipfiaa
open Go.RowKit

theorem vmapGet_at {n : Nat} (a : Option Addr) (os : List ObjD) (cap : Nat) (key : ByteArray) (w : World) (hl : os.length = n) (hv : ObjsIn w a os) (hf : ∀ o ∈ os, o.fits) (hn : n ≤ 1048576) (hvl : ∀ o ∈ os, o.vers.length ≤ 1048576) (hkey : key.size ≤ maxLen) :
    Calls Try.prog 34 #[.agg #[.slice a n cap], .string key] w (AtPost os key 9999 w) := by subst hl; exact vmapGet_any a os cap key w hv hf hn hvl hkey
theorem specVmapGet_at {n : Nat} (a : Option Addr) (os : List ObjD) (cap : Nat) (key : ByteArray) (w : World) (hl : os.length = n) (hv : ObjsIn w a os) (hf : ∀ o ∈ os, o.fits) (hn : n ≤ 1048576) (hvl : ∀ o ∈ os, o.vers.length ≤ 1048576) (hkey : key.size ≤ maxLen) :
    Calls Try.prog 33 #[.agg #[.slice a n cap], .string key] w (AtPost os key 9999 w) := by subst hl; exact specVmapGet_any a os cap key w hv hf hn hvl hkey

set_option maxHeartbeats 2000000 in
theorem vmapGet_law (a : Option Addr) (os : List ObjD) (cap : Nat) (key : ByteArray) (w : World) (hv : ObjsIn w a os) (hf : ∀ o ∈ os, o.fits) (hn : os.length ≤ maxLen) (hkey : key.size ≤ maxLen) :
    Calls Try.prog 9 #[.agg #[.slice a os.length cap], .string key] w fun e w' => e = .returned (.bool true) ∧ Below w.heap.size w w' := by
  have HV := Lib.hid hv
  have HF := Lib.hid hf
  have HN := Lib.hid hn
  have HK := Lib.hid hkey
  clear hv hf hn
  have hb0 : Below w.heap.size w (w.alloc (.cells #[.slice a os.length cap] 52)) := (Below.refl _ _).alloc (Nat.le_refl _) _
  unfold maxLen at hkey
  by_cases hlong : 1048576 < key.size
  · go_enter Try.func9, Try.ntmps9
    go_wp2_with fail
    go_ret
    exact ⟨rfl, hb0⟩
  go_enter Try.func9, Try.ntmps9
  go_wp2_with fail
  refine (szVmap_any a os cap _ _ (HV.out.below hb0) HF.out HN.out (by omega) (by omega)).mono ?_
  rintro e w1 ⟨z, rfl, hz, hb1⟩
  have c1 := hb1.cell (p := ⟨w.heap.size, 0, none⟩) (by simp)
  simp [go_sem] at c1
  have s1 : w.heap.size < w1.heap.size := by have := hb1.size; simp at this; omega
  have B1 := Lib.hid (hb0.trans (hb1.mono (by simp)))
  clear hb0 hb1
  rcases hz with rfl | ⟨hz, hsum⟩
  · go_wp2_with fail
    go_ret
    exact ⟨rfl, B1.out⟩
  · obtain ⟨hL, hVl⟩ := len_of_size (os := os) (by omega)
    have HVl := Lib.hid hVl
    clear hVl hsum
    go_wp2_with fail
    refine (toVmap_any a os cap _ (HV.out.below B1.out) hL HVl.out).mono ?_
    rintro e w2 ⟨g2, cs2, hsame2, hl2, rfl, hin2, hb2⟩
    have c2 := (hb2.cell (p := ⟨w.heap.size, 0, none⟩) s1).trans c1
    have s2 : w.heap.size < w2.heap.size := Nat.lt_of_lt_of_le s1 hb2.size
    have B2 := Lib.hid (step B1.out hb2)
    have HS2 := Lib.hid hsame2
    have HI2 := Lib.hid hin2
    have E2 := Lib.hid hl2
    clear hsame2 hin2 hb2 hl2 c1
    go_wp2_with fail
    refine (specVmapGet_at _ cs2 _ key _ E2.out HI2.out (fits_same HS2.out HF.out) hL (vlen_same HS2.out HVl.out) HK.out).mono ?_
    rintro e w3 ⟨x3, rfl, hk3, hn3, hb3⟩
    have c3 := (hb3.cell (p := ⟨w.heap.size, 0, none⟩) s2).trans c2
    have s3 : w.heap.size < w3.heap.size := Nat.lt_of_lt_of_le s2 hb3.size
    have B3 := Lib.hid (step B2.out hb3)
    have K3 := Lib.hid hk3
    have N3 := Lib.hid hn3
    clear hb3 hk3 hn3 c2
    obtain ⟨i3, t3, q3, b3, hform⟩ := verRes_form x3
    have FORM := Lib.hid hform
    rw [hform]
    clear hform
    go_wp2_with fail
    have hb3' : Below w3.heap.size w3 (w3.alloc (.cells #[.int .i64 i3, .string t3, .bool q3] 62)) := (Below.refl _ _).alloc (Nat.le_refl _) _
    have B3' := Lib.hid (step B3.out hb3')
    have c3' := (hb3'.cell (p := ⟨w.heap.size, 0, none⟩) s3).trans c3
    refine (toVmap_any a os cap _ (HV.out.below B3'.out) hL HVl.out).mono ?_
    rintro e w4 ⟨g4, cs4, hsame4, hl4, rfl, hin4, hb4⟩
    have c4 := (hb4.cell (p := ⟨w.heap.size, 0, none⟩) (by simp; omega)).trans c3'
    have v40 := hb4.cell (p := ⟨w3.heap.size, 0, none⟩) (by simp)
    have v41 := hb4.cell (p := ⟨w3.heap.size, 1, none⟩) (by simp)
    have v42 := hb4.cell (p := ⟨w3.heap.size, 2, none⟩) (by simp)
    simp [go_sem] at v40 v41 v42
    have s34 : w3.heap.size < w4.heap.size := by have := hb4.size; simp at this; omega
    have s4 : w.heap.size < w4.heap.size := by omega
    have B4 := Lib.hid (step B3'.out hb4)
    have HS4 := Lib.hid hsame4
    have HI4 := Lib.hid hin4
    have E4 := Lib.hid hl4
    clear hsame4 hin4 hb4 hl4 c3 c3' hb3'
    go_wp2_with fail
    have hb5' : Below w4.heap.size w4 (w4.alloc (.cells #[.slice (some ⟨g4, 0, none⟩) os.length os.length] 57)) := (Below.refl _ _).alloc (Nat.le_refl _) _
    refine (vmapGet_at _ cs4 _ key _ E4.out (HI4.out.below hb5') (fits_same HS4.out HF.out) hL (vlen_same HS4.out HVl.out) HK.out).mono ?_
    rintro e w5 ⟨x5, rfl, hk5, hn5, hb5⟩
    obtain rfl : x5 = x3 := at_both HS2.out HS4.out K3.out N3.out hk5 hn5
    rw [FORM.out]
    have c5 := ((hb5.cell (p := ⟨w.heap.size, 0, none⟩) (by simp; omega)).trans (hb5'.cell (p := ⟨w.heap.size, 0, none⟩) s4)).trans c4
    have v50 := ((hb5.cell (p := ⟨w3.heap.size, 0, none⟩) (by simp; omega)).trans (hb5'.cell (p := ⟨w3.heap.size, 0, none⟩) s34)).trans v40
    have v51 := ((hb5.cell (p := ⟨w3.heap.size, 1, none⟩) (by simp; omega)).trans (hb5'.cell (p := ⟨w3.heap.size, 1, none⟩) s34)).trans v41
    have v52 := ((hb5.cell (p := ⟨w3.heap.size, 2, none⟩) (by simp; omega)).trans (hb5'.cell (p := ⟨w3.heap.size, 2, none⟩) s34)).trans v42
    have d5 := hb5.cell (p := ⟨w4.heap.size, 0, none⟩) (by simp)
    simp [go_sem] at d5
    have s5 : w4.heap.size < w5.heap.size := by have := hb5.size; simp at this; omega
    have s35 : w3.heap.size < w5.heap.size := by omega
    have s05 : w.heap.size < w5.heap.size := by omega
    have HI5 := Lib.hid ((HI4.out.below hb5').below hb5)
    have B5 := Lib.hid (step (step B4.out hb5') hb5)
    clear hb5 hb5' hk5 hn5 c4 v40 v41 v42
    go_wp2_with fail
    have hb6' : Below w5.heap.size w5 (w5.alloc (.cells #[.int .i64 i3, .string t3, .bool q3] 62)) := (Below.refl _ _).alloc (Nat.le_refl _) _
    refine (eqVer_same i3 t3 q3 _).mono ?_
    rintro e w6 ⟨rfl, hb6⟩
    have c6 := ((hb6.cell (p := ⟨w.heap.size, 0, none⟩) (by simp; omega)).trans (hb6'.cell (p := ⟨w.heap.size, 0, none⟩) s05)).trans c5
    have d6 := ((hb6.cell (p := ⟨w4.heap.size, 0, none⟩) (by simp; omega)).trans (hb6'.cell (p := ⟨w4.heap.size, 0, none⟩) s5)).trans d5
    have s6 : w4.heap.size < w6.heap.size := by have := hb6.size; simp at this; omega
    have HI6 := Lib.hid ((HI5.out.below hb6').below hb6)
    have B6 := Lib.hid (step (step B5.out hb6') hb6)
    clear hb6 hb6' c5 d5 v50 v51 v52
    go_wp2_with fail
    go_region_with (first
      | (go_at_call 30; refine (toVmap_any a os cap _ (HV.out.below (B6.out.drew)) hL HVl.out).mono ?_; rintro e w7 ⟨g7, cs7, hsame7, hl7, rfl, hin7, hb7⟩; have d7 := (hb7.cell (p := ⟨w4.heap.size, 0, none⟩) s6).trans d6; have HS7 := Lib.hid hsame7; have HI7 := Lib.hid hin7; have HB7 := Lib.hid hb7; clear hsame7 hin7 hb7 hl7)
      | (go_at_call 32; refine (eqVmap_same _ _ cs4 cs7 _ _ os.length _ ((HI6.out.below ((Below.refl _ _).drew)).below HB7.out) HI7.out (same_symm_trans HS4.out HS7.out) E4.out (fits_same HS4.out HF.out) HN.out).mono ?_; rintro e w8 ⟨rfl, hb8⟩))
    all_goals
      go_wp2_with fail
      go_ret
      exact ⟨rfl, step (step (B6.out.drew) HB7.out) hb8⟩
end Go.Proofs.Ytchnmcpnpipfiaa
