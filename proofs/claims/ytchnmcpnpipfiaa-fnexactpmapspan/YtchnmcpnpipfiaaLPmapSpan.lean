/- The law of PmapSpan, walked. -/
import Derived.Test.YtchnmcpnpipfiaaPmSpanS
import Derived.Test.YtchnmcpnpipfiaaSpanB
import Derived.Test.YtchnmcpnpipfiaaLPmapOk
namespace Go.Proofs.Ytchnmcpnpipfiaa
open Go.RowKit

theorem pmSpan_both {ep : Int} {vs : List RowD} {k : Int} {b c : Bool} (h : b = true ↔ PmapOkP ep vs ∧ 0 ≤ k ∧ k < vs.length) (g : c = true ↔ PmapOkP ep vs ∧ 0 ≤ k ∧ k < vs.length) : b = c := by rw [Bool.eq_iff_iff, h, g]

set_option maxHeartbeats 2000000 in
theorem pmapSpan_law (ep : Int) (a : Option Addr) (vs : List RowD) (cap : Nat) (k : Int) (w : World) (hv : RowsIn w a vs) (hf : ∀ v ∈ vs, v.fits) (hn : vs.length ≤ maxLen) :
    Calls Try.prog 4 #[.agg #[.int .i64 ep, .slice a vs.length cap], .int .i64 k] w fun e w' => e = .returned (.bool true) ∧ Below w.heap.size w w' := by
  have HV := Lib.hid hv
  have HF := Lib.hid hf
  have HN := Lib.hid hn
  clear hv hf hn
  go_enter Try.func4, Try.ntmps4
  go_wp2_with fail
  have hb0 : Below w.heap.size w (w.alloc (.cells #[.int .i64 ep, .slice a vs.length cap] 24)) := (Below.refl _ _).alloc (Nat.le_refl _) _
  refine (szPmap_any ep a vs cap _ _ (HV.out.below hb0) HF.out HN.out (by omega) (by omega)).mono ?_
  rintro e w1 ⟨z, rfl, hz, hb1⟩
  have c1 := hb1.cell (p := ⟨w.heap.size, 0, none⟩) (by simp)
  have x1 := hb1.cell (p := ⟨w.heap.size, 1, none⟩) (by simp)
  simp [go_sem] at c1 x1
  have s1 : w.heap.size < w1.heap.size := by have := hb1.size; simp at this; omega
  have B1 := Lib.hid (hb0.trans (hb1.mono (by simp)))
  clear hb0 hb1
  rcases hz with rfl | ⟨hz, hsum⟩
  · go_wp2_with fail
    go_ret
    exact ⟨rfl, B1.out⟩
  · have hL : vs.length ≤ 1048576 := by have := RowsSize_len vs; omega
    clear hsum
    go_wp2_with fail
    refine (toPmap_any ep a vs cap _ (HV.out.below B1.out) hL).mono ?_
    rintro e w2 ⟨g2, hg2, rfl, hin2, hfr2, hb2⟩
    have c2 := (hb2.cell (p := ⟨w.heap.size, 0, none⟩) s1).trans c1
    have x2 := (hb2.cell (p := ⟨w.heap.size, 1, none⟩) s1).trans x1
    have s2 : w.heap.size < w2.heap.size := Nat.lt_of_lt_of_le s1 hb2.size
    have B2 := Lib.hid (step B1.out hb2)
    have HI2 := Lib.hid hin2
    clear hin2 hb2 hfr2 c1 x1
    go_wp2_with fail
    refine (specPmapSpan_any ep _ vs _ k _ HI2.out HF.out hL).mono ?_
    rintro e w3 ⟨b3, hk3, rfl, hb3⟩
    obtain ⟨lo, hlo⟩ : ∃ lo, lo = (if b3 then loOf vs k.toNat else ⟨#[]⟩) := ⟨_, rfl⟩
    obtain ⟨hi, hhi⟩ : ∃ hi, hi = (if b3 then hiOf vs k.toNat else ⟨#[]⟩) := ⟨_, rfl⟩
    rw [← hlo, ← hhi]
    have hb3' : Below w3.heap.size w3 (w3.alloc (.cells #[.string lo, .string hi] 34)) := (Below.refl _ _).alloc (Nat.le_refl _) _
    obtain ⟨W3, hW3⟩ : ∃ W3, w3.alloc (.cells #[.string lo, .string hi] 34) = W3 := ⟨_, rfl⟩
    rw [hW3] at hb3'
    have c3 := (hb3'.cell (p := ⟨w.heap.size, 0, none⟩) (Nat.lt_of_lt_of_le s2 hb3.size)).trans ((hb3.cell (p := ⟨w.heap.size, 0, none⟩) s2).trans c2)
    have x3 := (hb3'.cell (p := ⟨w.heap.size, 1, none⟩) (Nat.lt_of_lt_of_le s2 hb3.size)).trans ((hb3.cell (p := ⟨w.heap.size, 1, none⟩) s2).trans x2)
    have m0 : W3.cell? ⟨w3.heap.size, 0, none⟩ = some (.string lo) := by rw [← hW3]; simp [go_sem]
    have m1 : W3.cell? ⟨w3.heap.size, 1, none⟩ = some (.string hi) := by rw [← hW3]; simp [go_sem]
    have s3 : w.heap.size < W3.heap.size := Nat.lt_of_lt_of_le (Nat.lt_of_lt_of_le s2 hb3.size) hb3'.size
    have t3 : w3.heap.size < W3.heap.size := by rw [← hW3]; simp
    have B3 := Lib.hid (step (step B2.out hb3) hb3')
    have K3 := Lib.hid hk3
    have HLO := Lib.hid hlo
    have HHI := Lib.hid hhi
    clear hb3 hk3 c2 x2 hlo hhi hb3' s2
    go_wp2_with fail
    clear hW3
    refine (toPmap_any ep a vs cap _ (HV.out.below B3.out) hL).mono ?_
    rintro e w4 ⟨g4, hg4, rfl, hin4, hfr4, hb4⟩
    obtain ⟨W4, hW4⟩ : ∃ W4, w4.alloc (.cells #[.int .i64 ep, .slice (some ⟨g4, 0, none⟩) vs.length vs.length] 29) = W4 := ⟨_, rfl⟩
    have hb4' : Below w4.heap.size w4 W4 := by rw [← hW4]; exact (Below.refl _ _).alloc (Nat.le_refl _) _
    have q4 : ∀ b o, b < W3.heap.size → W4.cell? ⟨b, o, none⟩ = W3.cell? ⟨b, o, none⟩ := fun b o h => (hb4'.cell (p := ⟨b, o, none⟩) (Nat.lt_of_lt_of_le h hb4.size)).trans (hb4.cell (p := ⟨b, o, none⟩) h)
    have c4 := (q4 _ 0 s3).trans c3
    have x4 := (q4 _ 1 s3).trans x3
    have m0' := (q4 _ 0 t3).trans m0
    have m1' := (q4 _ 1 t3).trans m1
    have n0 : W4.cell? ⟨w4.heap.size, 0, none⟩ = some (.int .i64 ep) := by rw [← hW4]; simp [go_sem]
    have n1 : W4.cell? ⟨w4.heap.size, 1, none⟩ = some (.slice (some ⟨g4, 0, none⟩) vs.length vs.length) := by rw [← hW4]; simp [go_sem]
    have s4 : w.heap.size < W4.heap.size := Nat.lt_of_lt_of_le s3 (Nat.le_trans hb4.size hb4'.size)
    have t4 : w3.heap.size < W4.heap.size := Nat.lt_of_lt_of_le t3 (Nat.le_trans hb4.size hb4'.size)
    have u4 : w4.heap.size < W4.heap.size := by rw [← hW4]; simp
    have B4 := Lib.hid (step (step B3.out hb4) hb4')
    have HI4 := Lib.hid (hin4.below hb4')
    clear hin4 hb4 hb4' hfr4 c3 x3 m0 m1 q4 s3 t3
    go_wp2_with fail
    clear hW4
    refine (pmapSpan_any ep _ vs _ k _ HI4.out HF.out hL).mono ?_
    rintro e w5 ⟨b5, hk5, rfl, hb5⟩
    obtain rfl : b5 = b3 := pmSpan_both hk5 K3.out
    rw [← HLO.out, ← HHI.out]
    obtain ⟨W5, hW5⟩ : ∃ W5, w5.alloc (.cells #[.string lo, .string hi] 34) = W5 := ⟨_, rfl⟩
    have hb5' : Below w5.heap.size w5 W5 := by rw [← hW5]; exact (Below.refl _ _).alloc (Nat.le_refl _) _
    have q5 : ∀ b o, b < W4.heap.size → W5.cell? ⟨b, o, none⟩ = W4.cell? ⟨b, o, none⟩ := fun b o h => (hb5'.cell (p := ⟨b, o, none⟩) (Nat.lt_of_lt_of_le h hb5.size)).trans (hb5.cell (p := ⟨b, o, none⟩) h)
    have c5 := (q5 _ 0 s4).trans c4
    have x5 := (q5 _ 1 s4).trans x4
    have m0 := (q5 _ 0 t4).trans m0'
    have m1 := (q5 _ 1 t4).trans m1'
    have d5 := (q5 _ 0 u4).trans n0
    have y5 := (q5 _ 1 u4).trans n1
    have p0 : W5.cell? ⟨w5.heap.size, 0, none⟩ = some (.string lo) := by rw [← hW5]; simp [go_sem]
    have p1 : W5.cell? ⟨w5.heap.size, 1, none⟩ = some (.string hi) := by rw [← hW5]; simp [go_sem]
    have s5 : w.heap.size < W5.heap.size := Nat.lt_of_lt_of_le s4 (Nat.le_trans hb5.size hb5'.size)
    have u5 : w4.heap.size < W5.heap.size := Nat.lt_of_lt_of_le u4 (Nat.le_trans hb5.size hb5'.size)
    have HI5 := Lib.hid ((HI4.out.below hb5).below hb5')
    have B5 := Lib.hid (step (step B4.out hb5) hb5')
    clear hb5 hb5' hk5 c4 x4 q5 m0' m1' n0 n1 s4 t4 u4
    go_wp2_with fail
    clear hW5
    refine (eqSpan_same lo hi _).mono ?_
    rintro e w6 ⟨rfl, hb6⟩
    have c6 := (hb6.cell (p := ⟨w.heap.size, 0, none⟩) s5).trans c5
    have x6 := (hb6.cell (p := ⟨w.heap.size, 1, none⟩) s5).trans x5
    have d6 := (hb6.cell (p := ⟨w4.heap.size, 0, none⟩) u5).trans d5
    have y6 := (hb6.cell (p := ⟨w4.heap.size, 1, none⟩) u5).trans y5
    have u6 : w4.heap.size < w6.heap.size := Nat.lt_of_lt_of_le u5 hb6.size
    have HI6 := Lib.hid (HI5.out.below hb6)
    have B6 := Lib.hid (step B5.out hb6)
    clear hb6 c5 x5 d5 y5 m0 m1 p0 p1 s5 u5
    go_wp2_with fail
    go_region_with (first
      | (go_at_call 15; refine (toPmap_any ep a vs cap _ (HV.out.below (B6.out.drew)) hL).mono ?_; rintro e w7 ⟨g7, hg7, rfl, hin7, hfr7, hb7⟩; have d7 := (hb7.cell (p := ⟨w4.heap.size, 0, none⟩) u6).trans d6; have y7 := (hb7.cell (p := ⟨w4.heap.size, 1, none⟩) u6).trans y6; have HI7 := Lib.hid hin7; have HB7 := Lib.hid hb7; clear hin7 hb7 hfr7)
      | (go_at_call 17; refine (eqPmap_same ep _ _ vs _ _ vs.length _ rfl ((HI6.out.below ((Below.refl _ _).drew)).below HB7.out) HI7.out HN.out).mono ?_; rintro e w8 ⟨rfl, hb8⟩))
    all_goals
      go_wp2_with fail
      go_ret
      exact ⟨rfl, step (step (B6.out.drew) HB7.out) hb8⟩
end Go.Proofs.Ytchnmcpnpipfiaa
