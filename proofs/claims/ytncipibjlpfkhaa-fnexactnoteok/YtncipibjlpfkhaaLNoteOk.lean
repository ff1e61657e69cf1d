/- The law of NoteOk, walked. -/
import Derived.Test.YtncipibjlpfkhaaNoteS
import Derived.Test.YtncipibjlpfkhaaLVmapOk
namespace Go.Proofs.Ytncipibjlpfkhaa
open Go.RowKit

theorem bothP {P : Prop} {b c : Bool} (h : b = true ↔ P) (k : c = true ↔ P) : b = c := by rw [Bool.eq_iff_iff, h, k]

set_option maxHeartbeats 2000000 in
theorem noteOk_law (kd id at_ ti : Int) (a1 a2 : Option Addr) (ws : List WantD) (us : List WriteD) (k1 k2 : Nat) (w : World) (hv : WantsIn w a1 ws) (hu : WritesIn w a2 us) (hn : ws.length ≤ maxLen) (hm : us.length ≤ maxLen) (hf : ∀ v ∈ ws, v.fits) (hg : ∀ v ∈ us, v.fits) :
    Calls Try.prog 6 #[.agg #[.int .i64 kd, .int .i64 id, .int .i64 at_, .int .i64 ti, .slice a1 ws.length k1, .slice a2 us.length k2]] w fun e w' => e = .returned (.bool true) ∧ Below w.heap.size w w' := by
  have HV := Lib.hid hv
  have HU := Lib.hid hu
  have HF := Lib.hid hf
  have HG := Lib.hid hg
  have HN := Lib.hid hn
  have HM := Lib.hid hm
  clear hv hu hf hg hn hm
  go_enter Try.func6, Try.ntmps6
  go_wp2_with fail
  have hb0 : Below w.heap.size w (w.alloc (.cells #[.int .i64 kd, .int .i64 id, .int .i64 at_, .int .i64 ti, .slice a1 ws.length k1, .slice a2 us.length k2] 47)) := (Below.refl _ _).alloc (Nat.le_refl _) _
  refine (szNote_any kd id at_ ti a1 a2 ws us k1 k2 _ _ (HV.out.below hb0) (HU.out.below hb0) HF.out HG.out HN.out HM.out (by omega) (by omega)).mono ?_
  rintro e w1 ⟨z, rfl, hz, hb1⟩
  have a01 := hb1.cell (p := ⟨w.heap.size, 0, none⟩) (by simp)
  have a11 := hb1.cell (p := ⟨w.heap.size, 1, none⟩) (by simp)
  have a21 := hb1.cell (p := ⟨w.heap.size, 2, none⟩) (by simp)
  have a31 := hb1.cell (p := ⟨w.heap.size, 3, none⟩) (by simp)
  have a41 := hb1.cell (p := ⟨w.heap.size, 4, none⟩) (by simp)
  have a51 := hb1.cell (p := ⟨w.heap.size, 5, none⟩) (by simp)
  simp [go_sem] at a01 a11 a21 a31 a41 a51
  have s1 : w.heap.size < w1.heap.size := by have := hb1.size; simp at this; omega
  have B1 := Lib.hid (hb0.trans (hb1.mono (by simp)))
  clear hb0 hb1
  rcases hz with rfl | ⟨hz, hsum⟩
  · go_wp2_with fail
    go_ret
    exact ⟨rfl, B1.out⟩
  · have hL : ws.length ≤ 1048576 := by have := WantsSize_len ws; omega
    have hM : us.length ≤ 1048576 := by have := WritesSize_len us; omega
    clear hsum
    go_wp2_with fail
    refine (toNote_any kd id at_ ti a1 a2 ws us k1 k2 _ (HV.out.below B1.out) (HU.out.below B1.out) hL hM).mono ?_
    rintro e w2 ⟨g1, g2, -, -, -, rfl, hi1, hi2, -, -, hb2, -⟩
    have a02 := (hb2.cell (p := ⟨w.heap.size, 0, none⟩) s1).trans a01
    have a12 := (hb2.cell (p := ⟨w.heap.size, 1, none⟩) s1).trans a11
    have a22 := (hb2.cell (p := ⟨w.heap.size, 2, none⟩) s1).trans a21
    have a32 := (hb2.cell (p := ⟨w.heap.size, 3, none⟩) s1).trans a31
    have a42 := (hb2.cell (p := ⟨w.heap.size, 4, none⟩) s1).trans a41
    have a52 := (hb2.cell (p := ⟨w.heap.size, 5, none⟩) s1).trans a51
    have s2 : w.heap.size < w2.heap.size := Nat.lt_of_lt_of_le s1 hb2.size
    have B2 := Lib.hid (step B1.out hb2)
    have HI1 := Lib.hid hi1
    have HI2 := Lib.hid hi2
    clear hi1 hi2 hb2 a01 a11 a21 a31 a41 a51
    go_wp2_with fail
    refine (specNoteOk_any kd id at_ ti _ _ ws us _ _ _ HI1.out HI2.out HF.out HG.out hL hM).mono ?_
    rintro e w3 ⟨b3, rfl, hk3, hb3⟩
    have a03 := (hb3.cell (p := ⟨w.heap.size, 0, none⟩) s2).trans a02
    have a13 := (hb3.cell (p := ⟨w.heap.size, 1, none⟩) s2).trans a12
    have a23 := (hb3.cell (p := ⟨w.heap.size, 2, none⟩) s2).trans a22
    have a33 := (hb3.cell (p := ⟨w.heap.size, 3, none⟩) s2).trans a32
    have a43 := (hb3.cell (p := ⟨w.heap.size, 4, none⟩) s2).trans a42
    have a53 := (hb3.cell (p := ⟨w.heap.size, 5, none⟩) s2).trans a52
    have s3 : w.heap.size < w3.heap.size := Nat.lt_of_lt_of_le s2 hb3.size
    have B3 := Lib.hid (step B2.out hb3)
    have K3 := Lib.hid hk3
    clear hb3 hk3 a02 a12 a22 a32 a42 a52
    go_wp2_with fail
    refine (toNote_any kd id at_ ti a1 a2 ws us k1 k2 _ (HV.out.below B3.out) (HU.out.below B3.out) hL hM).mono ?_
    rintro e w4 ⟨h1, h2, -, -, -, rfl, hi1, hi2, -, -, hb4, -⟩
    obtain ⟨W4, hW4⟩ : ∃ W4, w4.alloc (.cells #[.int .i64 kd, .int .i64 id, .int .i64 at_, .int .i64 ti, .slice (some ⟨h1, 0, none⟩) ws.length ws.length, .slice (some ⟨h2, 0, none⟩) us.length us.length] 55) = W4 := ⟨_, rfl⟩
    have hb4' : Below w4.heap.size w4 W4 := by rw [← hW4]; exact (Below.refl _ _).alloc (Nat.le_refl _) _
    have q4 : ∀ b o, b < w3.heap.size → W4.cell? ⟨b, o, none⟩ = w3.cell? ⟨b, o, none⟩ := fun b o h => (hb4'.cell (p := ⟨b, o, none⟩) (Nat.lt_of_lt_of_le h hb4.size)).trans (hb4.cell (p := ⟨b, o, none⟩) h)
    have a04 := (q4 _ 0 s3).trans a03
    have a14 := (q4 _ 1 s3).trans a13
    have a24 := (q4 _ 2 s3).trans a23
    have a34 := (q4 _ 3 s3).trans a33
    have a44 := (q4 _ 4 s3).trans a43
    have a54 := (q4 _ 5 s3).trans a53
    have n0 : W4.cell? ⟨w4.heap.size, 0, none⟩ = some (.int .i64 kd) := by rw [← hW4]; simp [go_sem]
    have n1 : W4.cell? ⟨w4.heap.size, 1, none⟩ = some (.int .i64 id) := by rw [← hW4]; simp [go_sem]
    have n2 : W4.cell? ⟨w4.heap.size, 2, none⟩ = some (.int .i64 at_) := by rw [← hW4]; simp [go_sem]
    have n3 : W4.cell? ⟨w4.heap.size, 3, none⟩ = some (.int .i64 ti) := by rw [← hW4]; simp [go_sem]
    have n4 : W4.cell? ⟨w4.heap.size, 4, none⟩ = some (.slice (some ⟨h1, 0, none⟩) ws.length ws.length) := by rw [← hW4]; simp [go_sem]
    have n5 : W4.cell? ⟨w4.heap.size, 5, none⟩ = some (.slice (some ⟨h2, 0, none⟩) us.length us.length) := by rw [← hW4]; simp [go_sem]
    have s4 : w.heap.size < W4.heap.size := Nat.lt_of_lt_of_le s3 (Nat.le_trans hb4.size hb4'.size)
    have u4 : w4.heap.size < W4.heap.size := by rw [← hW4]; simp
    have B4 := Lib.hid (step (step B3.out hb4) hb4')
    have HJ1 := Lib.hid (hi1.below hb4')
    have HJ2 := Lib.hid (hi2.below hb4')
    clear hi1 hi2 hb4 hb4' a03 a13 a23 a33 a43 a53 q4 s3
    go_wp2_with fail
    clear hW4
    refine (noteOk_any kd id at_ ti _ _ ws us _ _ _ HJ1.out HJ2.out HF.out HG.out hL hM).mono ?_
    rintro e w5 ⟨b5, rfl, hk5, hb5⟩
    obtain rfl : b5 = b3 := bothP hk5 K3.out
    have a05 := (hb5.cell (p := ⟨w.heap.size, 0, none⟩) s4).trans a04
    have a15 := (hb5.cell (p := ⟨w.heap.size, 1, none⟩) s4).trans a14
    have a25 := (hb5.cell (p := ⟨w.heap.size, 2, none⟩) s4).trans a24
    have a35 := (hb5.cell (p := ⟨w.heap.size, 3, none⟩) s4).trans a34
    have a45 := (hb5.cell (p := ⟨w.heap.size, 4, none⟩) s4).trans a44
    have a55 := (hb5.cell (p := ⟨w.heap.size, 5, none⟩) s4).trans a54
    have m0 := (hb5.cell (p := ⟨w4.heap.size, 0, none⟩) u4).trans n0
    have m1 := (hb5.cell (p := ⟨w4.heap.size, 1, none⟩) u4).trans n1
    have m2 := (hb5.cell (p := ⟨w4.heap.size, 2, none⟩) u4).trans n2
    have m3 := (hb5.cell (p := ⟨w4.heap.size, 3, none⟩) u4).trans n3
    have m4 := (hb5.cell (p := ⟨w4.heap.size, 4, none⟩) u4).trans n4
    have m5 := (hb5.cell (p := ⟨w4.heap.size, 5, none⟩) u4).trans n5
    have u5 : w4.heap.size < w5.heap.size := Nat.lt_of_lt_of_le u4 hb5.size
    have HK1 := Lib.hid (HJ1.out.below hb5)
    have HK2 := Lib.hid (HJ2.out.below hb5)
    have B5 := Lib.hid (step B4.out hb5)
    clear hb5 hk5 a04 a14 a24 a34 a44 a54 n0 n1 n2 n3 n4 n5 s4 u4
    go_wp2_with fail
    go_region_with (first
      | (go_at_call 24; refine (toNote_any kd id at_ ti a1 a2 ws us k1 k2 _ (HV.out.below (B5.out.drew)) (HU.out.below (B5.out.drew)) hL hM).mono ?_; rintro e w6 ⟨f1, f2, -, -, -, rfl, hi1, hi2, -, -, hb6, -⟩; have d06 := (hb6.cell (p := ⟨w4.heap.size, 0, none⟩) u5).trans m0; have d16 := (hb6.cell (p := ⟨w4.heap.size, 1, none⟩) u5).trans m1; have d26 := (hb6.cell (p := ⟨w4.heap.size, 2, none⟩) u5).trans m2; have d36 := (hb6.cell (p := ⟨w4.heap.size, 3, none⟩) u5).trans m3; have d46 := (hb6.cell (p := ⟨w4.heap.size, 4, none⟩) u5).trans m4; have d56 := (hb6.cell (p := ⟨w4.heap.size, 5, none⟩) u5).trans m5; have HI6 := Lib.hid hi1; have HI7 := Lib.hid hi2; have HB6 := Lib.hid hb6; clear hi1 hi2 hb6)
      | (go_at_call 26; refine (eqNote_same kd id at_ ti _ _ _ _ ws us _ _ _ _ ws.length us.length _ rfl rfl ((HK1.out.below ((Below.refl _ _).drew)).below HB6.out) HI6.out ((HK2.out.below ((Below.refl _ _).drew)).below HB6.out) HI7.out HN.out HM.out).mono ?_; rintro e w7 ⟨rfl, hb7⟩))
    all_goals
      go_wp2_with fail
      go_ret
      exact ⟨rfl, step (step (B5.out.drew) HB6.out) hb7⟩
end Go.Proofs.Ytncipibjlpfkhaa
