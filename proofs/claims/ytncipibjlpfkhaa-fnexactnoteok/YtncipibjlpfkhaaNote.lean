/- Notes: their sizes, copies and equality. -/
import Derived.Test.YtncipibjlpfkhaaTx
namespace Go.Proofs.Ytncipibjlpfkhaa
open Go.RowKit

set_option maxHeartbeats 1000000 in
theorem szNote_any (kd id at_ ti : Int) (a1 a2 : Option Addr) (ws : List WantD) (us : List WriteD) (k1 k2 : Nat) (left : Int) (w : World) (hv : WantsIn w a1 ws) (hu : WritesIn w a2 us) (hf : ∀ v ∈ ws, v.fits) (hg : ∀ v ∈ us, v.fits) (hn : ws.length ≤ maxLen) (hm : us.length ≤ maxLen) (h0 : 0 ≤ left) (hl : left ≤ 1048576) :
    Calls Try.prog 22 #[.agg #[.int .i64 kd, .int .i64 id, .int .i64 at_, .int .i64 ti, .slice a1 ws.length k1, .slice a2 us.length k2], .int .i64 left] w (SzPost left (WantsSize ws + WritesSize us) w) := by
  have HV := Lib.hid hv
  have HU := Lib.hid hu
  have HF := Lib.hid hf
  have HG := Lib.hid hg
  have HN := Lib.hid hn
  have HM := Lib.hid hm
  clear hv hu hf hg hn hm
  have hb0 : Below w.heap.size w (w.alloc (.cells #[.int .i64 kd, .int .i64 id, .int .i64 at_, .int .i64 ti, .slice a1 ws.length k1, .slice a2 us.length k2] 47)) := (Below.refl _ _).alloc (Nat.le_refl _) _
  go_enter Try.func22, Try.ntmps22
  go_wp2_with fail
  refine (szTxn_any ti a1 a2 ws us k1 k2 left _ (HV.out.below hb0) (HU.out.below hb0) HF.out HG.out HN.out HM.out h0 hl).mono ?_
  rintro e w2 ⟨z2, rfl, hz2, hb2⟩
  have HB2 := Lib.hid (hb0.trans (hb2.mono (by simp)))
  clear hb2 hb0
  rcases hz2 with rfl | ⟨hp, hsum⟩
  · go_wp2_with fail
    go_ret
    exact ⟨-1, rfl, .inl rfl, HB2.out⟩
  · have HS := Lib.hid hsum
    clear hsum
    go_wp2_with fail
    go_ret
    exact ⟨z2, rfl, .inr ⟨hp, HS.out⟩, HB2.out⟩

def ToNote (kd id at_ ti : Int) (ws : List WantD) (us : List WriteD) (w : World) (e : Ending) (w' : World) : Prop :=
  ∃ g1 g2, w.heap.size ≤ g1 ∧ w.heap.size ≤ g2 ∧ g1 < g2 ∧ e = .returned (.agg #[.int .i64 kd, .int .i64 id, .int .i64 at_, .int .i64 ti, .slice (some ⟨g1, 0, none⟩) ws.length ws.length, .slice (some ⟨g2, 0, none⟩) us.length us.length]) ∧ WantsIn w' (some ⟨g1, 0, none⟩) ws ∧ WritesIn w' (some ⟨g2, 0, none⟩) us ∧ Free w' (some ⟨g1, 0, none⟩) (ws.length * 2) ∧ Free w' (some ⟨g2, 0, none⟩) (us.length * 3) ∧ Below w.heap.size w w' ∧ g2 < w'.heap.size

set_option maxRecDepth 100000 in
set_option maxHeartbeats 2000000 in
theorem toNote_any (kd id at_ ti : Int) (a1 a2 : Option Addr) (ws : List WantD) (us : List WriteD) (k1 k2 : Nat) (w : World) (hv : WantsIn w a1 ws) (hu : WritesIn w a2 us) (hn : ws.length ≤ 1048576) (hm : us.length ≤ 1048576) :
    Calls Try.prog 24 #[.agg #[.int .i64 kd, .int .i64 id, .int .i64 at_, .int .i64 ti, .slice a1 ws.length k1, .slice a2 us.length k2]] w (ToNote kd id at_ ti ws us w) := by
  have HV := Lib.hid hv
  have HU := Lib.hid hu
  clear hv hu
  obtain ⟨W1, hW1⟩ : ∃ W1, ((w.alloc (.cells #[.int .i64 kd, .int .i64 id, .int .i64 at_, .int .i64 ti, .slice a1 ws.length k1, .slice a2 us.length k2] 47)).alloc (.cells #[.int .i64 0, .int .i64 0, .int .i64 0, .int .i64 0, .slice none 0 0, .slice none 0 0] 55)).alloc (.cells #[.int .i64 kd, .int .i64 id, .int .i64 at_, .int .i64 0, .slice none 0 0, .slice none 0 0] 55) = W1 := ⟨_, rfl⟩
  have B1 : Below w.heap.size w W1 := by rw [← hW1]; exact (((Below.refl _ _).alloc (Nat.le_refl _) _).alloc (by simp) _).alloc (by simp; omega) _
  have z1 : W1.heap.size = w.heap.size + 3 := by rw [← hW1]; simp
  have a3 : W1.cell? ⟨w.heap.size, 3, none⟩ = some (.int .i64 ti) := by rw [← hW1]; simp [go_sem]
  have a4 : W1.cell? ⟨w.heap.size, 4, none⟩ = some (.slice a1 ws.length k1) := by rw [← hW1]; simp [go_sem]
  have a5 : W1.cell? ⟨w.heap.size, 5, none⟩ = some (.slice a2 us.length k2) := by rw [← hW1]; simp [go_sem]
  have p0 : W1.cell? ⟨w.heap.size + 1, 0, none⟩ = some (.int .i64 0) := by rw [← hW1]; simp [go_sem]
  have p1 : W1.cell? ⟨w.heap.size + 1, 1, none⟩ = some (.int .i64 0) := by rw [← hW1]; simp [go_sem]
  have p2 : W1.cell? ⟨w.heap.size + 1, 2, none⟩ = some (.int .i64 0) := by rw [← hW1]; simp [go_sem]
  have p3 : W1.cell? ⟨w.heap.size + 1, 3, none⟩ = some (.int .i64 0) := by rw [← hW1]; simp [go_sem]
  have p4 : W1.cell? ⟨w.heap.size + 1, 4, none⟩ = some (.slice none 0 0) := by rw [← hW1]; simp [go_sem]
  have p5 : W1.cell? ⟨w.heap.size + 1, 5, none⟩ = some (.slice none 0 0) := by rw [← hW1]; simp [go_sem]
  have r0 : W1.cell? ⟨w.heap.size + 1 + 1, 0, none⟩ = some (.int .i64 kd) := by rw [← hW1]; simp [go_sem]
  have r1 : W1.cell? ⟨w.heap.size + 1 + 1, 1, none⟩ = some (.int .i64 id) := by rw [← hW1]; simp [go_sem]
  have r2 : W1.cell? ⟨w.heap.size + 1 + 1, 2, none⟩ = some (.int .i64 at_) := by rw [← hW1]; simp [go_sem]
  have r3 : W1.cell? ⟨w.heap.size + 1 + 1, 3, none⟩ = some (.int .i64 0) := by rw [← hW1]; simp [go_sem]
  have r4 : W1.cell? ⟨w.heap.size + 1 + 1, 4, none⟩ = some (.slice none 0 0) := by rw [← hW1]; simp [go_sem]
  have r5 : W1.cell? ⟨w.heap.size + 1 + 1, 5, none⟩ = some (.slice none 0 0) := by rw [← hW1]; simp [go_sem]
  have fp : ∀ o, W1.frozen? ⟨w.heap.size + 1, o, none⟩ = false := fun o => by rw [← hW1]; simp [go_sem]
  have fr : ∀ o, W1.frozen? ⟨w.heap.size + 1 + 1, o, none⟩ = false := fun o => by rw [← hW1]; simp [go_sem]
  have Z1 := Lib.hid z1
  clear z1
  have FP := Lib.hid fp
  clear fp
  have FR := Lib.hid fr
  clear fr
  go_enter Try.func24, Try.ntmps24
  go_wp2_with fail
  clear hW1
  refine (toTxn_any ti a1 a2 ws us k1 k2 W1 (HV.out.below B1) (HU.out.below B1) hn hm).mono ?_
  rintro e w2 ⟨g1, g2, h1, h2, h3, rfl, hi1, hi2, hf1, hf2, hb2, hlt⟩
  have q2 : ∀ b o, b < W1.heap.size → w2.cell? ⟨b, o, none⟩ = W1.cell? ⟨b, o, none⟩ := fun b o h => hb2.cell (p := ⟨b, o, none⟩) h
  have v2 : ∀ b o, b < W1.heap.size → w2.frozen? ⟨b, o, none⟩ = W1.frozen? ⟨b, o, none⟩ := fun b o h => hb2.frozen (p := ⟨b, o, none⟩) h
  have t1 : w.heap.size + 1 < W1.heap.size := by rw [Z1.out]; omega
  have t2 : w.heap.size + 1 + 1 < W1.heap.size := by rw [Z1.out]; omega
  have p0x := (q2 _ 0 t1).trans p0
  have p1x := (q2 _ 1 t1).trans p1
  have p2x := (q2 _ 2 t1).trans p2
  have p3x := (q2 _ 3 t1).trans p3
  have p4x := (q2 _ 4 t1).trans p4
  have p5x := (q2 _ 5 t1).trans p5
  have r0x := (q2 _ 0 t2).trans r0
  have r1x := (q2 _ 1 t2).trans r1
  have r2x := (q2 _ 2 t2).trans r2
  have r3x := (q2 _ 3 t2).trans r3
  have r4x := (q2 _ 4 t2).trans r4
  have r5x := (q2 _ 5 t2).trans r5
  have FPx := Lib.hid (fun o => (v2 _ o t1).trans (FP.out o))
  have f3 := (v2 _ 3 t2).trans (FR.out 3)
  have f4 := (v2 _ 4 t2).trans (FR.out 4)
  have f5 := (v2 _ 5 t2).trans (FR.out 5)
  have X := Lib.hid (And.intro hi1 (And.intro hi2 (And.intro hf1 hf2)))
  have HB := Lib.hid (B1.trans (hb2.mono (by omega)))
  have Z2 := Lib.hid (show w.heap.size + 3 ≤ w2.heap.size by have := hb2.size; rw [Z1.out] at this; exact this)
  have HG := Lib.hid (show w.heap.size + 3 ≤ g1 ∧ w.heap.size + 3 ≤ g2 ∧ g1 < g2 ∧ g2 < w2.heap.size by rw [← Z1.out]; exact ⟨h1, h2, h3, hlt⟩)
  clear a3 a4 a5 h1 h2 h3 hlt hi1 hi2 hf1 hf2 hb2 q2 v2 B1 p0 r0 p1 r1 p2 r2 p3 r3 p4 r4 p5 r5
  obtain ⟨W2, hW2⟩ : ∃ W2, ((w2.setCell ⟨w.heap.size + 1 + 1, 3, none⟩ (.int .i64 ti)).setCell ⟨w.heap.size + 1 + 1, 4, none⟩ (.slice (some ⟨g1, 0, none⟩) ws.length ws.length)).setCell ⟨w.heap.size + 1 + 1, 5, none⟩ (.slice (some ⟨g2, 0, none⟩) us.length us.length) = W2 := ⟨_, rfl⟩
  have p0 : W2.cell? ⟨w.heap.size + 1, 0, none⟩ = some (.int .i64 0) := by rw [← hW2]; simp [go_sem, p0x, p1x, p2x, p3x, p4x, p5x]
  have p1 : W2.cell? ⟨w.heap.size + 1, 1, none⟩ = some (.int .i64 0) := by rw [← hW2]; simp [go_sem, p0x, p1x, p2x, p3x, p4x, p5x]
  have p2 : W2.cell? ⟨w.heap.size + 1, 2, none⟩ = some (.int .i64 0) := by rw [← hW2]; simp [go_sem, p0x, p1x, p2x, p3x, p4x, p5x]
  have p3 : W2.cell? ⟨w.heap.size + 1, 3, none⟩ = some (.int .i64 0) := by rw [← hW2]; simp [go_sem, p0x, p1x, p2x, p3x, p4x, p5x]
  have p4 : W2.cell? ⟨w.heap.size + 1, 4, none⟩ = some (.slice none 0 0) := by rw [← hW2]; simp [go_sem, p0x, p1x, p2x, p3x, p4x, p5x]
  have p5 : W2.cell? ⟨w.heap.size + 1, 5, none⟩ = some (.slice none 0 0) := by rw [← hW2]; simp [go_sem, p0x, p1x, p2x, p3x, p4x, p5x]
  have r0 : W2.cell? ⟨w.heap.size + 1 + 1, 0, none⟩ = some (.int .i64 kd) := by rw [← hW2]; simp [go_sem, r0x, r1x, r2x, r3x, r4x, r5x]
  have r1 : W2.cell? ⟨w.heap.size + 1 + 1, 1, none⟩ = some (.int .i64 id) := by rw [← hW2]; simp [go_sem, r0x, r1x, r2x, r3x, r4x, r5x]
  have r2 : W2.cell? ⟨w.heap.size + 1 + 1, 2, none⟩ = some (.int .i64 at_) := by rw [← hW2]; simp [go_sem, r0x, r1x, r2x, r3x, r4x, r5x]
  have r3 : W2.cell? ⟨w.heap.size + 1 + 1, 3, none⟩ = some (.int .i64 ti) := by rw [← hW2]; simp [go_sem, r0x, r1x, r2x, r3x, r4x, r5x]
  have r4 : W2.cell? ⟨w.heap.size + 1 + 1, 4, none⟩ = some (.slice (some ⟨g1, 0, none⟩) ws.length ws.length) := by rw [← hW2]; simp [go_sem, r0x, r1x, r2x, r3x, r4x, r5x]
  have r5 : W2.cell? ⟨w.heap.size + 1 + 1, 5, none⟩ = some (.slice (some ⟨g2, 0, none⟩) us.length us.length) := by rw [← hW2]; simp [go_sem, r0x, r1x, r2x, r3x, r4x, r5x]
  have g0f : W2.frozen? ⟨w.heap.size + 1, 0, none⟩ = false := by rw [← hW2]; simp [go_sem, FPx.out]
  have g1f : W2.frozen? ⟨w.heap.size + 1, 1, none⟩ = false := by rw [← hW2]; simp [go_sem, FPx.out]
  have g2f : W2.frozen? ⟨w.heap.size + 1, 2, none⟩ = false := by rw [← hW2]; simp [go_sem, FPx.out]
  have g3f : W2.frozen? ⟨w.heap.size + 1, 3, none⟩ = false := by rw [← hW2]; simp [go_sem, FPx.out]
  have g4f : W2.frozen? ⟨w.heap.size + 1, 4, none⟩ = false := by rw [← hW2]; simp [go_sem, FPx.out]
  have g5f : W2.frozen? ⟨w.heap.size + 1, 5, none⟩ = false := by rw [← hW2]; simp [go_sem, FPx.out]
  have zz : W2.heap.size = w2.heap.size := by rw [← hW2]; simp
  have BB := Lib.hid (show Below w.heap.size w W2 by rw [← hW2]; exact ((HB.out.setCell (p := ⟨w.heap.size + 1 + 1, 3, none⟩) (by simp; omega) _).setCell (p := ⟨w.heap.size + 1 + 1, 4, none⟩) (by simp; omega) _).setCell (p := ⟨w.heap.size + 1 + 1, 5, none⟩) (by simp; omega) _)
  have Y := Lib.hid (show WantsIn W2 (some ⟨g1, 0, none⟩) ws ∧ WritesIn W2 (some ⟨g2, 0, none⟩) us ∧ Free W2 (some ⟨g1, 0, none⟩) (ws.length * 2) ∧ Free W2 (some ⟨g2, 0, none⟩) (us.length * 3) by
    have hG := HG.out
    rw [← hW2]
    exact ⟨(((X.out.1.set (by omega)).set (by omega)).set (by omega)), (((X.out.2.1.set (by omega)).set (by omega)).set (by omega)), (((X.out.2.2.1.setT (by omega)).setT (by omega)).setT (by omega)), (((X.out.2.2.2.setT (by omega)).setT (by omega)).setT (by omega))⟩)
  have ZZ := Lib.hid (show w.heap.size + 3 ≤ W2.heap.size ∧ g2 < W2.heap.size by rw [zz]; exact ⟨Z2.out, HG.out.2.2.2⟩)
  have y1 : w.heap.size + 1 < W2.heap.size := by have := ZZ.out.1; omega
  have y2 : w.heap.size + 1 + 1 < W2.heap.size := by have := ZZ.out.1; omega
  clear zz X HB Z2 Z1 FP FR FPx t1 t2 p0x p1x p2x p3x p4x p5x r0x r1x r2x
  go_wp2_with fail
  clear hW2 r3x r4x r5x f3 f4 f5
  have hG := HG.out
  have hZ := ZZ.out
  refine bodyPost_ret (v := .agg #[.int .i64 kd, .int .i64 id, .int .i64 at_, .int .i64 ti, .slice (some ⟨g1, 0, none⟩) ws.length ws.length, .slice (some ⟨g2, 0, none⟩) us.length us.length]) (by simp [results, Try.results24, go_sem, p0, p1, p2, p3, p4, p5, r0, r1, r2, r3, r4, r5, y1]) rfl ?_
  exact ⟨g1, g2, by omega, by omega, hG.2.2.1, rfl, ((((((Y.out.1.set (by omega)).set (by omega)).set (by omega)).set (by omega)).set (by omega)).set (by omega)), ((((((Y.out.2.1.set (by omega)).set (by omega)).set (by omega)).set (by omega)).set (by omega)).set (by omega)), ((((((Y.out.2.2.1.setT (by omega)).setT (by omega)).setT (by omega)).setT (by omega)).setT (by omega)).setT (by omega)), ((((((Y.out.2.2.2.setT (by omega)).setT (by omega)).setT (by omega)).setT (by omega)).setT (by omega)).setT (by omega)), (((((BB.out.setCell (p := ⟨w.heap.size + 1, 0, none⟩) (by simp) _).setCell (p := ⟨w.heap.size + 1, 1, none⟩) (by simp) _).setCell (p := ⟨w.heap.size + 1, 2, none⟩) (by simp) _).setCell (p := ⟨w.heap.size + 1, 3, none⟩) (by simp) _).setCell (p := ⟨w.heap.size + 1, 4, none⟩) (by simp) _).setCell (p := ⟨w.heap.size + 1, 5, none⟩) (by simp) _, by simpa using hZ.2⟩

set_option maxHeartbeats 1000000 in
theorem eqNote_same (kd id at_ ti : Int) (a1 a2 b1 b2 : Option Addr) (ws : List WantD) (us : List WriteD) (k1 k2 l1 l2 n m : Nat) (w : World) (h1 : ws.length = n) (h2 : us.length = m) (ha1 : WantsIn w a1 ws) (hb1 : WantsIn w b1 ws) (ha2 : WritesIn w a2 us) (hb2 : WritesIn w b2 us) (hn : n ≤ maxLen) (hm : m ≤ maxLen) :
    Calls Try.prog 26 #[.agg #[.int .i64 kd, .int .i64 id, .int .i64 at_, .int .i64 ti, .slice a1 n k1, .slice a2 m k2], .agg #[.int .i64 kd, .int .i64 id, .int .i64 at_, .int .i64 ti, .slice b1 n l1, .slice b2 m l2]] w fun e w' => e = .returned (.bool true) ∧ Below w.heap.size w w' := by
  subst h1 h2
  have HA1 := Lib.hid ha1
  have HB1 := Lib.hid hb1
  have HA2 := Lib.hid ha2
  have HB2 := Lib.hid hb2
  clear ha1 hb1 ha2 hb2
  have hb0 : Below w.heap.size w ((w.alloc (.cells #[.int .i64 kd, .int .i64 id, .int .i64 at_, .int .i64 ti, .slice a1 ws.length k1, .slice a2 us.length k2] 55)).alloc (.cells #[.int .i64 kd, .int .i64 id, .int .i64 at_, .int .i64 ti, .slice b1 ws.length l1, .slice b2 us.length l2] 55)) := ((Below.refl _ _).alloc (Nat.le_refl _) _).alloc (by simp) _
  go_enter Try.func26, Try.ntmps26
  go_wp2_with fail
  refine (eqTxn_same ti a1 a2 b1 b2 ws us k1 k2 l1 l2 ws.length us.length _ rfl rfl (HA1.out.below hb0) (HB1.out.below hb0) (HA2.out.below hb0) (HB2.out.below hb0) hn hm).mono ?_
  rintro e w2 ⟨rfl, hw2⟩
  have E2 := Lib.hid (hb0.trans (hw2.mono (by simp; omega)))
  clear hw2 hb0
  go_wp2_with fail
  go_ret
  exact ⟨rfl, E2.out⟩
end Go.Proofs.Ytncipibjlpfkhaa
