/- Transactions: their sizes, copies and equality. -/
import Derived.Test.YthjikcfpoomioaaFlWant
import Derived.Test.YthjikcfpoomioaaFlWrite
namespace Go.Proofs.Ythjikcfpoomioaa
open Go.RowKit

set_option maxHeartbeats 1000000 in
theorem szTxn_any (id : Int) (a1 a2 : Option Addr) (ws : List WantD) (us : List WriteD) (k1 k2 : Nat) (left : Int) (w : World) (hv : WantsIn w a1 ws) (hu : WritesIn w a2 us) (hf : ∀ v ∈ ws, v.fits) (hg : ∀ v ∈ us, v.fits) (hn : ws.length ≤ maxLen) (hm : us.length ≤ maxLen) (h0 : 0 ≤ left) (hl : left ≤ 1048576) :
    Calls Try.prog 56 #[.agg #[.int .i64 id, .slice a1 ws.length k1, .slice a2 us.length k2], .int .i64 left] w (SzPost left (WantsSize ws + WritesSize us) w) := by
  have HV := Lib.hid hv
  have HU := Lib.hid hu
  have HF := Lib.hid hf
  have HG := Lib.hid hg
  have HN := Lib.hid hn
  have HM := Lib.hid hm
  clear hv hu hf hg hn hm
  have hb0 : Below w.heap.size w (w.alloc (.cells #[.int .i64 id, .slice a1 ws.length k1, .slice a2 us.length k2] 86)) := (Below.refl _ _).alloc (Nat.le_refl _) _
  go_enter Try.func56, Try.ntmps56
  go_wp2_with fail
  refine (szWantS_any _ _ _ _ _ (HV.out.below hb0) HF.out HN.out h0 hl).mono ?_
  rintro e w2 ⟨z2, rfl, hz2, hb2⟩
  have c2 := hb2.cell (p := ⟨w.heap.size, 2, none⟩) (by simp)
  simp [go_sem] at c2
  have HB2 := Lib.hid (hb0.trans (hb2.mono (by simp)))
  clear hb2 hb0
  rcases hz2 with rfl | ⟨hp, hsum⟩
  · go_wp2_with fail
    go_ret
    exact ⟨-1, rfl, .inl rfl, HB2.out⟩
  · have HS := Lib.hid hsum
    have hle : z2 ≤ 1048576 := by have := hsum; omega
    clear hsum
    go_wp2_with fail
    refine (szWriteS_any _ _ _ _ _ (HU.out.below HB2.out) HG.out HM.out hp hle).mono ?_
    rintro e w3 ⟨z3, rfl, hz3, hb3⟩
    have HB3 := Lib.hid (HB2.out.trans (hb3.mono HB2.out.size))
    clear hb3
    rcases hz3 with rfl | ⟨hp3, hsum3⟩
    · go_wp2_with fail
      go_ret
      exact ⟨-1, rfl, .inl rfl, HB3.out⟩
    · have HS3 := Lib.hid hsum3
      clear hsum3
      go_wp2_with fail
      go_ret
      exact ⟨z3, rfl, .inr ⟨hp3, by have := HS.out; have := HS3.out; omega⟩, HB3.out⟩

def ToTx (id : Int) (ws : List WantD) (us : List WriteD) (w : World) (e : Ending) (w' : World) : Prop :=
  ∃ g1 g2, w.heap.size ≤ g1 ∧ w.heap.size ≤ g2 ∧ g1 < g2 ∧ e = .returned (.agg #[.int .i64 id, .slice (some ⟨g1, 0, none⟩) ws.length ws.length, .slice (some ⟨g2, 0, none⟩) us.length us.length]) ∧ WantsIn w' (some ⟨g1, 0, none⟩) ws ∧ WritesIn w' (some ⟨g2, 0, none⟩) us ∧ Free w' (some ⟨g1, 0, none⟩) (ws.length * 2) ∧ Free w' (some ⟨g2, 0, none⟩) (us.length * 3) ∧ Below w.heap.size w w' ∧ g2 < w'.heap.size

theorem Free.setT {u : World} {b g o n : Nat} {x : Value} (h : Free u (some ⟨b, 0, none⟩) n) (hg : g ≠ b) : Free (u.setCell ⟨g, o, none⟩ x) (some ⟨b, 0, none⟩) n :=
  h.turned (S := fun k => k = g) (fun b' off e k => hg (by cases e; exact k.symm)) ((Turned.refl (fun k => k = g) u).setCell (p := ⟨g, o, none⟩) rfl x)

set_option maxHeartbeats 1000000 in
theorem toTxn_any (id : Int) (a1 a2 : Option Addr) (ws : List WantD) (us : List WriteD) (k1 k2 : Nat) (w : World) (hv : WantsIn w a1 ws) (hu : WritesIn w a2 us) (hn : ws.length ≤ 1048576) (hm : us.length ≤ 1048576) :
    Calls Try.prog 58 #[.agg #[.int .i64 id, .slice a1 ws.length k1, .slice a2 us.length k2]] w (ToTx id ws us w) := by
  have HV := Lib.hid hv
  have HU := Lib.hid hu
  clear hv hu
  obtain ⟨W1, hW1⟩ : ∃ W1, ((w.alloc (.cells #[.int .i64 id, .slice a1 ws.length k1, .slice a2 us.length k2] 86)).alloc (.cells #[.int .i64 0, .slice none 0 0, .slice none 0 0] 93)).alloc (.cells #[.int .i64 id, .slice none 0 0, .slice none 0 0] 93) = W1 := ⟨_, rfl⟩
  have B1 : Below w.heap.size w W1 := by rw [← hW1]; exact (((Below.refl _ _).alloc (Nat.le_refl _) _).alloc (by simp) _).alloc (by simp; omega) _
  have z1 : W1.heap.size = w.heap.size + 3 := by rw [← hW1]; simp
  have aA : W1.cell? ⟨w.heap.size, 1, none⟩ = some (.slice a1 ws.length k1) := by rw [← hW1]; simp [go_sem]
  have a0 : W1.cell? ⟨w.heap.size, 2, none⟩ = some (.slice a2 us.length k2) := by rw [← hW1]; simp [go_sem]
  have p0 : W1.cell? ⟨w.heap.size + 1, 0, none⟩ = some (.int .i64 0) := by rw [← hW1]; simp [go_sem]
  have p1 : W1.cell? ⟨w.heap.size + 1, 1, none⟩ = some (.slice none 0 0) := by rw [← hW1]; simp [go_sem]
  have p2 : W1.cell? ⟨w.heap.size + 1, 2, none⟩ = some (.slice none 0 0) := by rw [← hW1]; simp [go_sem]
  have r0 : W1.cell? ⟨w.heap.size + 1 + 1, 0, none⟩ = some (.int .i64 id) := by rw [← hW1]; simp [go_sem]
  have r1 : W1.cell? ⟨w.heap.size + 1 + 1, 1, none⟩ = some (.slice none 0 0) := by rw [← hW1]; simp [go_sem]
  have r2 : W1.cell? ⟨w.heap.size + 1 + 1, 2, none⟩ = some (.slice none 0 0) := by rw [← hW1]; simp [go_sem]
  have fp : ∀ o, W1.frozen? ⟨w.heap.size + 1, o, none⟩ = false := fun o => by rw [← hW1]; simp [go_sem]
  have fr : ∀ o, W1.frozen? ⟨w.heap.size + 1 + 1, o, none⟩ = false := fun o => by rw [← hW1]; simp [go_sem]
  have Z1 := Lib.hid z1
  have FP := Lib.hid fp
  have FR := Lib.hid fr
  clear z1 fp fr
  go_enter Try.func58, Try.ntmps58
  go_wp2_with fail
  clear hW1
  refine (toWantS_any a1 ws k1 W1 (HV.out.below B1) hn).mono ?_
  rintro e w2 ⟨rfl, hin, hfr, hb2, hlt2⟩
  have q2 : ∀ b o, b < W1.heap.size → w2.cell? ⟨b, o, none⟩ = W1.cell? ⟨b, o, none⟩ := fun b o h => hb2.cell (p := ⟨b, o, none⟩) h
  have t0 : w.heap.size < W1.heap.size := by rw [Z1.out]; omega
  have t1 : w.heap.size + 1 < W1.heap.size := by rw [Z1.out]; omega
  have t2 : w.heap.size + 1 + 1 < W1.heap.size := by rw [Z1.out]; omega
  have a0' := (q2 _ 2 t0).trans a0
  have p0' := (q2 _ 0 t1).trans p0
  have p1' := (q2 _ 1 t1).trans p1
  have p2' := (q2 _ 2 t1).trans p2
  have r0' := (q2 _ 0 t2).trans r0
  have r1' := (q2 _ 1 t2).trans r1
  have r2' := (q2 _ 2 t2).trans r2
  have f1' := (hb2.frozen (p := ⟨w.heap.size + 1 + 1, 1, none⟩) t2).trans (FR.out 1)
  have HI := Lib.hid hin
  have HFr := Lib.hid hfr
  have B2 := Lib.hid (B1.trans (hb2.mono (by omega)))
  have HB2 := Lib.hid hb2
  have hg1 := Lib.hid hlt2
  clear hin hfr hb2 q2 hlt2 a0 aA p0 p1 p2 r0 r1 r2
  obtain ⟨W2, hW2⟩ : ∃ W2, w2.setCell ⟨w.heap.size + 1 + 1, 1, none⟩ (.slice (some ⟨W1.heap.size, 0, none⟩) ws.length ws.length) = W2 := ⟨_, rfl⟩
  have a0 : W2.cell? ⟨w.heap.size, 2, none⟩ = some (.slice a2 us.length k2) := by rw [← hW2]; simp [go_sem, a0']
  have p0 : W2.cell? ⟨w.heap.size + 1, 0, none⟩ = some (.int .i64 0) := by rw [← hW2]; simp [go_sem, p0']
  have p1 : W2.cell? ⟨w.heap.size + 1, 1, none⟩ = some (.slice none 0 0) := by rw [← hW2]; simp [go_sem, p1']
  have p2 : W2.cell? ⟨w.heap.size + 1, 2, none⟩ = some (.slice none 0 0) := by rw [← hW2]; simp [go_sem, p2']
  have r0 : W2.cell? ⟨w.heap.size + 1 + 1, 0, none⟩ = some (.int .i64 id) := by rw [← hW2]; simp [go_sem, r0']
  have r1 : W2.cell? ⟨w.heap.size + 1 + 1, 1, none⟩ = some (.slice (some ⟨W1.heap.size, 0, none⟩) ws.length ws.length) := by rw [← hW2]; simp [go_sem, r1']
  have r2 : W2.cell? ⟨w.heap.size + 1 + 1, 2, none⟩ = some (.slice none 0 0) := by rw [← hW2]; simp [go_sem, r2']
  have B2' : Below w.heap.size w W2 := by rw [← hW2]; exact B2.out.setCell (p := ⟨w.heap.size + 1 + 1, 1, none⟩) (by simp; omega) _
  have zz : W2.heap.size = w2.heap.size := by rw [← hW2]; simp
  have HI2 : WantsIn W2 (some ⟨W1.heap.size, 0, none⟩) ws := by rw [← hW2]; exact HI.out.set (by omega)
  have HF2 : Free W2 (some ⟨W1.heap.size, 0, none⟩) (ws.length * 2) := by rw [← hW2]; exact HFr.out.setT (by omega)
  have fp : ∀ o, W2.frozen? ⟨w.heap.size + 1, o, none⟩ = false := fun o => by
    rw [← hW2]; simp [go_sem]; exact (HB2.out.frozen (p := ⟨w.heap.size + 1, o, none⟩) t1).trans (FP.out o)
  have fr : W2.frozen? ⟨w.heap.size + 1 + 1, 2, none⟩ = false := by
    rw [← hW2]; simp [go_sem]; exact (HB2.out.frozen (p := ⟨w.heap.size + 1 + 1, 2, none⟩) t2).trans (FR.out 2)
  have HP := Lib.hid fp
  have HI2' := Lib.hid HI2
  have HF2' := Lib.hid HF2
  have ZZ := Lib.hid zz
  have BB := Lib.hid B2'
  have y0 : w.heap.size < W2.heap.size := by rw [zz]; exact Nat.lt_of_lt_of_le t0 HB2.out.size
  have y1 : w.heap.size + 1 < W2.heap.size := by rw [zz]; exact Nat.lt_of_lt_of_le t1 HB2.out.size
  have y2 : w.heap.size + 1 + 1 < W2.heap.size := by rw [zz]; exact Nat.lt_of_lt_of_le t2 HB2.out.size
  clear a0' p0' p1' p2' r0' r2' fp HI2 HF2 zz B2' B1
  go_wp2_with fail
  clear hW2 r1' f1'
  refine (toWriteS_any a2 us k2 W2 (HU.out.below BB.out) hm).mono ?_
  rintro e w3 ⟨rfl, hin, hfr, hb3, hlt3⟩
  have q3 : ∀ b o, b < W2.heap.size → w3.cell? ⟨b, o, none⟩ = W2.cell? ⟨b, o, none⟩ := fun b o h => hb3.cell (p := ⟨b, o, none⟩) h
  have p0' := (q3 _ 0 y1).trans p0
  have p1' := (q3 _ 1 y1).trans p1
  have p2' := (q3 _ 2 y1).trans p2
  have r0' := (q3 _ 0 y2).trans r0
  have r1' := (q3 _ 1 y2).trans r1
  have r2' := (q3 _ 2 y2).trans r2
  have f2' := (hb3.frozen (p := ⟨w.heap.size + 1 + 1, 2, none⟩) y2).trans fr
  have fp0 := (hb3.frozen (p := ⟨w.heap.size + 1, 0, none⟩) y1).trans (HP.out 0)
  have fp1 := (hb3.frozen (p := ⟨w.heap.size + 1, 1, none⟩) y1).trans (HP.out 1)
  have fp2 := (hb3.frozen (p := ⟨w.heap.size + 1, 2, none⟩) y1).trans (HP.out 2)
  have X := Lib.hid (And.intro hin (And.intro hfr hb3))
  have hg3 := Lib.hid hlt3
  clear hlt3 hin hfr hb3 q3 p0 p1 p2 r0 r1 r2 fr a0
  go_wp2_with fail
  refine bodyPost_ret (v := .agg #[.int .i64 id, .slice (some ⟨W1.heap.size, 0, none⟩) ws.length ws.length, .slice (some ⟨W2.heap.size, 0, none⟩) us.length us.length]) (by simp [results, Try.results58, go_sem, p0', p1', p2']) rfl ⟨W1.heap.size, W2.heap.size, by omega, by omega, by rw [ZZ.out]; exact hg1.out, rfl, ?_, ?_, ?_, ?_, ?_, ?_⟩
  · exact (((((HI2'.out.below X.out.2.2).set (by omega)).set (by omega)).set (by omega)).set (by omega))
  · exact ((((X.out.1.set (by omega)).set (by omega)).set (by omega)).set (by omega))
  · exact (((((HF2'.out.below X.out.2.2).setT (by omega)).setT (by omega)).setT (by omega)).setT (by omega))
  · exact ((((X.out.2.1.setT (by omega)).setT (by omega)).setT (by omega)).setT (by omega))
  · exact ((((BB.out.trans (X.out.2.2.mono (by omega))).setCell (by simp; omega) _).setCell (by simp) _).setCell (by simp) _).setCell (by simp) _
  · have := hg3.out; simpa using this

set_option maxHeartbeats 1000000 in
theorem eqTxn_same (id : Int) (a1 a2 b1 b2 : Option Addr) (ws : List WantD) (us : List WriteD) (k1 k2 l1 l2 n m : Nat) (w : World) (h1 : ws.length = n) (h2 : us.length = m) (ha1 : WantsIn w a1 ws) (hb1 : WantsIn w b1 ws) (ha2 : WritesIn w a2 us) (hb2 : WritesIn w b2 us) (hn : n ≤ maxLen) (hm : m ≤ maxLen) :
    Calls Try.prog 61 #[.agg #[.int .i64 id, .slice a1 n k1, .slice a2 m k2], .agg #[.int .i64 id, .slice b1 n l1, .slice b2 m l2]] w fun e w' => e = .returned (.bool true) ∧ Below w.heap.size w w' := by
  subst h1 h2
  have HA1 := Lib.hid ha1
  have HB1 := Lib.hid hb1
  have HA2 := Lib.hid ha2
  have HB2 := Lib.hid hb2
  clear ha1 hb1 ha2 hb2
  have hb0 : Below w.heap.size w ((w.alloc (.cells #[.int .i64 id, .slice a1 ws.length k1, .slice a2 us.length k2] 93)).alloc (.cells #[.int .i64 id, .slice b1 ws.length l1, .slice b2 us.length l2] 93)) := ((Below.refl _ _).alloc (Nat.le_refl _) _).alloc (by simp) _
  go_enter Try.func61, Try.ntmps61
  go_wp2_with fail
  refine (eqWantS_same a1 b1 ws k1 l1 _ (HA1.out.below hb0) (HB1.out.below hb0) hn).mono ?_
  rintro e w2 ⟨rfl, hw2⟩
  have c2 := hw2.cell (p := ⟨w.heap.size, 2, none⟩) (by simp; omega)
  have d2 := hw2.cell (p := ⟨w.heap.size + 1, 2, none⟩) (by simp)
  simp [go_sem] at c2 d2
  have E2 := Lib.hid (hb0.trans (hw2.mono (by simp; omega)))
  clear hw2 hb0
  go_wp2_with fail
  refine (eqWriteS_same a2 b2 us k2 l2 _ (HA2.out.below E2.out) (HB2.out.below E2.out) hm).mono ?_
  rintro e w3 ⟨rfl, hw3⟩
  have E3 := Lib.hid (E2.out.trans (hw3.mono E2.out.size))
  clear hw3
  go_wp2_with fail
  go_ret
  exact ⟨rfl, E3.out⟩
end Go.Proofs.Ythjikcfpoomioaa
