/- The keys of a span, the program's function. -/
import Derived.Test.YtmabffdocofijaaWithin2
import Derived.Test.YtmabffdocofijaaVmF
import Derived.Test.YtmabffdocofijaaSpanB
namespace Go.Proofs.Ytmabffdocofijaa
open Go.RowKit

set_option maxRecDepth 100000 in
set_option maxHeartbeats 4000000 in
theorem vmapCut_any (a : Option Addr) (os : List ObjD) (cap : Nat) (lo hi : ByteArray) (w : World) (hv : ObjsIn w a os) (hf : ∀ o ∈ os, o.fits) (hp : ∀ o ∈ os, o.plain) (hn : os.length ≤ 1048576) (hl : ∀ o ∈ os, o.vers.length ≤ 1048576) (hlo : lo.size ≤ maxLen) (hhi : hi.size ≤ maxLen) :
    Calls Try.prog 20 #[.agg #[.slice a os.length cap], .agg #[.string lo, .string hi]] w (VmOut (cutF lo hi (os.map ObjD.kv)) w) := by
  have HV := Lib.hid hv
  have HF := Lib.hid hf
  have HP := Lib.hid hp
  have HL := Lib.hid hl
  have hn2 : os.length ≤ maxLen := by unfold maxLen; omega
  clear hv hf hp hl
  obtain ⟨W1, hW1⟩ : ∃ W1, ((w.alloc (.cells #[.slice a os.length cap] 31)).alloc (.cells #[.string lo, .string hi] 34)).alloc (.cells #[.slice none 0 0] 31) = W1 := ⟨_, rfl⟩
  have B1 : Below w.heap.size w W1 := by rw [← hW1]; exact (((Below.refl _ _).alloc (Nat.le_refl _) _).alloc (by simp) _).alloc (by simp <;> omega) _
  have z0 : w.heap.size < W1.heap.size := by rw [← hW1]; simp <;> omega
  have z1 : w.heap.size + 1 < W1.heap.size := by rw [← hW1]; simp <;> omega
  have z2 : w.heap.size + 1 + 1 < W1.heap.size := by rw [← hW1]; simp
  have c0 : W1.cell? ⟨w.heap.size, 0, none⟩ = some (.slice a os.length cap) := by rw [← hW1]; simp [go_sem]
  have s0 : W1.cell? ⟨w.heap.size + 1, 0, none⟩ = some (.string lo) := by rw [← hW1]; simp [go_sem]
  have s1 : W1.cell? ⟨w.heap.size + 1, 1, none⟩ = some (.string hi) := by rw [← hW1]; simp [go_sem]
  have r0 : W1.cell? ⟨w.heap.size + 1 + 1, 0, none⟩ = some (.slice none 0 0) := by rw [← hW1]; simp [go_sem]
  have fr0 : W1.frozen? ⟨w.heap.size + 1 + 1, 0, none⟩ = false := by rw [← hW1]; simp [go_sem]
  have HB1 := Lib.hid B1
  clear B1
  cases hS : spanOkB lo hi
  all_goals
    go_enter Try.func20, Try.ntmps20
    go_wp2_with fail
    clear hW1
    refine (vmapOk_any a os cap _ (HV.out.below HB1.out) HF.out hn2).mono ?_
    rintro e w1 ⟨b, rfl, hb, hb1⟩
    have HI := Lib.hid hb
    have c0x := (hb1.cell (p := ⟨w.heap.size, 0, none⟩) z0).trans c0
    have s0x := (hb1.cell (p := ⟨w.heap.size + 1, 0, none⟩) z1).trans s0
    have s1x := (hb1.cell (p := ⟨w.heap.size + 1, 1, none⟩) z1).trans s1
    have r0x := (hb1.cell (p := ⟨w.heap.size + 1 + 1, 0, none⟩) z2).trans r0
    have fr0x := (hb1.frozen (p := ⟨w.heap.size + 1 + 1, 0, none⟩) z2).trans fr0
    have y0 : w.heap.size < w1.heap.size := Nat.lt_of_lt_of_le z0 hb1.size
    have y1 : w.heap.size + 1 < w1.heap.size := Nat.lt_of_lt_of_le z1 hb1.size
    have y2 : w.heap.size + 1 + 1 < w1.heap.size := Nat.lt_of_lt_of_le z2 hb1.size
    have HBa := Lib.hid (HB1.out.trans (hb1.mono HB1.out.size))
    clear hb hb1
    cases b
    · go_wp2_with fail
      refine bodyPost_ret (v := .agg #[.slice none 0 0]) (by simp [results, Try.results20, go_sem, *]) rfl ?_
      refine ⟨none, [], 0, ?_, rfl, VmAt.nil _ _ _ (by simp), HBa.out.setCell (p := ⟨w.heap.size + 1 + 1, 0, none⟩) (by simp <;> omega) _⟩
      rw [cutF_no (fun h => absurd (HI.out.2 ((mapOk_kv os).2 h.1)) (by decide))]
      rfl
    have HY := Lib.hid ((mapOk_kv os).1 (HI.out.1 rfl))
    go_wp2_with fail
    refine (spanOk_is hS hlo hhi _).mono ?_
    rintro e w2 ⟨rfl, hb2⟩
    have c0 := (hb2.cell (p := ⟨w.heap.size, 0, none⟩) y0).trans c0x
    have s0 := (hb2.cell (p := ⟨w.heap.size + 1, 0, none⟩) y1).trans s0x
    have s1 := (hb2.cell (p := ⟨w.heap.size + 1, 1, none⟩) y1).trans s1x
    have r0 := (hb2.cell (p := ⟨w.heap.size + 1 + 1, 0, none⟩) y2).trans r0x
    have fr0 := (hb2.frozen (p := ⟨w.heap.size + 1 + 1, 0, none⟩) y2).trans fr0x
    have x2 : w.heap.size + 1 + 1 < w2.heap.size := Nat.lt_of_lt_of_le y2 hb2.size
    have HBb := Lib.hid (HBa.out.trans (hb2.mono HBa.out.size))
    clear c0x s0x s1x r0x fr0x hb2
  · go_wp2_with fail
    refine bodyPost_ret (v := .agg #[.slice none 0 0]) (by simp [results, Try.results20, go_sem, *]) rfl ?_
    refine ⟨none, [], 0, ?_, rfl, VmAt.nil _ _ _ (by simp), HBb.out.setCell (p := ⟨w.heap.size + 1 + 1, 0, none⟩) (by simp <;> omega) _⟩
    rw [cutF_no (fun h => by rw [hS] at h; exact absurd h.2 (by decide))]
    rfl
  · go_wp2_with fail
    refine (within_any a os cap lo hi _ (HV.out.below HBb.out) HP.out hn HL.out).mono ?_
    rintro e w3 ⟨va, cs, vc, hkv, rfl, hat, hb3⟩
    have r0x := (hb3.cell (p := ⟨w.heap.size + 1 + 1, 0, none⟩) x2).trans r0
    have fr0x := (hb3.frozen (p := ⟨w.heap.size + 1 + 1, 0, none⟩) x2).trans fr0
    have HK := Lib.hid hkv
    have HA := Lib.hid hat
    have x3 : w.heap.size + 1 + 1 < w3.heap.size := Nat.lt_of_lt_of_le x2 hb3.size
    have HBc := Lib.hid (HBb.out.trans (hb3.mono HBb.out.size))
    clear hkv hat hb3
    go_wp2_with fail
    refine bodyPost_ret (v := .agg #[.slice va cs.length vc]) (by simp [results, Try.results20, go_sem, *]) rfl ?_
    refine ⟨va, cs, vc, ?_, rfl, ?_, HBc.out.setCell (p := ⟨w.heap.size + 1 + 1, 0, none⟩) (by simp <;> omega) _⟩
    · rw [HK.out, cutF_yes HY.out hS]
    · exact (HA.out.turned (S := fun b => b = w.heap.size + 1 + 1) (fun b h1 h2 e => by omega) ((Turned.refl (fun b => b = w.heap.size + 1 + 1) _).setCell (p := ⟨w.heap.size + 1 + 1, 0, none⟩) rfl _)).lower (by omega)
end Go.Proofs.Ytmabffdocofijaa
