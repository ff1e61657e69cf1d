/- A row parted: the model's function. -/
import Derived.Test.YtodpodgdhiadnaaPmSpT
import Derived.Test.YtodpodgdhiadnaaPmapMergeS
namespace Go.Proofs.Ytodpodgdhiadnaa
open Go.RowKit

set_option maxRecDepth 100000 in
set_option maxHeartbeats 1000000 in
theorem specPmapSplit_any (ep : Int) (a : Option Addr) (vs : List RowD) (cap : Nat) (key : ByteArray) (node : Int) (w : World) (hv : RowsIn w a vs) (hf : ∀ v ∈ vs, v.fits) (hlen : vs.length ≤ 1048576) (hcap : vs.length ≤ cap) (hcm : cap ≤ maxLen) (hkey : key.size ≤ maxLen) :
    Calls Try.prog 68 #[.agg #[.int .i64 ep, .slice a vs.length cap], .string key, .int .i64 node] w (PmapSplitPost ep vs key node w) := by
  have HV := Lib.hid hv
  have HF := Lib.hid hf
  clear hv hf
  obtain ⟨W1, hW1⟩ : ∃ W1, (w.alloc (.cells #[.int .i64 ep, .slice a vs.length cap] 80)).alloc (.cells #[.int .i64 0, .slice none 0 0] 80) = W1 := ⟨_, rfl⟩
  have B1 : Below w.heap.size w W1 := by rw [← hW1]; exact ((Below.refl _ _).alloc (Nat.le_refl _) _).alloc (by simp) _
  have z1 : w.heap.size + 1 < W1.heap.size := by rw [← hW1]; simp
  have c0 : W1.cell? ⟨w.heap.size, 0, none⟩ = some (.int .i64 ep) := by rw [← hW1]; simp [go_sem]
  have c1 : W1.cell? ⟨w.heap.size, 1, none⟩ = some (.slice a vs.length cap) := by rw [← hW1]; simp [go_sem]
  have d0 : W1.cell? ⟨w.heap.size + 1, 0, none⟩ = some (.int .i64 0) := by rw [← hW1]; simp [go_sem]
  have d1 : W1.cell? ⟨w.heap.size + 1, 1, none⟩ = some (.slice none 0 0) := by rw [← hW1]; simp [go_sem]
  have f0 : W1.frozen? ⟨w.heap.size + 1, 0, none⟩ = false := by rw [← hW1]; simp [go_sem]
  have f1 : W1.frozen? ⟨w.heap.size + 1, 1, none⟩ = false := by rw [← hW1]; simp [go_sem]
  have z0 : w.heap.size < W1.heap.size := by omega
  have HB1 := Lib.hid B1
  clear B1
  go_enter Try.func68, Try.ntmps68
  go_wp2_with fail
  clear hW1
  refine (l5Ok_any ep a vs cap W1 (HV.out.below HB1.out) HF.out (by unfold maxLen; omega)).mono ?_
  rintro e w1 ⟨b, rfl, hk, hb⟩
  have B2 := Lib.hid (HB1.out.trans (hb.mono (by omega)))
  have c0' := (hb.cell (p := ⟨w.heap.size, 0, none⟩) z0).trans c0
  have c1' := (hb.cell (p := ⟨w.heap.size, 1, none⟩) z0).trans c1
  have d0' := (hb.cell (p := ⟨w.heap.size + 1, 0, none⟩) z1).trans d0
  have d1' := (hb.cell (p := ⟨w.heap.size + 1, 1, none⟩) z1).trans d1
  have f0' := (hb.frozen (p := ⟨w.heap.size + 1, 0, none⟩) z1).trans f0
  have f1' := (hb.frozen (p := ⟨w.heap.size + 1, 1, none⟩) z1).trans f1
  have s0 : w.heap.size < w1.heap.size := Nat.lt_of_lt_of_le z0 hb.size
  have s1 : w.heap.size + 1 < w1.heap.size := Nat.lt_of_lt_of_le z1 hb.size
  have HK := Lib.hid hk
  clear hb hk c0 c1 d0 d1 f0 f1
  cases b
  · go_wp2_with fail
    refine bodyPost_ret (v := .tuple #[.agg #[.int .i64 0, .slice none 0 0], .bool false]) (by simp [results, Try.results68, go_sem, d0', d1']) rfl ?_
    exact ⟨0, [], false, .inl ⟨fun h => by simpa using HK.out.2 h, rfl, rfl, rfl⟩, none, 0, rfl, pmAt_none _ _, (B2.out.setCell (p := ⟨w.heap.size + 1, 0, none⟩) (by simp) _).setCell (p := ⟨w.heap.size + 1, 1, none⟩) (by simp) _⟩
  · have hP := Lib.hid (HK.out.1 (by simp))
    have hpos : 0 < vs.length := by have := hP.out.2.1; simp [inB] at this; omega
    have hep : 0 ≤ ep ∧ ep ≤ 99 := by have := hP.out.2.2; simp [inB] at this; omega
    go_wp2_with fail
    refine (l5CanSplit_any ep a vs cap key node _ (HV.out.below B2.out) hP.out hlen hkey).mono ?_
    rintro e w2 ⟨b2, rfl, hk2, hb2⟩
    have B3 := Lib.hid (B2.out.trans (hb2.mono B2.out.size))
    have c0 := (hb2.cell (p := ⟨w.heap.size, 0, none⟩) s0).trans c0'
    have c1 := (hb2.cell (p := ⟨w.heap.size, 1, none⟩) s0).trans c1'
    have d0 := (hb2.cell (p := ⟨w.heap.size + 1, 0, none⟩) s1).trans d0'
    have d1 := (hb2.cell (p := ⟨w.heap.size + 1, 1, none⟩) s1).trans d1'
    have f0 := (hb2.frozen (p := ⟨w.heap.size + 1, 0, none⟩) s1).trans f0'
    have f1 := (hb2.frozen (p := ⟨w.heap.size + 1, 1, none⟩) s1).trans f1'
    have t1 : w.heap.size + 1 < w2.heap.size := Nat.lt_of_lt_of_le s1 hb2.size
    have HK2 := Lib.hid hk2
    clear hb2 hk2 c0' c1' d0' d1' f0' f1'
    cases b2
    · go_wp2_with fail
      refine (l5Copy_any ep a vs cap _ (HV.out.below B3.out) hpos hlen).mono ?_
      rintro e w3 ⟨a3, k3, rfl, hat, hb3, hc3⟩
      have d0' := (hb3.cell (p := ⟨w.heap.size + 1, 0, none⟩) t1).trans d0
      have d1' := (hb3.cell (p := ⟨w.heap.size + 1, 1, none⟩) t1).trans d1
      have f0' := (hb3.frozen (p := ⟨w.heap.size + 1, 0, none⟩) t1).trans f0
      have f1' := (hb3.frozen (p := ⟨w.heap.size + 1, 1, none⟩) t1).trans f1
      have X := Lib.hid (And.intro hat (And.intro hb3 hc3))
      clear hat hb3 hc3 d0 d1 f0 f1
      go_wp2_with fail
      refine bodyPost_ret (v := .tuple #[.agg #[.int .i64 ep, .slice a3 vs.length k3], .bool false]) (by simp [results, Try.results68, go_sem, d0', d1']) rfl ?_
      obtain ⟨hat, hb3, hc3⟩ := X.out
      have off : ∀ b off, a3 = some ⟨b, off, none⟩ → w.heap.size + 1 ≠ b := fun b off e => by have := (hat.l1 b off e).1; omega
      refine ⟨ep, vs, false, .inr (.inl ⟨hP.out, fun h => by simpa using HK2.out.2 h, rfl, rfl, rfl⟩), a3, k3, rfl, ?_, ((B3.out.trans (hb3.mono B3.out.size)).setCell (p := ⟨w.heap.size + 1, 0, none⟩) (by simp) _).setCell (p := ⟨w.heap.size + 1, 1, none⟩) (by simp) _⟩
      exact ⟨((hat.setT off).setT off).in1, ((hat.setT off).setT off).fr1, hat.l1.mono (by omega) (by simp), Nat.le_refl _⟩
    · have hC := HK2.out.1 (by simp)
      obtain ⟨j, hF⟩ := find_ex key hpos
      have HF2 := Lib.hid hF
      clear hF
      have HCm := Lib.hid hC
      clear hC
      go_wp2_with fail
      refine (l5Split_any ep a vs cap j key node _ (HV.out.below B3.out) HF2.out hcap hcm hep.1 hep.2 hlen).mono ?_
      rintro e w3 ⟨a3, k3, rfl, hat, hb3, hc3⟩
      have d0' := (hb3.cell (p := ⟨w.heap.size + 1, 0, none⟩) t1).trans d0
      have d1' := (hb3.cell (p := ⟨w.heap.size + 1, 1, none⟩) t1).trans d1
      have f0' := (hb3.frozen (p := ⟨w.heap.size + 1, 0, none⟩) t1).trans f0
      have f1' := (hb3.frozen (p := ⟨w.heap.size + 1, 1, none⟩) t1).trans f1
      have X := Lib.hid (And.intro hat (And.intro hb3 hc3))
      clear hat hb3 hc3 d0 d1 f0 f1
      go_wp2_with fail
      refine bodyPost_ret (v := .tuple #[.agg #[.int .i64 (ep + 1), .slice a3 (splitAt vs key node j).length k3], .bool true]) (by simp [results, Try.results68, go_sem, d0', d1']) rfl ?_
      obtain ⟨hat, hb3, hc3⟩ := X.out
      have off : ∀ b off, a3 = some ⟨b, off, none⟩ → w.heap.size + 1 ≠ b := fun b off e => by have := (hat.l1 b off e).1; omega
      refine ⟨ep + 1, splitAt vs key node j, true, .inr (.inr ⟨hP.out, HCm.out, rfl, ⟨j, HF2.out, rfl⟩, rfl⟩), a3, k3, rfl, ?_, ((B3.out.trans (hb3.mono B3.out.size)).setCell (p := ⟨w.heap.size + 1, 0, none⟩) (by simp) _).setCell (p := ⟨w.heap.size + 1, 1, none⟩) (by simp) _⟩
      exact ⟨((hat.setT off).setT off).in1, ((hat.setT off).setT off).fr1, hat.l1.mono (by omega) (by simp), Nat.le_refl _⟩
end Go.Proofs.Ytodpodgdhiadnaa
