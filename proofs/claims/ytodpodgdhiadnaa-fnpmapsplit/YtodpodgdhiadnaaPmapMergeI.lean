/- Two rows joined, as the program does it. -/
import Derived.Test.YtodpodgdhiadnaaPmDelI
import Derived.Test.YtodpodgdhiadnaaPmapI
namespace Go.Proofs.Ytodpodgdhiadnaa
open Go.RowKit

theorem fieldPmS (ep : Int) (a : Option Addr) (n c : Nat) (w : World) : (Instr.field 80 (.agg #[.int .i64 ep, .slice a n c]) 1).run Try.prog w = .ok (.slice a n c) w := by first | kernel_rfl | rfl | (simp [Instr.field, go_sem]; done)

set_option maxRecDepth 100000 in
set_option maxHeartbeats 2000000 in
theorem pmapMerge_any (ep : Int) (a : Option Addr) (vs : List RowD) (cap : Nat) (k : Int) (w : World) (hv : RowsIn w a vs) (hf : ∀ v ∈ vs, v.fits) (hlen : vs.length ≤ 1048576) :
    Calls Try.prog 63 #[.agg #[.int .i64 ep, .slice a vs.length cap], .int .i64 k] w (PmapMergePost ep vs k w) := by
  have HV := Lib.hid hv
  have HF := Lib.hid hf
  clear hv hf
  obtain ⟨W1, hW1⟩ : ∃ W1, (w.alloc (.cells #[.int .i64 ep, .slice a vs.length cap] 80)).alloc (.cells #[.int .i64 0, .slice none 0 0] 80) = W1 := ⟨_, rfl⟩
  have B1 : Below w.heap.size w W1 := by rw [← hW1]; exact ((Below.refl _ _).alloc (Nat.le_refl _) _).alloc (by simp) _
  have z1 : w.heap.size + 1 < W1.heap.size := by rw [← hW1]; simp
  have c0 : W1.cell? ⟨w.heap.size, 0, none⟩ = some (.int .i64 ep) := by rw [← hW1]; simp [go_sem]
  have c1 : W1.cell? ⟨w.heap.size, 1, none⟩ = some (.slice a vs.length cap) := by rw [← hW1]; simp [go_sem]
  have d0 : W1.cell? ⟨w.heap.size + 1, 0, none⟩ = some (.int .i64 0) := by rw [← hW1]; simp [go_sem]
  have d1 : W1.cell? ⟨w.heap.size + 1, 1, none⟩ = some (.slice none 0 0) := by rw [← hW1]; simp [go_sem]
  have f0 : W1.frozen? ⟨w.heap.size + 1, 0, none⟩ = false := by rw [← hW1]; simp [go_sem]
  have f1 : W1.frozen? ⟨w.heap.size + 1, 1, none⟩ = false := by rw [← hW1]; simp [go_sem]
  have z0 : w.heap.size < W1.heap.size := by omega
  have HB1 := Lib.hid B1
  clear B1
  have hN : (vs.length : Int) ≤ 1048576 := by omega
  go_enter Try.func63, Try.ntmps63
  go_wp2_with fail
  clear hW1
  refine (pmapOk_any ep a vs cap W1 (HV.out.below HB1.out) HF.out (by unfold maxLen; omega)).mono ?_
  rintro e w1 ⟨b, rfl, hk, hb⟩
  have B2 := Lib.hid (HB1.out.trans (hb.mono (by omega)))
  have c0' := (hb.cell (p := ⟨w.heap.size, 0, none⟩) z0).trans c0
  have c1' := (hb.cell (p := ⟨w.heap.size, 1, none⟩) z0).trans c1
  have d0' := (hb.cell (p := ⟨w.heap.size + 1, 0, none⟩) z1).trans d0
  have d1' := (hb.cell (p := ⟨w.heap.size + 1, 1, none⟩) z1).trans d1
  have f0' := (hb.frozen (p := ⟨w.heap.size + 1, 0, none⟩) z1).trans f0
  have f1' := (hb.frozen (p := ⟨w.heap.size + 1, 1, none⟩) z1).trans f1
  have s0 : w.heap.size < w1.heap.size := Nat.lt_of_lt_of_le z0 hb.size
  have s1 : w.heap.size + 1 < w1.heap.size := Nat.lt_of_lt_of_le z1 hb.size
  have HK := Lib.hid hk
  clear hb hk c0 c1 d0 d1 f0 f1
  cases b
  · go_wp2_with fail
    refine bodyPost_ret (v := .tuple #[.agg #[.int .i64 0, .slice none 0 0], .bool false]) (by simp [results, Try.results63, go_sem, d0', d1']) rfl ?_
    exact ⟨0, [], false, .inl ⟨fun h => by simpa using HK.out.2 h, rfl, rfl, rfl⟩, none, 0, rfl, pmAt_none _ _, (B2.out.setCell (p := ⟨w.heap.size + 1, 0, none⟩) (by simp) _).setCell (p := ⟨w.heap.size + 1, 1, none⟩) (by simp) _⟩
  · have hP := Lib.hid (HK.out.1 (by simp))
    have hpos : 0 < vs.length := by have := hP.out.2.1; simp [inB] at this; omega
    have hep : 0 ≤ ep ∧ ep ≤ 99 := by have := hP.out.2.2; simp [inB] at this; omega
    by_cases hC : CanMerge ep vs k
    · obtain ⟨j, rfl⟩ := Int.eq_ofNat_of_zero_le hC.1
      have hj : j + 1 < vs.length := by have := hC.2.1; omega
      have e9 : (ep == 99) = false := by rw [beq_eq_false_iff_ne]; have := hC.2.2; omega
      have hge : ¬ ((vs.length : Int) - 1 ≤ (j : Int)) := by omega
      have HCm := Lib.hid hC
      have hep1 := hep.1
      have hep2 := hep.2
      clear hC hep
      have hw1 : IntKind.i64.wrap ((j : Int) + 1) = (j : Int) + 1 := by rw [IntKind.wrap_i64]; omega
      have hw2 : IntKind.i64.wrap ((j : Int) + 2) = (j : Int) + 2 := by rw [IntKind.wrap_i64]; omega
      have hfl := fieldPmS ep
      go_wp2_with fail
      go_region_with (first
        | (go_at_call 147; refine (pmCopied_any ep a vs cap _ (HV.out.below B2.out.drew) hpos hlen).mono ?_; rintro e w2 ⟨g, cp, rfl, hown, hb2⟩; have c0 := (hb2.cell (p := ⟨w.heap.size, 0, none⟩) s0).trans c0'; have c1 := (hb2.cell (p := ⟨w.heap.size, 1, none⟩) s0).trans c1'; have d0 := (hb2.cell (p := ⟨w.heap.size + 1, 0, none⟩) s1).trans d0'; have d1 := (hb2.cell (p := ⟨w.heap.size + 1, 1, none⟩) s1).trans d1'; have f0 := (hb2.frozen (p := ⟨w.heap.size + 1, 0, none⟩) s1).trans f0'; have f1 := (hb2.frozen (p := ⟨w.heap.size + 1, 1, none⟩) s1).trans f1'; have X := Lib.hid (And.intro hown hb2); clear hown hb2)
        | (go_at_call 149; refine (deleteRow_any vs j g cp _ _ X.out.1 hj hlen).mono ?_; rintro e w3 ⟨rfl, hat, ht⟩; have hgl := (X.out.1.lt g rfl).1; have s2 : w.heap.size + 1 < w2.heap.size := Nat.lt_of_lt_of_le s1 X.out.2.size; have s3 : w.heap.size < w2.heap.size := Nat.lt_of_lt_of_le s0 X.out.2.size; have hne : ¬ (w.heap.size + 1 = g) := (by have h9 : w1.heap.size + 2 ≤ g := hgl; omega); have hne0 : ¬ (w.heap.size = g) := (by have h9 : w1.heap.size + 2 ≤ g := hgl; omega); have c0x := (ht.cell (p := ⟨w.heap.size, 0, none⟩) s3 hne0).trans c0; have c1x := (ht.cell (p := ⟨w.heap.size, 1, none⟩) s3 hne0).trans c1; have d0x := (ht.cell (p := ⟨w.heap.size + 1, 0, none⟩) s2 hne).trans d0; have d1x := (ht.cell (p := ⟨w.heap.size + 1, 1, none⟩) s2 hne).trans d1; have f0x := (ht.frozen (p := ⟨w.heap.size + 1, 0, none⟩) s2 hne).trans f0; have f1x := (ht.frozen (p := ⟨w.heap.size + 1, 1, none⟩) s2 hne).trans f1; have u3 : w.heap.size + 1 < w3.heap.size := Nat.lt_of_lt_of_le s2 ht.size; have Y := Lib.hid (And.intro hat ht); clear hat ht)
        | (go_at_call 148; refine (pmChanged_any ep _ _ _ _ _ _ _ hep1 hep2).mono ?_; rintro e w4 ⟨rfl, hb4⟩; have d0y := (hb4.cell (p := ⟨w.heap.size + 1, 0, none⟩) u3).trans d0x; have d1y := (hb4.cell (p := ⟨w.heap.size + 1, 1, none⟩) u3).trans d1x; have f0y := (hb4.frozen (p := ⟨w.heap.size + 1, 0, none⟩) u3).trans f0x; have f1y := (hb4.frozen (p := ⟨w.heap.size + 1, 1, none⟩) u3).trans f1x; have Z := Lib.hid hb4; clear hb4))
      all_goals
        go_wp2_with fail
        refine bodyPost_ret (v := .tuple #[.agg #[.int .i64 (ep + 1), .slice (some ⟨g, 0, none⟩) (vs.take (j + 1) ++ vs.drop (j + 2)).length cp], .bool true]) (by simp [results, Try.results63, go_sem, d0y, d1y]) rfl ?_
        obtain ⟨hat, ht⟩ := Y.out
        have hb4 := Z.out
        have hgl2 : w1.heap.size + 2 ≤ g := (X.out.1.lt g rfl).1
        have off : ∀ b off, some (⟨g, 0, none⟩ : Addr) = some ⟨b, off, none⟩ → w.heap.size + 1 ≠ b := fun b off e => by cases e; omega
        have hat4 := hat.below hb4
        have hbt : Below w.heap.size w w3 := (B2.out.drew.trans (X.out.2.mono B2.out.size)).trans (ht.below (fun k hk => by omega) (by omega))
        refine ⟨ep + 1, vs.take (j + 1) ++ vs.drop (j + 2), true, .inr (.inr ⟨hP.out, HCm.out, rfl, by simp, rfl⟩), _, cp, rfl, ?_, ((hbt.trans (hb4.mono (by omega))).setCell (p := ⟨w.heap.size + 1, 0, none⟩) (by simp) _).setCell (p := ⟨w.heap.size + 1, 1, none⟩) (by simp) _⟩
        exact ⟨((hat4.setT off).setT off).in1, ((hat4.setT off).setT off).fr1, hat4.l1.mono (by show w.heap.size ≤ w1.heap.size + 2; omega) (by have := hb4.size; simp; omega), Nat.le_refl _⟩
    · have HnC := Lib.hid hC
      have hcase : k < 0 ∨ (0 ≤ k ∧ (vs.length : Int) - 1 ≤ k) ∨ (0 ≤ k ∧ k < (vs.length : Int) - 1 ∧ ep = 99) := by
        by_cases h1 : k < 0
        · exact .inl h1
        · by_cases h2 : (vs.length : Int) - 1 ≤ k
          · exact .inr (.inl ⟨by omega, h2⟩)
          · refine .inr (.inr ⟨by omega, by omega, ?_⟩)
            by_cases h3 : ep = 99
            · exact h3
            · exact absurd ⟨by omega, by omega, by omega⟩ hC
      clear hC
      rcases hcase with h1 | ⟨h1, h2⟩ | ⟨h1, h2, h3⟩
      rotate_left 2
      · have e9 : (ep == 99) = true := by rw [h3]; rfl
        have h2' : ¬ ((vs.length : Int) - 1 ≤ k) := by omega
        clear h3
        go_wp2_with fail
        refine (pmCopied_any ep a vs cap _ (HV.out.below B2.out) hpos hlen).mono ?_
        rintro e w3 ⟨g, cp, rfl, hown, hb3⟩
        have d0 := (hb3.cell (p := ⟨w.heap.size + 1, 0, none⟩) s1).trans d0'
        have d1 := (hb3.cell (p := ⟨w.heap.size + 1, 1, none⟩) s1).trans d1'
        have f0 := (hb3.frozen (p := ⟨w.heap.size + 1, 0, none⟩) s1).trans f0'
        have f1 := (hb3.frozen (p := ⟨w.heap.size + 1, 1, none⟩) s1).trans f1'
        have X := Lib.hid (And.intro hown hb3)
        clear hown hb3 d0' d1' f0' f1'
        go_wp2_with fail
        refine bodyPost_ret (v := .tuple #[.agg #[.int .i64 ep, .slice (some ⟨g, 0, none⟩) vs.length cp], .bool false]) (by simp [results, Try.results63, go_sem, d0, d1]) rfl ?_
        obtain ⟨hown, hb3⟩ := X.out
        have hgl2 := (hown.lt g rfl).1
        exact ⟨ep, vs, false, .inr (.inl ⟨hP.out, HnC.out, rfl, rfl, rfl⟩), _, cp, rfl, (pmAt_own (lo := w.heap.size) hown (by omega)).set2 (by omega), ((B2.out.trans (hb3.mono B2.out.size)).setCell (p := ⟨w.heap.size + 1, 0, none⟩) (by simp) _).setCell (p := ⟨w.heap.size + 1, 1, none⟩) (by simp) _⟩
      · go_wp2_with fail
        refine (pmCopied_any ep a vs cap _ (HV.out.below B2.out) hpos hlen).mono ?_
        rintro e w3 ⟨g, cp, rfl, hown, hb3⟩
        have d0 := (hb3.cell (p := ⟨w.heap.size + 1, 0, none⟩) s1).trans d0'
        have d1 := (hb3.cell (p := ⟨w.heap.size + 1, 1, none⟩) s1).trans d1'
        have f0 := (hb3.frozen (p := ⟨w.heap.size + 1, 0, none⟩) s1).trans f0'
        have f1 := (hb3.frozen (p := ⟨w.heap.size + 1, 1, none⟩) s1).trans f1'
        have X := Lib.hid (And.intro hown hb3)
        clear hown hb3 d0' d1' f0' f1'
        go_wp2_with fail
        refine bodyPost_ret (v := .tuple #[.agg #[.int .i64 ep, .slice (some ⟨g, 0, none⟩) vs.length cp], .bool false]) (by simp [results, Try.results63, go_sem, d0, d1]) rfl ?_
        obtain ⟨hown, hb3⟩ := X.out
        have hgl2 := (hown.lt g rfl).1
        exact ⟨ep, vs, false, .inr (.inl ⟨hP.out, HnC.out, rfl, rfl, rfl⟩), _, cp, rfl, (pmAt_own (lo := w.heap.size) hown (by omega)).set2 (by omega), ((B2.out.trans (hb3.mono B2.out.size)).setCell (p := ⟨w.heap.size + 1, 0, none⟩) (by simp) _).setCell (p := ⟨w.heap.size + 1, 1, none⟩) (by simp) _⟩
      · go_wp2_with fail
        refine (pmCopied_any ep a vs cap _ (HV.out.below B2.out) hpos hlen).mono ?_
        rintro e w3 ⟨g, cp, rfl, hown, hb3⟩
        have d0 := (hb3.cell (p := ⟨w.heap.size + 1, 0, none⟩) s1).trans d0'
        have d1 := (hb3.cell (p := ⟨w.heap.size + 1, 1, none⟩) s1).trans d1'
        have f0 := (hb3.frozen (p := ⟨w.heap.size + 1, 0, none⟩) s1).trans f0'
        have f1 := (hb3.frozen (p := ⟨w.heap.size + 1, 1, none⟩) s1).trans f1'
        have X := Lib.hid (And.intro hown hb3)
        clear hown hb3 d0' d1' f0' f1'
        go_wp2_with fail
        refine bodyPost_ret (v := .tuple #[.agg #[.int .i64 ep, .slice (some ⟨g, 0, none⟩) vs.length cp], .bool false]) (by simp [results, Try.results63, go_sem, d0, d1]) rfl ?_
        obtain ⟨hown, hb3⟩ := X.out
        have hgl2 := (hown.lt g rfl).1
        exact ⟨ep, vs, false, .inr (.inl ⟨hP.out, HnC.out, rfl, rfl, rfl⟩), _, cp, rfl, (pmAt_own (lo := w.heap.size) hown (by omega)).set2 (by omega), ((B2.out.trans (hb3.mono B2.out.size)).setCell (p := ⟨w.heap.size + 1, 0, none⟩) (by simp) _).setCell (p := ⟨w.heap.size + 1, 1, none⟩) (by simp) _⟩
end Go.Proofs.Ytodpodgdhiadnaa
