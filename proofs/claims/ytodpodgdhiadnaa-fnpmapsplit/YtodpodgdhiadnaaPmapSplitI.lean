/- A row parted, as the program does it. -/
import Derived.Test.YtodpodgdhiadnaaPmWith
import Derived.Test.YtodpodgdhiadnaaPmCpI
namespace Go.Proofs.Ytodpodgdhiadnaa
open Go.RowKit

theorem rows_b (ep : Int) (a : Option Addr) (n c : Nat) (w : World) :
    Calls Try.prog 143 #[.agg #[.int .i64 ep, .slice a n c]] w fun e w' => e = .returned (.slice a n c) ∧ Below w.heap.size w w' := (rows_is ep a n c w).mono fun _ _ ⟨a, b⟩ => ⟨a, b ▸ (Below.refl _ _).alloc (Nat.le_refl _) _⟩

theorem nodeOk_is {i : Int} {b : Bool} (h : inB i 0 2 = b) (w : World) :
    Calls Try.prog 155 #[.int .i64 i] w fun e w' => e = .returned (.bool b) ∧ w = w' := h ▸ nodeOk_any i w

set_option maxRecDepth 100000 in
set_option maxHeartbeats 4000000 in
theorem pmapSplit_any (ep : Int) (a : Option Addr) (vs : List RowD) (cap : Nat) (key : ByteArray) (node : Int) (w : World) (hv : RowsIn w a vs) (hf : ∀ v ∈ vs, v.fits) (hlen : vs.length ≤ 1048576) (hcap : vs.length ≤ cap) (hcm : cap ≤ maxLen) (hkey : key.size ≤ maxLen) :
    Calls Try.prog 67 #[.agg #[.int .i64 ep, .slice a vs.length cap], .string key, .int .i64 node] w (PmapSplitPost ep vs key node w) := by
  have HV := Lib.hid hv
  have HF := Lib.hid hf
  clear hv hf
  obtain ⟨W1, hW1⟩ : ∃ W1, (w.alloc (.cells #[.int .i64 ep, .slice a vs.length cap] 80)).alloc (.cells #[.int .i64 0, .slice none 0 0] 80) = W1 := ⟨_, rfl⟩
  have B1 : Below w.heap.size w W1 := by rw [← hW1]; exact ((Below.refl _ _).alloc (Nat.le_refl _) _).alloc (by simp) _
  have z1 : w.heap.size + 1 < W1.heap.size := by rw [← hW1]; simp
  have c0 : W1.cell? ⟨w.heap.size, 0, none⟩ = some (.int .i64 ep) := by rw [← hW1]; simp [go_sem]
  have c1 : W1.cell? ⟨w.heap.size, 1, none⟩ = some (.slice a vs.length cap) := by rw [← hW1]; simp [go_sem]
  have d0 : W1.cell? ⟨w.heap.size + 1, 0, none⟩ = some (.int .i64 0) := by rw [← hW1]; simp [go_sem]
  have d1 : W1.cell? ⟨w.heap.size + 1, 1, none⟩ = some (.slice none 0 0) := by rw [← hW1]; simp [go_sem]
  have f0 : W1.frozen? ⟨w.heap.size + 1, 0, none⟩ = false := by rw [← hW1]; simp [go_sem]
  have f1 : W1.frozen? ⟨w.heap.size + 1, 1, none⟩ = false := by rw [← hW1]; simp [go_sem]
  have z0 : w.heap.size < W1.heap.size := by omega
  have HB1 := Lib.hid B1
  clear B1
  have hN : (vs.length : Int) ≤ 1048576 := by omega
  go_enter Try.func67, Try.ntmps67
  go_wp2_with fail
  clear hW1
  refine (pmapOk_any ep a vs cap W1 (HV.out.below HB1.out) HF.out (by unfold maxLen; omega)).mono ?_
  rintro e w1 ⟨b, rfl, hk, hb⟩
  have B2 := Lib.hid (HB1.out.trans (hb.mono (by omega)))
  have c0' := (hb.cell (p := ⟨w.heap.size, 0, none⟩) z0).trans c0
  have c1' := (hb.cell (p := ⟨w.heap.size, 1, none⟩) z0).trans c1
  have d0' := (hb.cell (p := ⟨w.heap.size + 1, 0, none⟩) z1).trans d0
  have d1' := (hb.cell (p := ⟨w.heap.size + 1, 1, none⟩) z1).trans d1
  have f0' := (hb.frozen (p := ⟨w.heap.size + 1, 0, none⟩) z1).trans f0
  have f1' := (hb.frozen (p := ⟨w.heap.size + 1, 1, none⟩) z1).trans f1
  have s0 : w.heap.size < w1.heap.size := Nat.lt_of_lt_of_le z0 hb.size
  have s1 : w.heap.size + 1 < w1.heap.size := Nat.lt_of_lt_of_le z1 hb.size
  have HK := Lib.hid hk
  clear hb hk c0 c1 d0 d1 f0 f1
  cases b
  · go_wp2_with fail
    refine bodyPost_ret (v := .tuple #[.agg #[.int .i64 0, .slice none 0 0], .bool false]) (by simp [results, Try.results67, go_sem, d0', d1']) rfl ?_
    exact ⟨0, [], false, .inl ⟨fun h => by simpa using HK.out.2 h, rfl, rfl, rfl⟩, none, 0, rfl, pmAt_none _ _, (B2.out.setCell (p := ⟨w.heap.size + 1, 0, none⟩) (by simp) _).setCell (p := ⟨w.heap.size + 1, 1, none⟩) (by simp) _⟩
  · have hP := Lib.hid (HK.out.1 (by simp))
    have hpos : 0 < vs.length := by have := hP.out.2.1; simp [inB] at this; omega
    have hep : 0 ≤ ep ∧ ep ≤ 99 := by have := hP.out.2.2; simp [inB] at this; omega
    obtain ⟨q, hF⟩ := find_ex key hpos
    have HFq := Lib.hid hF
    clear hF
    go_wp2_with (go_at_call 143; refine (rows_is _ _ _ _ _).mono ?_; rintro e w2 ⟨rfl, rfl⟩)
    have b2 : Below w1.heap.size w1 (w1.alloc (.cells #[.int .i64 ep, .slice a vs.length cap] 80)) := (Below.refl _ _).alloc (Nat.le_refl _) _
    refine (rowGet_any _ vs cap key _ ((HV.out.below B2.out).below b2) hlen).mono ?_
    rintro e w3 ⟨r, hr, rfl, hb3⟩
    obtain ⟨q', rfl, hF'⟩ := cut_find hP.out hr
    obtain rfl := HFq.out.unique hF'
    have h13 : Below w1.heap.size w1 w3 := b2.trans (hb3.mono (by simp))
    have B3 := Lib.hid (B2.out.trans (h13.mono B2.out.size))
    have c0 := (h13.cell (p := ⟨w.heap.size, 0, none⟩) s0).trans c0'
    have c1 := (h13.cell (p := ⟨w.heap.size, 1, none⟩) s0).trans c1'
    have d0 := (h13.cell (p := ⟨w.heap.size + 1, 0, none⟩) s1).trans d0'
    have d1 := (h13.cell (p := ⟨w.heap.size + 1, 1, none⟩) s1).trans d1'
    have f0 := (h13.frozen (p := ⟨w.heap.size + 1, 0, none⟩) s1).trans f0'
    have f1 := (h13.frozen (p := ⟨w.heap.size + 1, 1, none⟩) s1).trans f1'
    have u0 : w.heap.size < w3.heap.size := Nat.lt_of_lt_of_le s0 h13.size
    have u1 : w.heap.size + 1 < w3.heap.size := Nat.lt_of_lt_of_le s1 h13.size
    clear b2 hr hF' hb3 h13 c0' c1' d0' d1' f0' f1'
    obtain ⟨x0, x1, b9, hres, hb9⟩ : ∃ x0 x1 b9, rowRes (rfoundAt vs key (q + 1)) = .tuple #[.agg #[.string x0, .int .i64 x1], .bool b9] ∧ (b9 = true ↔ hasRow vs key) := by
      rcases rfound_has hP.out HFq.out with ⟨h, h'⟩ | ⟨v, h, h'⟩
      · exact ⟨_, _, false, by rw [h]; rfl, by simpa using h'⟩
      · exact ⟨_, _, true, by rw [h]; rfl, by simpa using h'⟩
    rw [hres]
    have HB9 := Lib.hid hb9
    clear hres hb9
    obtain ⟨W4, hW4⟩ : ∃ W4, w3.alloc (.cells #[.string x0, .int .i64 x1] 102) = W4 := ⟨_, rfl⟩
    have b4 : Below w3.heap.size w3 W4 := by rw [← hW4]; exact (Below.refl _ _).alloc (Nat.le_refl _) _
    have B4 := Lib.hid (B3.out.trans (b4.mono B3.out.size))
    have c0' := (b4.cell (p := ⟨w.heap.size, 0, none⟩) u0).trans c0
    have c1' := (b4.cell (p := ⟨w.heap.size, 1, none⟩) u0).trans c1
    have d0' := (b4.cell (p := ⟨w.heap.size + 1, 0, none⟩) u1).trans d0
    have d1' := (b4.cell (p := ⟨w.heap.size + 1, 1, none⟩) u1).trans d1
    have f0' := (b4.frozen (p := ⟨w.heap.size + 1, 0, none⟩) u1).trans f0
    have f1' := (b4.frozen (p := ⟨w.heap.size + 1, 1, none⟩) u1).trans f1
    have v0 : w.heap.size < W4.heap.size := Nat.lt_of_lt_of_le u0 b4.size
    have v1 : w.heap.size + 1 < W4.heap.size := Nat.lt_of_lt_of_le u1 b4.size
    clear b4 c0 c1 d0 d1 f0 f1 u0 u1 B3
    cases hK : keyOkB key
    · cases b9
      all_goals
        go_wp2_with (go_at_call 99; refine (keyOk_is hK hkey _).mono ?_; rintro e w5 ⟨rfl, rfl⟩)
        clear hW4
        refine (pmCopied_any ep a vs cap _ (HV.out.below B4.out) hpos hlen).mono ?_
        rintro e w6 ⟨g, cp, rfl, hown, hb6⟩
        have d0x := (hb6.cell (p := ⟨w.heap.size + 1, 0, none⟩) v1).trans d0'
        have d1x := (hb6.cell (p := ⟨w.heap.size + 1, 1, none⟩) v1).trans d1'
        have f0x := (hb6.frozen (p := ⟨w.heap.size + 1, 0, none⟩) v1).trans f0'
        have f1x := (hb6.frozen (p := ⟨w.heap.size + 1, 1, none⟩) v1).trans f1'
        have X := Lib.hid (And.intro hown hb6)
        clear hown hb6 d0' d1' f0' f1'
        go_wp2_with fail
        refine bodyPost_ret (v := .tuple #[.agg #[.int .i64 ep, .slice (some ⟨g, 0, none⟩) vs.length cp], .bool false]) (by simp [results, Try.results67, go_sem, d0x, d1x]) rfl ?_
        obtain ⟨hown, hb6⟩ := X.out
        have hgl2 := (hown.lt g rfl).1
        exact ⟨ep, vs, false, .inr (.inl ⟨hP.out, (fun h => by rw [h.1] at hK; cases hK), rfl, rfl, rfl⟩), _, cp, rfl, (pmAt_own (lo := w.heap.size) hown (by omega)).set2 (by omega), ((B4.out.trans (hb6.mono B4.out.size)).setCell (p := ⟨w.heap.size + 1, 0, none⟩) (by simp) _).setCell (p := ⟨w.heap.size + 1, 1, none⟩) (by simp) _⟩
    cases b9
    case true =>
      go_wp2_with (go_at_call 99; refine (keyOk_is hK hkey _).mono ?_; rintro e w5 ⟨rfl, rfl⟩)
      clear hW4
      refine (pmCopied_any ep a vs cap _ (HV.out.below B4.out) hpos hlen).mono ?_
      rintro e w6 ⟨g, cp, rfl, hown, hb6⟩
      have d0x := (hb6.cell (p := ⟨w.heap.size + 1, 0, none⟩) v1).trans d0'
      have d1x := (hb6.cell (p := ⟨w.heap.size + 1, 1, none⟩) v1).trans d1'
      have f0x := (hb6.frozen (p := ⟨w.heap.size + 1, 0, none⟩) v1).trans f0'
      have f1x := (hb6.frozen (p := ⟨w.heap.size + 1, 1, none⟩) v1).trans f1'
      have X := Lib.hid (And.intro hown hb6)
      clear hown hb6 d0' d1' f0' f1'
      go_wp2_with fail
      refine bodyPost_ret (v := .tuple #[.agg #[.int .i64 ep, .slice (some ⟨g, 0, none⟩) vs.length cp], .bool false]) (by simp [results, Try.results67, go_sem, d0x, d1x]) rfl ?_
      obtain ⟨hown, hb6⟩ := X.out
      have hgl2 := (hown.lt g rfl).1
      exact ⟨ep, vs, false, .inr (.inl ⟨hP.out, (fun h => h.2.2.2.2 (HB9.out.1 (by simp))), rfl, rfl, rfl⟩), _, cp, rfl, (pmAt_own (lo := w.heap.size) hown (by omega)).set2 (by omega), ((B4.out.trans (hb6.mono B4.out.size)).setCell (p := ⟨w.heap.size + 1, 0, none⟩) (by simp) _).setCell (p := ⟨w.heap.size + 1, 1, none⟩) (by simp) _⟩
    cases hI : inB node 0 2
    · go_wp2_with (first | (go_at_call 99; refine (keyOk_is hK hkey _).mono ?_; rintro e w5 ⟨rfl, rfl⟩) | (go_at_call 155; refine (nodeOk_is hI _).mono ?_; rintro e w5 ⟨rfl, rfl⟩))
      clear hW4
      refine (pmCopied_any ep a vs cap _ (HV.out.below B4.out) hpos hlen).mono ?_
      rintro e w6 ⟨g, cp, rfl, hown, hb6⟩
      have d0x := (hb6.cell (p := ⟨w.heap.size + 1, 0, none⟩) v1).trans d0'
      have d1x := (hb6.cell (p := ⟨w.heap.size + 1, 1, none⟩) v1).trans d1'
      have f0x := (hb6.frozen (p := ⟨w.heap.size + 1, 0, none⟩) v1).trans f0'
      have f1x := (hb6.frozen (p := ⟨w.heap.size + 1, 1, none⟩) v1).trans f1'
      have X := Lib.hid (And.intro hown hb6)
      clear hown hb6 d0' d1' f0' f1'
      go_wp2_with fail
      refine bodyPost_ret (v := .tuple #[.agg #[.int .i64 ep, .slice (some ⟨g, 0, none⟩) vs.length cp], .bool false]) (by simp [results, Try.results67, go_sem, d0x, d1x]) rfl ?_
      obtain ⟨hown, hb6⟩ := X.out
      have hgl2 := (hown.lt g rfl).1
      exact ⟨ep, vs, false, .inr (.inl ⟨hP.out, (fun h => by rw [h.2.1] at hI; cases hI), rfl, rfl, rfl⟩), _, cp, rfl, (pmAt_own (lo := w.heap.size) hown (by omega)).set2 (by omega), ((B4.out.trans (hb6.mono B4.out.size)).setCell (p := ⟨w.heap.size + 1, 0, none⟩) (by simp) _).setCell (p := ⟨w.heap.size + 1, 1, none⟩) (by simp) _⟩
    by_cases h5 : vs.length = 5
    · have e5 : ((vs.length : Int) == 5) = true := beq_iff_eq.2 (by omega)
      have H5 := Lib.hid h5
      clear h5
      go_wp2_with (first | (go_at_call 99; refine (keyOk_is hK hkey _).mono ?_; rintro e w5 ⟨rfl, rfl⟩) | (go_at_call 155; refine (nodeOk_is hI _).mono ?_; rintro e w5 ⟨rfl, rfl⟩))
      clear hW4
      refine (pmCopied_any ep a vs cap _ (HV.out.below B4.out) hpos hlen).mono ?_
      rintro e w6 ⟨g, cp, rfl, hown, hb6⟩
      have d0x := (hb6.cell (p := ⟨w.heap.size + 1, 0, none⟩) v1).trans d0'
      have d1x := (hb6.cell (p := ⟨w.heap.size + 1, 1, none⟩) v1).trans d1'
      have f0x := (hb6.frozen (p := ⟨w.heap.size + 1, 0, none⟩) v1).trans f0'
      have f1x := (hb6.frozen (p := ⟨w.heap.size + 1, 1, none⟩) v1).trans f1'
      have X := Lib.hid (And.intro hown hb6)
      clear hown hb6 d0' d1' f0' f1'
      go_wp2_with fail
      refine bodyPost_ret (v := .tuple #[.agg #[.int .i64 ep, .slice (some ⟨g, 0, none⟩) vs.length cp], .bool false]) (by simp [results, Try.results67, go_sem, d0x, d1x]) rfl ?_
      obtain ⟨hown, hb6⟩ := X.out
      have hgl2 := (hown.lt g rfl).1
      exact ⟨ep, vs, false, .inr (.inl ⟨hP.out, (fun h => by have := h.2.2.1; have := H5.out; omega), rfl, rfl, rfl⟩), _, cp, rfl, (pmAt_own (lo := w.heap.size) hown (by omega)).set2 (by omega), ((B4.out.trans (hb6.mono B4.out.size)).setCell (p := ⟨w.heap.size + 1, 0, none⟩) (by simp) _).setCell (p := ⟨w.heap.size + 1, 1, none⟩) (by simp) _⟩
    have e5 : ((vs.length : Int) == 5) = false := beq_eq_false_iff_ne.2 (by omega)
    by_cases h9 : ep = 99
    · have e9 : (ep == 99) = true := beq_iff_eq.2 h9
      have H9 := Lib.hid h9
      clear h9
      go_wp2_with (first | (go_at_call 99; refine (keyOk_is hK hkey _).mono ?_; rintro e w5 ⟨rfl, rfl⟩) | (go_at_call 155; refine (nodeOk_is hI _).mono ?_; rintro e w5 ⟨rfl, rfl⟩))
      clear hW4
      refine (pmCopied_any ep a vs cap _ (HV.out.below B4.out) hpos hlen).mono ?_
      rintro e w6 ⟨g, cp, rfl, hown, hb6⟩
      have d0x := (hb6.cell (p := ⟨w.heap.size + 1, 0, none⟩) v1).trans d0'
      have d1x := (hb6.cell (p := ⟨w.heap.size + 1, 1, none⟩) v1).trans d1'
      have f0x := (hb6.frozen (p := ⟨w.heap.size + 1, 0, none⟩) v1).trans f0'
      have f1x := (hb6.frozen (p := ⟨w.heap.size + 1, 1, none⟩) v1).trans f1'
      have X := Lib.hid (And.intro hown hb6)
      clear hown hb6 d0' d1' f0' f1'
      go_wp2_with fail
      refine bodyPost_ret (v := .tuple #[.agg #[.int .i64 ep, .slice (some ⟨g, 0, none⟩) vs.length cp], .bool false]) (by simp [results, Try.results67, go_sem, d0x, d1x]) rfl ?_
      obtain ⟨hown, hb6⟩ := X.out
      have hgl2 := (hown.lt g rfl).1
      exact ⟨ep, vs, false, .inr (.inl ⟨hP.out, (fun h => by have := h.2.2.2.1; have := H9.out; omega), rfl, rfl, rfl⟩), _, cp, rfl, (pmAt_own (lo := w.heap.size) hown (by omega)).set2 (by omega), ((B4.out.trans (hb6.mono B4.out.size)).setCell (p := ⟨w.heap.size + 1, 0, none⟩) (by simp) _).setCell (p := ⟨w.heap.size + 1, 1, none⟩) (by simp) _⟩
    have e9 : (ep == 99) = false := beq_eq_false_iff_ne.2 h9
    have hC : CanSplit ep vs key node := ⟨hK, hI, by have := hP.out.2.1; simp [inB] at this; omega, by omega, fun h => absurd (HB9.out.2 h) (by decide)⟩
    have HCm := Lib.hid hC
    have hep1 := hep.1
    have hep2 := hep.2
    clear hC hep
    go_wp2_with (first | (go_at_call 99; refine (keyOk_is hK hkey _).mono ?_; rintro e w5 ⟨rfl, rfl⟩) | (go_at_call 155; refine (nodeOk_is hI _).mono ?_; rintro e w5 ⟨rfl, rfl⟩))
    clear hW4
    go_region_with (first
      | (go_at_call 143; refine (rows_b ep a vs.length cap _).mono ?_; rintro e w5 ⟨rfl, hb5⟩; have c0y := (hb5.cell (p := ⟨w.heap.size, 0, none⟩) v0).trans c0'; have c1y := (hb5.cell (p := ⟨w.heap.size, 1, none⟩) v0).trans c1'; have d0y := (hb5.cell (p := ⟨w.heap.size + 1, 0, none⟩) v1).trans d0'; have d1y := (hb5.cell (p := ⟨w.heap.size + 1, 1, none⟩) v1).trans d1'; have f0y := (hb5.frozen (p := ⟨w.heap.size + 1, 0, none⟩) v1).trans f0'; have f1y := (hb5.frozen (p := ⟨w.heap.size + 1, 1, none⟩) v1).trans f1'; have v05 : w.heap.size < w5.heap.size := Nat.lt_of_lt_of_le v0 hb5.size; have v15 : w.heap.size + 1 < w5.heap.size := Nat.lt_of_lt_of_le v1 hb5.size; have X5 := Lib.hid hb5; clear hb5)
      | (go_at_call 156; refine (rowWith_any ep a vs cap key node q _ (HV.out.below ((B4.out.drew).trans (X5.out.mono B4.out.size))) hP.out HFq.out HCm.out.2.2.2.2 hlen hcap hcm).mono ?_; rintro e w6 ⟨g, cp, rfl, hown, hb6⟩; have c0z := (hb6.cell (p := ⟨w.heap.size, 0, none⟩) v05).trans c0y; have c1z := (hb6.cell (p := ⟨w.heap.size, 1, none⟩) v05).trans c1y; have d0z := (hb6.cell (p := ⟨w.heap.size + 1, 0, none⟩) v15).trans d0y; have d1z := (hb6.cell (p := ⟨w.heap.size + 1, 1, none⟩) v15).trans d1y; have f0z := (hb6.frozen (p := ⟨w.heap.size + 1, 0, none⟩) v15).trans f0y; have f1z := (hb6.frozen (p := ⟨w.heap.size + 1, 1, none⟩) v15).trans f1y; have v06 : w.heap.size < w6.heap.size := Nat.lt_of_lt_of_le v05 hb6.size; have v16 : w.heap.size + 1 < w6.heap.size := Nat.lt_of_lt_of_le v15 hb6.size; have X6 := Lib.hid (And.intro hown hb6); clear hown hb6)
      | (go_at_call 148; refine (pmChanged_any ep _ _ _ _ _ _ _ hep1 hep2).mono ?_; rintro e w7 ⟨rfl, hb7⟩; have c0u := (hb7.cell (p := ⟨w.heap.size, 0, none⟩) v06).trans c0z; have c1u := (hb7.cell (p := ⟨w.heap.size, 1, none⟩) v06).trans c1z; have d0u := (hb7.cell (p := ⟨w.heap.size + 1, 0, none⟩) v16).trans d0z; have d1u := (hb7.cell (p := ⟨w.heap.size + 1, 1, none⟩) v16).trans d1z; have f0u := (hb7.frozen (p := ⟨w.heap.size + 1, 0, none⟩) v16).trans f0z; have f1u := (hb7.frozen (p := ⟨w.heap.size + 1, 1, none⟩) v16).trans f1z; have v07 : w.heap.size < w7.heap.size := Nat.lt_of_lt_of_le v06 hb7.size; have v17 : w.heap.size + 1 < w7.heap.size := Nat.lt_of_lt_of_le v16 hb7.size; have X7 := Lib.hid hb7; clear hb7))
    all_goals
      go_wp2_with fail
      refine bodyPost_ret (v := .tuple #[.agg #[.int .i64 (ep + 1), .slice (some ⟨g, 0, none⟩) (splitAt vs key node q).length cp], .bool true]) (by simp [results, Try.results67, go_sem, d0u, d1u]) rfl ?_
      obtain ⟨hown, hb6⟩ := X6.out
      have hb7 := X7.out
      have hgl2 : w5.heap.size ≤ g := (hown.lt g rfl).1
      have off : ∀ b off, some (⟨g, 0, none⟩ : Addr) = some ⟨b, off, none⟩ → w.heap.size + 1 ≠ b := fun b off e => by cases e; omega
      have hat := (pmAt_own (lo := w.heap.size) hown (by omega)).below hb7
      have hbt : Below w.heap.size w w7 := ((B4.out.drew.trans (X5.out.mono B4.out.size)).trans (hb6.mono (by omega))).trans (hb7.mono (by omega))
      refine ⟨ep + 1, splitAt vs key node q, true, .inr (.inr ⟨hP.out, HCm.out, rfl, ⟨q, HFq.out, rfl⟩, rfl⟩), _, cp, rfl, ?_, (hbt.setCell (p := ⟨w.heap.size + 1, 0, none⟩) (by simp) _).setCell (p := ⟨w.heap.size + 1, 1, none⟩) (by simp) _⟩
      exact ⟨((hat.setT off).setT off).in1, ((hat.setT off).setT off).fr1, hat.l1.mono (by omega) (by have := hb7.size; simp; omega), Nat.le_refl _⟩
end Go.Proofs.Ytodpodgdhiadnaa
