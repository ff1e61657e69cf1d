/- Whether a list of what a transaction asks, or writes, is ok, as the program asks it. -/
import Derived.Test.YthjikcfpoomioaaSeen
import Derived.Carry
namespace Go.Proofs.Ythjikcfpoomioaa
open Go.RowKit Go.Maps Go.WideMaps

set_option maxRecDepth 100000 in
set_option maxHeartbeats 1000000 in
theorem listOkWant_any (a : Option Addr) (vs : List WantD) (cap : Nat) (w : World) (hv : WantsIn w a vs) (hf : ∀ v ∈ vs, v.fits) (hn : vs.length ≤ maxLen) :
    Calls Try.prog 167 #[.slice a vs.length cap] w (BoolPost (vs.length ≤ 4 ∧ LOk wantOkB WantD.f0 vs vs.length) w) := by
  unfold maxLen at hn
  have HV := Lib.hid hv
  have HF := Lib.hid hf
  clear hv hf
  have hmm := @run_makeMap Try.prog
  by_cases h4 : 4 < vs.length
  · go_enter Try.func167, Try.ntmps167
    go_wp2_with fail
    go_ret
    exact ⟨false, rfl, by simp; omega, Below.refl _ _⟩
  go_enter Try.func167, Try.ntmps167
  go_wp2_with fail
  go_loopw [12] (fun i wr => ∃ k : Nat, k ≤ vs.length ∧ i = .int .i64 (k : Int) ∧ wr.ownsMap Try.prog 9 (plainElem Try.prog 4) w.heap.size k (seenD WantD.f0 vs k) ∧ Below w.heap.size w wr ∧ LOk wantOkB WantD.f0 vs k) (fun i _ => vs.length - (intOf i).toNat)
  case atStart => exact ⟨0, Nat.zero_le _, rfl, World.ownsMap_made _ _ _ _, (Below.refl _ _).alloc (Nat.le_refl _) _, LOk.zero _⟩
  case round =>
    obtain ⟨k, hk, rfl, hO, hB, hL⟩ := hrel
    have hBlt := hO.lt
    have HO := Lib.hid hO
    have HB := Lib.hid hB
    have HL := Lib.hid hL
    clear hO hB hL
    by_cases hlt : k < vs.length
    · rcases HV.out.below HB.out with hnil | ⟨b1, o1, rfl, hb1, hc1⟩
      · rw [hnil] at hlt; simp at hlt
      obtain ⟨c0, c1⟩ := hc1 k hlt
      have hks : vs[k].f0.size ≤ maxLen := HF.out _ (List.getElem_mem hlt)
      clear hc1
      have mv := meth_want_valid vs[k]
      have mk := meth_want_key vs[k]
      obtain ⟨W1, hW1⟩ : ∃ W1, wr.alloc (.cells #[.string vs[k].f0, .int .i64 vs[k].f1] 221) = W1 := ⟨_, rfl⟩
      have B1 : Below wr.heap.size wr W1 := by rw [← hW1]; exact (Below.refl _ _).alloc (Nat.le_refl _) _
      have z1 : wr.heap.size < W1.heap.size := by rw [← hW1]; simp
      have d0 : W1.cell? ⟨wr.heap.size, 0, none⟩ = some (.string vs[k].f0) := by rw [← hW1]; simp [go_sem]
      have d1 : W1.cell? ⟨wr.heap.size, 1, none⟩ = some (.int .i64 vs[k].f1) := by rw [← hW1]; simp [go_sem]
      go_wp2_with fail
      clear hW1
      refine (wantValid_any vs[k] _ hks).mono ?_
      rintro e w2 ⟨rfl, hb2⟩
      have e0 := (hb2.cell (p := ⟨wr.heap.size, 0, none⟩) z1).trans d0
      have e1 := (hb2.cell (p := ⟨wr.heap.size, 1, none⟩) z1).trans d1
      have z2 : wr.heap.size < w2.heap.size := Nat.lt_of_lt_of_le z1 hb2.size
      have B2 := Lib.hid (B1.trans (hb2.mono (by omega)))
      clear hb2 d0 d1
      cases hV : wantOkB vs[k]
      · go_wp2_with fail
        go_ret
        exact ⟨false, rfl, by simpa using fun _ => LOk.not_valid hlt hV, HB.out.trans (B2.out.mono HB.out.size)⟩
      · go_wp2_with fail
        refine (wantKey_any vs[k] _).mono ?_
        rintro e w3 ⟨rfl, hb3⟩
        have g0 := (hb3.cell (p := ⟨wr.heap.size, 0, none⟩) z2).trans e0
        have g1 := (hb3.cell (p := ⟨wr.heap.size, 1, none⟩) z2).trans e1
        have z3 : wr.heap.size < w3.heap.size := Nat.lt_of_lt_of_le z2 hb3.size
        have B3 := Lib.hid (B2.out.trans (hb3.mono (by omega)))
        have HO3 := Lib.hid (ownsMap_below HO.out B3.out hBlt)
        have hlk := seen_look HO3.out hks
        clear hb3 e0 e1
        cases hS : seenB WantD.f0 vs k vs[k].f0
        · rw [hS] at hlk
          go_wp2_with fail
          refine (wantKey_any vs[k] _).mono ?_
          rintro e w4 ⟨rfl, hb4⟩
          have B4 := Lib.hid (B3.out.trans (hb4.mono (by omega)))
          have HO4 := Lib.hid (ownsMap_below HO.out B4.out hBlt)
          clear hb4 hlk
          go_wp2_with (at_mapUpdate; refine wpList_mapUpdate_own _ rfl _ _ _ 237 rfl 9 4 lawStr Try.underlying237 _ w.heap.size k _ rfl HO4.out (by unfold maxLen; omega) _ _ _ rfl rfl (keyOf_string_mk Try.underlying9 hks) _ [] (plainElem_bool Try.underlying4 true) ?_; intro w5 hown5 hgrow5; have X := Lib.hid (And.intro hown5 hgrow5); clear hown5 hgrow5)
          go_roundw
          case rel => exact ⟨k + 1, by omega, by go_num, by rw [seenD_succ hlt]; exact X.out.1, (HB.out.trans (B4.out.mono HB.out.size)).grown X.out.2 (Nat.le_trans HB.out.size B4.out.size) (fun j hj => by cases hj; exact Nat.le_refl _), HL.out.succ hlt hV hS⟩
          case measure => simp [intOf]; omega
        · rw [hS] at hlk
          go_wp2_with fail
          go_ret
          exact ⟨false, rfl, by simpa using fun _ => LOk.not_seen hlt hS, HB.out.trans (B3.out.mono HB.out.size)⟩
    · obtain rfl : k = vs.length := by omega
      go_wp2_with fail
      go_ret
      exact ⟨true, rfl, by simpa using ⟨by omega, HL.out⟩, HB.out⟩

set_option maxRecDepth 100000 in
set_option maxHeartbeats 1000000 in
theorem listOkWrite_any (a : Option Addr) (vs : List WriteD) (cap : Nat) (w : World) (hv : WritesIn w a vs) (hf : ∀ v ∈ vs, v.fits) (hn : vs.length ≤ maxLen) :
    Calls Try.prog 168 #[.slice a vs.length cap] w (BoolPost (vs.length ≤ 4 ∧ LOk writeOkB WriteD.f0 vs vs.length) w) := by
  unfold maxLen at hn
  have HV := Lib.hid hv
  have HF := Lib.hid hf
  clear hv hf
  have hmm := @run_makeMap Try.prog
  by_cases h4 : 4 < vs.length
  · go_enter Try.func168, Try.ntmps168
    go_wp2_with fail
    go_ret
    exact ⟨false, rfl, by simp; omega, Below.refl _ _⟩
  go_enter Try.func168, Try.ntmps168
  go_wp2_with fail
  go_loopw [12] (fun i wr => ∃ k : Nat, k ≤ vs.length ∧ i = .int .i64 (k : Int) ∧ wr.ownsMap Try.prog 9 (plainElem Try.prog 4) w.heap.size k (seenD WriteD.f0 vs k) ∧ Below w.heap.size w wr ∧ LOk writeOkB WriteD.f0 vs k) (fun i _ => vs.length - (intOf i).toNat)
  case atStart => exact ⟨0, Nat.zero_le _, rfl, World.ownsMap_made _ _ _ _, (Below.refl _ _).alloc (Nat.le_refl _) _, LOk.zero _⟩
  case round =>
    obtain ⟨k, hk, rfl, hO, hB, hL⟩ := hrel
    have hBlt := hO.lt
    have HO := Lib.hid hO
    have HB := Lib.hid hB
    have HL := Lib.hid hL
    clear hO hB hL
    by_cases hlt : k < vs.length
    · rcases HV.out.below HB.out with hnil | ⟨b1, o1, rfl, hb1, hc1⟩
      · rw [hnil] at hlt; simp at hlt
      obtain ⟨c0, c1, c2⟩ := hc1 k hlt
      obtain ⟨hks, hts⟩ := HF.out _ (List.getElem_mem hlt)
      clear hc1
      have mv := meth_write_valid vs[k]
      have mk := meth_write_key vs[k]
      obtain ⟨W1, hW1⟩ : ∃ W1, wr.alloc (.cells #[.string vs[k].f0, .string vs[k].f1, .bool vs[k].f2] 220) = W1 := ⟨_, rfl⟩
      have B1 : Below wr.heap.size wr W1 := by rw [← hW1]; exact (Below.refl _ _).alloc (Nat.le_refl _) _
      have z1 : wr.heap.size < W1.heap.size := by rw [← hW1]; simp
      have d0 : W1.cell? ⟨wr.heap.size, 0, none⟩ = some (.string vs[k].f0) := by rw [← hW1]; simp [go_sem]
      have d1 : W1.cell? ⟨wr.heap.size, 1, none⟩ = some (.string vs[k].f1) := by rw [← hW1]; simp [go_sem]
      have d2 : W1.cell? ⟨wr.heap.size, 2, none⟩ = some (.bool vs[k].f2) := by rw [← hW1]; simp [go_sem]
      go_wp2_with fail
      clear hW1
      refine (writeValid_any vs[k] _ hks hts).mono ?_
      rintro e w2 ⟨rfl, hb2⟩
      have e0 := (hb2.cell (p := ⟨wr.heap.size, 0, none⟩) z1).trans d0
      have e1 := (hb2.cell (p := ⟨wr.heap.size, 1, none⟩) z1).trans d1
      have e2 := (hb2.cell (p := ⟨wr.heap.size, 2, none⟩) z1).trans d2
      have z2 : wr.heap.size < w2.heap.size := Nat.lt_of_lt_of_le z1 hb2.size
      have B2 := Lib.hid (B1.trans (hb2.mono (by omega)))
      clear hb2 d0 d1 d2
      cases hV : writeOkB vs[k]
      · go_wp2_with fail
        go_ret
        exact ⟨false, rfl, by simpa using fun _ => LOk.not_valid hlt hV, HB.out.trans (B2.out.mono HB.out.size)⟩
      · go_wp2_with fail
        refine (writeKey_any vs[k] _).mono ?_
        rintro e w3 ⟨rfl, hb3⟩
        have g0 := (hb3.cell (p := ⟨wr.heap.size, 0, none⟩) z2).trans e0
        have g1 := (hb3.cell (p := ⟨wr.heap.size, 1, none⟩) z2).trans e1
        have g2 := (hb3.cell (p := ⟨wr.heap.size, 2, none⟩) z2).trans e2
        have z3 : wr.heap.size < w3.heap.size := Nat.lt_of_lt_of_le z2 hb3.size
        have B3 := Lib.hid (B2.out.trans (hb3.mono (by omega)))
        have HO3 := Lib.hid (ownsMap_below HO.out B3.out hBlt)
        have hlk := seen_look HO3.out hks
        clear hb3 e0 e1 e2
        cases hS : seenB WriteD.f0 vs k vs[k].f0
        · rw [hS] at hlk
          go_wp2_with fail
          refine (writeKey_any vs[k] _).mono ?_
          rintro e w4 ⟨rfl, hb4⟩
          have B4 := Lib.hid (B3.out.trans (hb4.mono (by omega)))
          have HO4 := Lib.hid (ownsMap_below HO.out B4.out hBlt)
          clear hb4 hlk
          go_wp2_with (at_mapUpdate; refine wpList_mapUpdate_own _ rfl _ _ _ 237 rfl 9 4 lawStr Try.underlying237 _ w.heap.size k _ rfl HO4.out (by unfold maxLen; omega) _ _ _ rfl rfl (keyOf_string_mk Try.underlying9 hks) _ [] (plainElem_bool Try.underlying4 true) ?_; intro w5 hown5 hgrow5; have X := Lib.hid (And.intro hown5 hgrow5); clear hown5 hgrow5)
          go_roundw
          case rel => exact ⟨k + 1, by omega, by go_num, by rw [seenD_succ hlt]; exact X.out.1, (HB.out.trans (B4.out.mono HB.out.size)).grown X.out.2 (Nat.le_trans HB.out.size B4.out.size) (fun j hj => by cases hj; exact Nat.le_refl _), HL.out.succ hlt hV hS⟩
          case measure => simp [intOf]; omega
        · rw [hS] at hlk
          go_wp2_with fail
          go_ret
          exact ⟨false, rfl, by simpa using fun _ => LOk.not_seen hlt hS, HB.out.trans (B3.out.mono HB.out.size)⟩
    · obtain rfl : k = vs.length := by omega
      go_wp2_with fail
      go_ret
      exact ⟨true, rfl, by simpa using ⟨by omega, HL.out⟩, HB.out⟩
end Go.Proofs.Ythjikcfpoomioaa
