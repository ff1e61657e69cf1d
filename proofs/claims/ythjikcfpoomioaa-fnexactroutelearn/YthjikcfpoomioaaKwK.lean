/- What is known of a range: the program's walk. -/
import Derived.Test.YthjikcfpoomioaaRlM
import Derived.Test.YthjikcfpoomioaaRaS
namespace Go.Proofs.Ythjikcfpoomioaa
open Go.RowKit

theorem within_succ {lo hi : ByteArray} {vs : List KnownD} {k : Nat} (hk : k < vs.length) : within lo hi vs (k + 1) = within lo hi vs k ++ (cutK lo hi vs[k]).toList := by
  unfold within; rw [List.take_succ_eq_append_getElem hk, List.flatMap_append]; simp
theorem within_no {lo hi : ByteArray} {vs : List KnownD} {k : Nat} (hk : k < vs.length) (h : meetB vs[k].f0 vs[k].f1 lo hi = false) : within lo hi vs (k + 1) = within lo hi vs k := by
  rw [within_succ hk]; unfold cutK; rw [h]; simp
theorem within_yes {lo hi : ByteArray} {vs : List KnownD} {k : Nat} (hk : k < vs.length) (h : meetB vs[k].f0 vs[k].f1 lo hi = true) : within lo hi vs (k + 1) = within lo hi vs k ++ [⟨mLo vs[k].f0 vs[k].f1 lo hi, mHi vs[k].f0 vs[k].f1 lo hi, vs[k].f2, vs[k].f3⟩] := by
  rw [within_succ hk]; unfold cutK; rw [h]; simp
theorem within_le (lo hi : ByteArray) (vs : List KnownD) : ∀ k, (within lo hi vs k).length ≤ k
  | 0 => by simp [within]
  | k + 1 => by
    have ih := within_le lo hi vs k
    by_cases hk : k < vs.length
    · cases h : meetB vs[k].f0 vs[k].f1 lo hi
      · rw [within_no hk h]; omega
      · rw [within_yes hk h, List.length_append]; simp; omega
    · have : within lo hi vs (k + 1) = within lo hi vs k := by unfold within; rw [List.take_of_length_le (by omega), List.take_of_length_le (by omega)]
      rw [this]; omega

set_option maxRecDepth 100000 in
set_option maxHeartbeats 4000000 in
theorem knownWithin_any (lo hi : ByteArray) (a : Option Addr) (vs : List KnownD) (cap : Nat) (w : World) (hv : KnownsIn w a vs) (hf : ∀ v ∈ vs, v.fits) (hlo : lo.size ≤ maxLen) (hhi : hi.size ≤ maxLen) (hn : vs.length ≤ 1048576) :
    Calls Try.prog 109 #[.slice a vs.length cap, .agg #[.string lo, .string hi]] w fun e w' => ∃ v, e = .returned v ∧ w'.ownsRow (w.heap.size + 1) 48 4 v (within lo hi vs vs.length).length ((within lo hi vs vs.length).flatMap knownCells) ∧ Below w.heap.size w w' := by
  have HV := Lib.hid hv
  have HF := Lib.hid hf
  clear hv hf
  obtain ⟨i0, hi0, hz0, hz1, hz2⟩ := info_parts infoKnown
  obtain ⟨W0, hW0⟩ : ∃ W0, w.alloc (.cells #[.string lo, .string hi] 46) = W0 := ⟨_, rfl⟩
  have B0 : Below w.heap.size w W0 := by rw [← hW0]; exact (Below.refl _ _).alloc (Nat.le_refl _) _
  have s0 : W0.heap.size = w.heap.size + 1 := by rw [← hW0]; simp
  have x0 : W0.cell? ⟨w.heap.size, 0, none⟩ = some (.string lo) := by rw [← hW0]; simp [go_sem]
  have x1 : W0.cell? ⟨w.heap.size, 1, none⟩ = some (.string hi) := by rw [← hW0]; simp [go_sem]
  go_enter Try.func109, Try.ntmps109
  go_wp2_with fail
  clear hW0
  go_loopw [5, 12] (fun v' i wr => ∃ (v : Value) (k : Nat), v = v' ∧ k ≤ vs.length ∧ i = .int .i64 (k : Int) ∧ Below (w.heap.size + 1) W0 wr ∧ wr.ownsRow (w.heap.size + 1) 48 4 v (within lo hi vs k).length ((within lo hi vs k).flatMap knownCells)) (fun _ i _ => vs.length - (intOf i).toNat)
  case atStart => exact ⟨_, 0, rfl, Nat.zero_le _, rfl, Below.refl _ _, World.ownsRow_nil _ _ _ _⟩
  case round =>
    obtain ⟨v, k, rfl, hk, rfl, hB, hO⟩ := hrel
    have x0 := (hB.cell (p := ⟨w.heap.size, 0, none⟩) (by simp)).trans x0
    have x1 := (hB.cell (p := ⟨w.heap.size, 1, none⟩) (by simp)).trans x1
    have hsz : w.heap.size < wr.heap.size := by have := hB.size; omega
    have hsz1 : w.heap.size + 1 ≤ wr.heap.size := hsz
    have HX := Lib.hid (B0.trans (hB.mono (by omega)))
    have HB := Lib.hid hB
    have HO := Lib.hid hO
    clear hB hO
    by_cases hlt : k < vs.length
    case neg =>
      obtain rfl : k = vs.length := by omega
      go_wp2_with fail
      go_ret
      exact ⟨_, rfl, HO.out, HX.out⟩
    have hle := within_le lo hi vs k
    rcases HV.out.below HX.out with hnil | ⟨b1, o1, rfl, hb1, hc1⟩
    · rw [hnil] at hlt; simp at hlt
    obtain ⟨c0, c1, c2, c3⟩ := hc1 k hlt
    clear hc1
    obtain ⟨hs0, hs1⟩ := HF.out _ (List.getElem_mem hlt)
    obtain ⟨W1, hW1⟩ : ∃ W1, wr.alloc (.cells #[.string vs[k].f0, .string vs[k].f1, .int .i64 vs[k].f2, .int .i64 vs[k].f3] 48) = W1 := ⟨_, rfl⟩
    have B1 : Below wr.heap.size wr W1 := by rw [← hW1]; exact (Below.refl _ _).alloc (Nat.le_refl _) _
    have s1 : wr.heap.size < W1.heap.size := by rw [← hW1]; simp
    have d0 : W1.cell? ⟨wr.heap.size, 0, none⟩ = some (.string vs[k].f0) := by rw [← hW1]; simp [go_sem]
    have d1 : W1.cell? ⟨wr.heap.size, 1, none⟩ = some (.string vs[k].f1) := by rw [← hW1]; simp [go_sem]
    have d2 : W1.cell? ⟨wr.heap.size, 2, none⟩ = some (.int .i64 vs[k].f2) := by rw [← hW1]; simp [go_sem]
    have d3 : W1.cell? ⟨wr.heap.size, 3, none⟩ = some (.int .i64 vs[k].f3) := by rw [← hW1]; simp [go_sem]
    have y0 := (B1.cell (p := ⟨w.heap.size, 0, none⟩) hsz).trans x0
    have y1 := (B1.cell (p := ⟨w.heap.size, 1, none⟩) hsz).trans x1
    have HB1 := Lib.hid (HB.out.trans (B1.mono hsz1))
    have HO1 := Lib.hid (Go.Proofs.Ythjikcfpoomioaa.ownsRow_of_below HO.out B1)
    have q1 : w.heap.size + 1 ≤ W1.heap.size := by omega
    clear B1
    go_wp2_with fail
    clear hW1 x0 x1 c0 c1 c2 c3
    refine (spanMeet_any vs[k].f0 vs[k].f1 lo hi _ hs0 hs1 hlo hhi).mono ?_
    rintro e w5 ⟨rfl, hb5⟩
    replace d2 := (hb5.cell (p := ⟨wr.heap.size, 2, none⟩) s1).trans d2
    replace d3 := (hb5.cell (p := ⟨wr.heap.size, 3, none⟩) s1).trans d3
    have s5 : wr.heap.size < w5.heap.size := Nat.lt_of_lt_of_le s1 hb5.size
    have HB5 := Lib.hid (HB1.out.trans (hb5.mono q1))
    have HO5 := Lib.hid (Go.Proofs.Ythjikcfpoomioaa.ownsRow_of_below HO1.out hb5)
    have q5 : w.heap.size + 1 ≤ w5.heap.size := by omega
    clear hb5 d0 d1 y0 y1
    obtain ⟨W6, hW6⟩ : ∃ W6, w5.alloc (.cells #[.string (mLo vs[k].f0 vs[k].f1 lo hi), .string (mHi vs[k].f0 vs[k].f1 lo hi)] 46) = W6 := ⟨_, rfl⟩
    have b6 : Below w5.heap.size w5 W6 := by rw [← hW6]; exact (Below.refl _ _).alloc (Nat.le_refl _) _
    have s6 : w5.heap.size < W6.heap.size := by rw [← hW6]; simp
    have e0 : W6.cell? ⟨w5.heap.size, 0, none⟩ = some (.string (mLo vs[k].f0 vs[k].f1 lo hi)) := by rw [← hW6]; simp [go_sem]
    have e1 : W6.cell? ⟨w5.heap.size, 1, none⟩ = some (.string (mHi vs[k].f0 vs[k].f1 lo hi)) := by rw [← hW6]; simp [go_sem]
    replace d2 := (b6.cell (p := ⟨wr.heap.size, 2, none⟩) s5).trans d2
    replace d3 := (b6.cell (p := ⟨wr.heap.size, 3, none⟩) s5).trans d3
    have HB6 := Lib.hid (HB5.out.trans (b6.mono q5))
    have HO6 := Lib.hid (Go.Proofs.Ythjikcfpoomioaa.ownsRow_of_below HO5.out b6)
    have q6 : w.heap.size + 1 ≤ W6.heap.size := by omega
    clear b6
    cases hMt : meetB vs[k].f0 vs[k].f1 lo hi
    · go_wp2_with fail
      clear hW6
      go_roundw
      case rel => exact ⟨_, k + 1, rfl, by omega, by go_num, HB6.out, by rw [within_no hlt hMt]; exact HO6.out⟩
      case measure => simp [intOf]; omega
    · go_wp2_with (at_builtin; refine wpList_append_lies _ rfl _ _ 41 rfl (w.heap.size + 1) 48 i0 (.agg #[.string ⟨#[]⟩, .string ⟨#[]⟩, .int .i64 0, .int .i64 0]) 4 48 Try.underlying41 hi0 hz0 hz1 hz2 rfl (by decide) _ (within lo hi vs k).length _ rfl (HO6.out.alloc _) ⟨W6.heap.size, 0, none⟩ 1 1 (knownCells ⟨mLo vs[k].f0 vs[k].f1 lo hi, mHi vs[k].f0 vs[k].f1 lo hi, vs[k].f2, vs[k].f3⟩) rfl rfl (newsKnown _ ⟨mLo vs[k].f0 vs[k].f1 lo hi, mHi vs[k].f0 vs[k].f1 lo hi, vs[k].f2, vs[k].f3⟩ _ _ rfl) (known_one _) (by omega) (by unfold maxLen; omega) (by omega) (by simp; omega) _ rfl ?_; intro gg cp w7 hown hgrow hat hlt2; have X := Lib.hid (And.intro hown hgrow); clear hown hgrow hat hlt2)
      try clear hW6
      go_roundw
      case rel => exact ⟨_, k + 1, rfl, by omega, by go_num, Below.grown (HB6.out.alloc q6 _) X.out.2 (by simp; omega) (fun j hj => (HO6.out.lt j hj).1), by rw [within_yes hlt hMt, List.length_append, List.flatMap_append]; simpa using X.out.1⟩
      case measure => simp [intOf]; omega
end Go.Proofs.Ythjikcfpoomioaa
