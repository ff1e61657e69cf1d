/- What is left of a span without another one: the model's walk. -/
import Derived.Test.YthjikcfpoomioaaPutK
namespace Go.Proofs.Ythjikcfpoomioaa
open Go.RowKit

theorem own_litK (w : World) (v : KnownD) {B : Nat} (hb : B ≤ w.heap.size) : (w.alloc (.cells #[.string v.f0, .string v.f1, .int .i64 v.f2, .int .i64 v.f3] 48)).ownsRow B 48 4 (.slice (some ⟨w.heap.size, 0, none⟩) 1 1) 1 (knownCells v) :=
  World.ownsRow_lit w #[.string v.f0, .string v.f1, .int .i64 v.f2, .int .i64 v.f3] 1 hb (by unfold maxLen; omega) rfl

set_option maxRecDepth 100000 in
set_option maxHeartbeats 4000000 in
theorem l12Rest_any (k v : KnownD) (w : World) (hkf : k.fits) (hvf : v.fits) :
    Calls Try.prog 103 #[.agg #[.string v.f0, .string v.f1, .int .i64 v.f2, .int .i64 v.f3], .agg #[.string k.f0, .string k.f1]] w fun e w' => ∃ gx cx, e = .returned (.slice (some ⟨gx, 0, none⟩) (restK k v).length cx) ∧ w'.ownsRow w.heap.size 48 4 (.slice (some ⟨gx, 0, none⟩) (restK k v).length cx) (restK k v).length ((restK k v).flatMap knownCells) ∧ Below w.heap.size w w' := by
  obtain ⟨hk0, hk1⟩ := hkf
  obtain ⟨hv0, hv1⟩ := hvf
  obtain ⟨i0, hi0, hz0, hz1, hz2⟩ := info_parts infoKnown
  obtain ⟨W0, hW0⟩ : ∃ W0, (w.alloc (.cells #[.string v.f0, .string v.f1, .int .i64 v.f2, .int .i64 v.f3] 48)).alloc (.cells #[.string k.f0, .string k.f1] 46) = W0 := ⟨_, rfl⟩
  have B0 : Below w.heap.size w W0 := by rw [← hW0]; exact ((Below.refl _ _).alloc (Nat.le_refl _) _).alloc (by simp) _
  have s0 : W0.heap.size = w.heap.size + 1 + 1 := by rw [← hW0]; simp
  have x0 : W0.cell? ⟨w.heap.size, 0, none⟩ = some (.string v.f0) := by rw [← hW0]; simp [go_sem]
  have x1 : W0.cell? ⟨w.heap.size, 1, none⟩ = some (.string v.f1) := by rw [← hW0]; simp [go_sem]
  have x2 : W0.cell? ⟨w.heap.size, 2, none⟩ = some (.int .i64 v.f2) := by rw [← hW0]; simp [go_sem]
  have x3 : W0.cell? ⟨w.heap.size, 3, none⟩ = some (.int .i64 v.f3) := by rw [← hW0]; simp [go_sem]
  have y0 : W0.cell? ⟨w.heap.size + 1, 0, none⟩ = some (.string k.f0) := by rw [← hW0]; simp [go_sem]
  have y1 : W0.cell? ⟨w.heap.size + 1, 1, none⟩ = some (.string k.f1) := by rw [← hW0]; simp [go_sem]
  have sx : w.heap.size < W0.heap.size := by omega
  have sy : w.heap.size + 1 < W0.heap.size := by omega
  have HB0 := Lib.hid B0
  clear B0
  go_enter Try.func103, Try.ntmps103
  go_wp2_with fail
  clear hW0
  refine (specSpanMeet_any v.f0 v.f1 k.f0 k.f1 _ hv0 hv1 hk0 hk1).mono ?_
  rintro e w5 ⟨rfl, hb5⟩
  obtain ⟨W6, hW6⟩ : ∃ W6, w5.alloc (.cells #[.string (mLo v.f0 v.f1 k.f0 k.f1), .string (mHi v.f0 v.f1 k.f0 k.f1)] 46) = W6 := ⟨_, rfl⟩
  have b6 : Below w5.heap.size w5 W6 := by rw [← hW6]; exact (Below.refl _ _).alloc (Nat.le_refl _) _
  have b06 : Below W0.heap.size W0 W6 := hb5.trans (b6.mono hb5.size)
  replace x0 := (b06.cell (p := ⟨w.heap.size, 0, none⟩) sx).trans x0
  replace x1 := (b06.cell (p := ⟨w.heap.size, 1, none⟩) sx).trans x1
  replace x2 := (b06.cell (p := ⟨w.heap.size, 2, none⟩) sx).trans x2
  replace x3 := (b06.cell (p := ⟨w.heap.size, 3, none⟩) sx).trans x3
  replace y0 := (b06.cell (p := ⟨w.heap.size + 1, 0, none⟩) sy).trans y0
  replace y1 := (b06.cell (p := ⟨w.heap.size + 1, 1, none⟩) sy).trans y1
  replace sx : w.heap.size < W6.heap.size := Nat.lt_of_lt_of_le sx b06.size
  replace sy : w.heap.size + 1 < W6.heap.size := Nat.lt_of_lt_of_le sy b06.size
  have HB6 := Lib.hid (HB0.out.trans (b06.mono HB0.out.size))
  clear b06 b6 hb5
  cases hMt : meetB v.f0 v.f1 k.f0 k.f1
  · have hR : restK k v = [v] := by unfold restK; rw [if_neg (by rw [hMt]; decide)]
    have HR := Lib.hid hR
    clear hR
    go_wp2_with fail
    clear hW6
    go_ret
    rw [HR.out]
    exact ⟨_, _, rfl, by simpa using own_litK W6 v HB6.out.size, HB6.out.alloc HB6.out.size _⟩
  obtain ⟨A, hA⟩ : ∃ A, (if v.f0.toList < k.f0.toList then [(⟨v.f0, k.f0, v.f2, v.f3⟩ : KnownD)] else []) = A := ⟨_, rfl⟩
  obtain ⟨C, hC⟩ : ∃ C, (if k.f1.toList ≠ [] ∧ (v.f1.toList = [] ∨ k.f1.toList < v.f1.toList) then [(⟨k.f1, v.f1, v.f2, v.f3⟩ : KnownD)] else []) = C := ⟨_, rfl⟩
  have HR := Lib.hid (show restK k v = A ++ C by unfold restK; rw [if_pos hMt, hA, hC])
  have lA : A.length ≤ 1 := by rw [← hA]; split <;> simp
  have HA := Lib.hid hA
  have HC := Lib.hid hC
  clear hA hC
  obtain ⟨W7, hW7⟩ : ∃ W7, W6.alloc (.cells #[] 48) = W7 := ⟨_, rfl⟩
  have O7 : W7.ownsRow W6.heap.size 48 4 (.slice (some ⟨W6.heap.size, 0, none⟩) 0 0) 0 [] := by rw [← hW7]; exact empty_knowns (heap_alloc_new _ _) (Nat.le_refl _)
  have b7 : Below W6.heap.size W6 W7 := by rw [← hW7]; exact (Below.refl _ _).alloc (Nat.le_refl _) _
  have s7 : W6.heap.size < W7.heap.size := by rw [← hW7]; simp
  have z0 := (b7.cell (p := ⟨w.heap.size, 0, none⟩) sx).trans x0
  have z2 := (b7.cell (p := ⟨w.heap.size, 2, none⟩) sx).trans x2
  have z3 := (b7.cell (p := ⟨w.heap.size, 3, none⟩) sx).trans x3
  have u0 := (b7.cell (p := ⟨w.heap.size + 1, 0, none⟩) sy).trans y0
  have HO7 := Lib.hid O7
  have HB7 := Lib.hid b7
  clear O7 b7
  go_upto_if 25 with fail
  clear hW7 hW6
  go_cut [7] from 8 (fun s7 u => ∃ g7 c7, s7 = .slice (some ⟨g7, 0, none⟩) A.length c7 ∧ u.ownsRow W6.heap.size 48 4 (.slice (some ⟨g7, 0, none⟩) A.length c7) A.length (A.flatMap knownCells) ∧ Below W6.heap.size W6 u)
  case first =>
    cases hx : Op.bytesLess v.f0.toList k.f0.toList
    · have hA2 := HA.out
      rw [if_neg (fun h => by rw [(less_iff _ _).2 h] at hx; cases hx)] at hA2
      have HA2 := Lib.hid hA2
      clear hA2
      go_wp2_with fail
      go_meet
      rw [← HA2.out]
      exact ⟨_, _, rfl, HO7.out, HB7.out⟩
    · have hA2 := HA.out
      rw [if_pos ((less_iff _ _).1 hx)] at hA2
      have HA2 := Lib.hid hA2
      clear hA2
      go_wp2_with (at_builtin; refine wpList_append_lies _ rfl _ _ 41 rfl W6.heap.size 48 i0 (.agg #[.string ⟨#[]⟩, .string ⟨#[]⟩, .int .i64 0, .int .i64 0]) 4 48 Try.underlying41 hi0 hz0 hz1 hz2 rfl (by decide) _ 0 [] rfl (HO7.out.alloc _) ⟨W7.heap.size, 0, none⟩ 1 1 (knownCells ⟨v.f0, k.f0, v.f2, v.f3⟩) rfl rfl (newsKnown _ ⟨v.f0, k.f0, v.f2, v.f3⟩ _ _ rfl) (known_one _) (by omega) (by unfold maxLen; omega) (by omega) (by simp; omega) _ rfl ?_; intro gg cp w8 hown hgrow hat hlt2; have X := Lib.hid (And.intro hown hgrow); clear hown hgrow hat hlt2)
      go_meet
      rw [← HA2.out]
      exact ⟨gg, cp, by simp, by simpa using X.out.1, Below.grown (HB7.out.alloc HB7.out.size _) X.out.2 (by simp; omega) (fun j hj => (HO7.out.lt j hj).1)⟩
  case rest =>
  obtain ⟨g7, c7, rfl, hO8, hb8⟩ := hcut
  obtain ⟨w8, rfl⟩ : ∃ V, V = wc := ⟨_, rfl⟩
  replace x0 := (hb8.cell (p := ⟨w.heap.size, 0, none⟩) sx).trans x0
  replace x1 := (hb8.cell (p := ⟨w.heap.size, 1, none⟩) sx).trans x1
  replace x2 := (hb8.cell (p := ⟨w.heap.size, 2, none⟩) sx).trans x2
  replace x3 := (hb8.cell (p := ⟨w.heap.size, 3, none⟩) sx).trans x3
  replace y0 := (hb8.cell (p := ⟨w.heap.size + 1, 0, none⟩) sy).trans y0
  replace y1 := (hb8.cell (p := ⟨w.heap.size + 1, 1, none⟩) sy).trans y1
  have hq := HB6.out.size
  have HO8 := Lib.hid hO8
  have HB8 := Lib.hid (HB6.out.trans (hb8.mono HB6.out.size))
  have s8 : W6.heap.size ≤ w8.heap.size := hb8.size
  clear hO8 hb8 z0 z2 z3 u0
  cases hh : k.f1.toList.isEmpty
  case' false => cases hy : v.f1.toList.isEmpty
  case' false.false => cases hz : Op.bytesLess k.f1.toList v.f1.toList
  case true =>
    have hC2 := HC.out
    rw [if_neg (fun h => h.1 ((empty_iff _).1 hh))] at hC2
    have HC2 := Lib.hid hC2
    clear hC2
    go_wp2_with fail
    go_ret
    rw [HR.out, ← HC2.out, List.append_nil]
    exact ⟨_, _, rfl, own_lower HO8.out hq, HB8.out⟩
  case false.false.false =>
    have hC2 := HC.out
    rw [if_neg (fun h => h.2.elim (fun g => by rw [(empty_iff _).2 g] at hy; cases hy) (fun g => by rw [(less_iff _ _).2 g] at hz; cases hz))] at hC2
    have HC2 := Lib.hid hC2
    clear hC2
    go_wp2_with fail
    go_ret
    rw [HR.out, ← HC2.out, List.append_nil]
    exact ⟨_, _, rfl, own_lower HO8.out hq, HB8.out⟩
  all_goals
    have hC2 := HC.out
    rw [if_pos (And.intro (fun g => absurd ((empty_iff _).2 g) (by rw [hh]; decide)) (by first | exact Or.inl ((empty_iff _).1 hy) | exact Or.inr ((less_iff _ _).1 hz)))] at hC2
    have HC2 := Lib.hid hC2
    clear hC2
    go_wp2_with (at_builtin; refine wpList_append_lies _ rfl _ _ 41 rfl W6.heap.size 48 i0 (.agg #[.string ⟨#[]⟩, .string ⟨#[]⟩, .int .i64 0, .int .i64 0]) 4 48 Try.underlying41 hi0 hz0 hz1 hz2 rfl (by decide) _ A.length _ rfl (HO8.out.alloc _) ⟨w8.heap.size, 0, none⟩ 1 1 (knownCells ⟨k.f1, v.f1, v.f2, v.f3⟩) rfl rfl (newsKnown _ ⟨k.f1, v.f1, v.f2, v.f3⟩ _ _ rfl) (known_one _) (by omega) (by unfold maxLen; omega) (by omega) (by simp; omega) _ rfl ?_; intro gg cp w9 hown hgrow hat hlt2; have X := Lib.hid (And.intro hown hgrow); clear hown hgrow hat hlt2)
    go_ret
    rw [HR.out, ← HC2.out, List.flatMap_append, List.length_append]
    exact ⟨gg, cp, by simp, own_lower (by simpa using X.out.1) hq, Below.grown (HB8.out.alloc HB8.out.size _) X.out.2 (by simp; omega) (fun j hj => Nat.le_trans hq (HO8.out.lt j hj).1)⟩
end Go.Proofs.Ythjikcfpoomioaa
