/- One more in its place: the program's walk. -/
import Derived.Test.YthjikcfpoomioaaKwK
import Derived.Test.YthjikcfpoomioaaAppK
import Derived.Deep.Cut
namespace Go.Proofs.Ythjikcfpoomioaa
open Go.RowKit

theorem own_lower {w : World} {B B' size n : Nat} {e : TypeId} {v : Value} {xs : List Value} (h : w.ownsRow B e size v n xs) (hb : B' ≤ B) : w.ownsRow B' e size v n xs :=
  ⟨h.1, h.2.imp id fun ⟨g, c, cur, a, b, r⟩ => ⟨g, c, cur, a, Nat.le_trans hb b, r⟩⟩
theorem put_far {w1 w2 : World} {b o : Nat} {v x : Value} {ob : Obj} (hb : b < w1.heap.size) (hne : some b ≠ v.ownBlock) (hg : (w1.alloc ob).grownBy w2 v.ownBlock) (hx : w1.cell? ⟨b, o, none⟩ = some x) : w2.cell? ⟨b, o, none⟩ = some x :=
  (hg.cell_far ⟨b, o, none⟩ (by simp; omega) hne).trans ((((Below.refl w1.heap.size w1).alloc (Nat.le_refl _) _).cell (p := ⟨b, o, none⟩) hb).trans hx)

set_option maxRecDepth 100000 in
set_option maxHeartbeats 4000000 in
theorem putInto_any (k : KnownD) (a : Option Addr) (vs : List KnownD) (cap : Nat) (w : World) (hkf : k.fits) (hv : KnownsIn w a vs) (hf : ∀ v ∈ vs, v.fits) (hn : vs.length ≤ 1048576 - 1) :
    Calls Try.prog 107 #[.agg #[.string k.f0, .string k.f1, .int .i64 k.f2, .int .i64 k.f3], .slice a vs.length cap] w fun e w' => ∃ v, e = .returned v ∧ w'.ownsRow w.heap.size 48 4 v (putI k vs).length ((putI k vs).flatMap knownCells) ∧ Below w.heap.size w w' := by
  have HV := Lib.hid hv
  have HF := Lib.hid hf
  clear hv hf
  obtain ⟨hk0, hk1⟩ := hkf
  obtain ⟨i0, hi0, hz0, hz1, hz2⟩ := info_parts infoKnown
  obtain ⟨W0, hW0⟩ : ∃ W0, w.alloc (.cells #[.string k.f0, .string k.f1, .int .i64 k.f2, .int .i64 k.f3] 48) = W0 := ⟨_, rfl⟩
  have B0 : Below w.heap.size w W0 := by rw [← hW0]; exact (Below.refl _ _).alloc (Nat.le_refl _) _
  have s0 : W0.heap.size = w.heap.size + 1 := by rw [← hW0]; simp
  have x0 : W0.cell? ⟨w.heap.size, 0, none⟩ = some (.string k.f0) := by rw [← hW0]; simp [go_sem]
  have x1 : W0.cell? ⟨w.heap.size, 1, none⟩ = some (.string k.f1) := by rw [← hW0]; simp [go_sem]
  have x2 : W0.cell? ⟨w.heap.size, 2, none⟩ = some (.int .i64 k.f2) := by rw [← hW0]; simp [go_sem]
  have x3 : W0.cell? ⟨w.heap.size, 3, none⟩ = some (.int .i64 k.f3) := by rw [← hW0]; simp [go_sem]
  have sx : w.heap.size < W0.heap.size := by omega
  have HB0 := Lib.hid B0
  have m0 : (⟨#[]⟩ : ByteArray).size ≤ maxLen := by unfold maxLen; exact Nat.zero_le _
  clear B0
  obtain ⟨A, hA⟩ : ∃ A, (if k.f0.toList = [] then [] else within ⟨#[]⟩ k.f0 vs vs.length) = A := ⟨_, rfl⟩
  obtain ⟨C, hC⟩ : ∃ C, (if k.f1.toList = [] then [] else within k.f1 ⟨#[]⟩ vs vs.length) = C := ⟨_, rfl⟩
  have hP : putI k vs = A ++ [k] ++ C := by unfold putI; rw [hA, hC]
  have lA : A.length ≤ vs.length := by
    rw [← hA]; split
    · exact Nat.zero_le _
    · exact within_le _ _ _ _
  have lC : C.length ≤ vs.length := by
    rw [← hC]; split
    · exact Nat.zero_le _
    · exact within_le _ _ _ _
  have HP := Lib.hid hP
  have HA := Lib.hid hA
  have HC := Lib.hid hC
  clear hP hA hC
  go_enter Try.func107, Try.ntmps107
  go_upto_if 9 with fail
  clear hW0
  go_cut [5] from 6 (fun s5 u => u.ownsRow (w.heap.size + 1) 48 4 s5 A.length (A.flatMap knownCells) ∧ Below W0.heap.size W0 u)
  case first =>
    cases hl : k.f0.toList.isEmpty
    · have hne : k.f0.toList ≠ [] := fun h => by rw [(empty_iff _).2 h] at hl; cases hl
      have hA2 := HA.out
      rw [if_neg hne] at hA2
      go_wp2_with fail
      refine (knownWithin_any ⟨#[]⟩ k.f0 a vs cap _ (HV.out.below HB0.out) HF.out m0 hk0 (by omega)).mono ?_
      rintro e w1 ⟨v1, rfl, hO1, hb1⟩
      rw [hA2] at hO1
      have HB1 := Lib.hid hb1
      have q1 : w.heap.size + 1 ≤ w1.heap.size := by have := hb1.size; omega
      clear hb1
      go_wp2_with (at_builtin; refine wpList_append_row rfl _ _ 41 rfl Try.underlying41 (w.heap.size + 1) _ (.slice none 0 0) 0 [] rfl (World.ownsRow_nil _ _ _ _) v1 A.length (A.flatMap knownCells) rfl hO1 (knowns_one _) (by omega) q1 ?_; intro v2 w2 hown hgrow hat; have X := Lib.hid (And.intro hown hgrow); clear hown hgrow hat)
      go_meet
      exact ⟨by simpa using X.out.1, HB1.out.grown X.out.2 HB1.out.size (by simp [Value.ownBlock])⟩
    · have he : k.f0.toList = [] := (empty_iff _).1 hl
      have hA2 := HA.out
      rw [if_pos he] at hA2
      go_wp2_with fail
      go_meet
      exact ⟨by rw [← hA2]; exact World.ownsRow_nil _ _ _ _, Below.refl _ _⟩
  case rest =>
  obtain ⟨hO1, hb1⟩ := hcut
  obtain ⟨w1, rfl⟩ : ∃ V, V = wc := ⟨_, rfl⟩
  replace x0 := (hb1.cell (p := ⟨w.heap.size, 0, none⟩) sx).trans x0
  replace x1 := (hb1.cell (p := ⟨w.heap.size, 1, none⟩) sx).trans x1
  replace x2 := (hb1.cell (p := ⟨w.heap.size, 2, none⟩) sx).trans x2
  replace x3 := (hb1.cell (p := ⟨w.heap.size, 3, none⟩) sx).trans x3
  have HB1 := Lib.hid (HB0.out.trans (hb1.mono HB0.out.size))
  have HO1 := Lib.hid hO1
  have s1 : w.heap.size < w1.heap.size := Nat.lt_of_lt_of_le sx hb1.size
  clear hb1 hO1
  obtain ⟨v1, rfl⟩ : ∃ V, V = u5 := ⟨_, rfl⟩
  go_upto_if 25 with (at_builtin; refine wpList_append_lies _ rfl _ _ 41 rfl (w.heap.size + 1) 48 i0 (.agg #[.string ⟨#[]⟩, .string ⟨#[]⟩, .int .i64 0, .int .i64 0]) 4 48 Try.underlying41 hi0 hz0 hz1 hz2 rfl (by decide) v1 A.length _ rfl (HO1.out.alloc _) ⟨w1.heap.size, 0, none⟩ 1 1 (knownCells k) rfl rfl (newsKnown _ k _ _ rfl) (known_one _) (by omega) (by unfold maxLen; omega) (by omega) (by simp; omega) _ rfl ?_; intro gg cp w2 hown hgrow hat hlt2; have y1 := put_far s1 (own_ne HO1.out (.inl (by omega))) hgrow x1; have X := Lib.hid (And.intro hown hgrow); clear hown hgrow hat hlt2)
  have HB2 := Lib.hid (Below.grown (HB1.out.alloc HB1.out.size _) X.out.2 (by simp; omega) (fun j hj => Nat.le_of_succ_le (HO1.out.lt j hj).1))
  have HO2 := Lib.hid (show w2.ownsRow (w.heap.size + 1) 48 4 (.slice (some ⟨gg, 0, none⟩) (A.length + 1) cp) (A.length + 1) ((A ++ [k]).flatMap knownCells) from by rw [List.flatMap_append]; simpa using X.out.1)
  have q2 : w.heap.size + 1 ≤ w2.heap.size := by have := X.out.2.size; simp at this; omega
  clear X x0 x1 x2 x3
  cases hl : k.f1.toList.isEmpty
  · have hne : k.f1.toList ≠ [] := fun h => by rw [(empty_iff _).2 h] at hl; cases hl
    have hC2 := HC.out
    rw [if_neg hne] at hC2
    go_wp2_with fail
    refine (knownWithin_any k.f1 ⟨#[]⟩ a vs cap _ (HV.out.below HB2.out) HF.out hk1 m0 (by omega)).mono ?_
    rintro e w3 ⟨v3, rfl, hO3, hb3⟩
    rw [hC2] at hO3
    have HB3 := Lib.hid (HB2.out.trans (hb3.mono HB2.out.size))
    have HO4 := Lib.hid (Go.Proofs.Ythjikcfpoomioaa.ownsRow_of_below HO2.out hb3)
    have q3 : w.heap.size + 1 ≤ w3.heap.size := by have := hb3.size; have := HB2.out.size; have := s1; have := q2; omega
    clear hb3
    go_wp2_with (at_builtin; refine wpList_append_row rfl _ _ 41 rfl Try.underlying41 (w.heap.size + 1) _ _ (A.length + 1) _ rfl HO4.out v3 C.length (C.flatMap knownCells) rfl hO3 (knowns_one _) (by omega) q3 ?_; intro v4 w4 hown hgrow hat; have X := Lib.hid (And.intro hown hgrow); clear hown hgrow hat)
    go_ret
    exact ⟨_, rfl, by rw [HP.out, List.flatMap_append, List.length_append, List.length_append]; exact own_lower X.out.1 (by omega), Below.grown HB3.out X.out.2 HB3.out.size (fun j hj => Nat.le_of_succ_le (HO4.out.lt j hj).1)⟩
  · have he : k.f1.toList = [] := (empty_iff _).1 hl
    have hC2 := HC.out
    rw [if_pos he] at hC2
    go_wp2_with fail
    go_ret
    exact ⟨_, rfl, by rw [HP.out, ← hC2, List.append_nil, List.length_append]; exact own_lower HO2.out (by omega), HB2.out⟩
end Go.Proofs.Ythjikcfpoomioaa
