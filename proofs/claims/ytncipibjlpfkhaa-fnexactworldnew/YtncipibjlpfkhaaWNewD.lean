/- The new world: its marks; the program's and the model's function. -/
import Derived.Test.YtncipibjlpfkhaaWNewC
namespace Go.Proofs.Ytncipibjlpfkhaa
open Go.RowKit

set_option maxRecDepth 100000 in
set_option maxHeartbeats 4000000 in
theorem markWorld_at {a1 a2 a3 lo hi : Nat} {w : World} (ha : NewW w lo hi a1 a2 a3) :
    Calls Try.prog 20 #[.agg #[.int .i64 1, .slice (some ⟨a1, 0, none⟩) 1 1, .slice (some ⟨a2, 0, none⟩) 1 1, .slice none 0 0, .slice none 0 0, .slice none 0 0, .int .i64 0, .slice (some ⟨a3, 0, none⟩) 3 3, .slice none 0 0], .int .i64 1] w fun e w' => e = .returned (.int .i64 8) ∧ MarkW w' lo hi a1 a2 a3 ∧ Turned (fun b => lo ≤ b ∧ b < hi) w w' := by
  have hle : hi ≤ w.heap.size := ha.pm.le
  have hl1 := ha.pm.l1 a1 0 rfl
  have hl2 := ha.l2
  have hl3 := ha.l3
  have n12 := ha.n12
  have n13 := ha.n13
  have n23 := ha.n23
  have HA := Lib.hid ha
  clear ha
  obtain ⟨W1, hW1⟩ : ∃ W1, w.alloc (.cells #[.int .i64 1, .slice (some ⟨a1, 0, none⟩) 1 1, .slice (some ⟨a2, 0, none⟩) 1 1, .slice none 0 0, .slice none 0 0, .slice none 0 0, .int .i64 0, .slice (some ⟨a3, 0, none⟩) 3 3, .slice none 0 0] 37) = W1 := ⟨_, rfl⟩
  have HB : Below w.heap.size w W1 := by rw [← hW1]; exact (Below.refl _ _).alloc (Nat.le_refl _) _
  have zka : w.heap.size < W1.heap.size := by rw [← hW1]; simp
  have ka0 : W1.cell? ⟨w.heap.size, 0, none⟩ = some (.int .i64 1) := by rw [← hW1]; simp [go_sem]
  have ka1 : W1.cell? ⟨w.heap.size, 1, none⟩ = some (.slice (some ⟨a1, 0, none⟩) 1 1) := by rw [← hW1]; simp [go_sem]
  have ka2 : W1.cell? ⟨w.heap.size, 2, none⟩ = some (.slice (some ⟨a2, 0, none⟩) 1 1) := by rw [← hW1]; simp [go_sem]
  have ka3 : W1.cell? ⟨w.heap.size, 3, none⟩ = some (.slice none 0 0) := by rw [← hW1]; simp [go_sem]
  have ka4 : W1.cell? ⟨w.heap.size, 4, none⟩ = some (.slice none 0 0) := by rw [← hW1]; simp [go_sem]
  have ka5 : W1.cell? ⟨w.heap.size, 5, none⟩ = some (.slice none 0 0) := by rw [← hW1]; simp [go_sem]
  have ka6 : W1.cell? ⟨w.heap.size, 6, none⟩ = some (.int .i64 0) := by rw [← hW1]; simp [go_sem]
  have ka7 : W1.cell? ⟨w.heap.size, 7, none⟩ = some (.slice (some ⟨a3, 0, none⟩) 3 3) := by rw [← hW1]; simp [go_sem]
  have ka8 : W1.cell? ⟨w.heap.size, 8, none⟩ = some (.slice none 0 0) := by rw [← hW1]; simp [go_sem]
  have HB := Lib.hid HB
  have HT := Lib.hid (show Turned (fun b => lo ≤ b ∧ b < hi) w W1 from Turned.of_below HB.out)
  have A := HA.out.below HB.out
  have P0 := A.p0
  have P1 := A.p1
  have P2 := A.p2
  have P3 := A.p3
  have F0 := A.fp0
  have F1 := A.fp1
  have Q0 := A.q0
  have Q1 := A.q1
  have Q2 := A.q2
  have G0 := A.fq0
  have G1 := A.fq1
  have G2 := A.fq2
  have FR := Lib.hid A.pm.fr1
  have y2 : a2 < W1.heap.size := Nat.lt_of_lt_of_le (by omega) A.pm.le
  have y3 : a3 < W1.heap.size := Nat.lt_of_lt_of_le (by omega) A.pm.le
  have y1 : a1 < W1.heap.size := Nat.lt_of_lt_of_le (by omega) A.pm.le
  clear A
  go_enter Try.func20, Try.ntmps20
  go_wp2_with fail
  clear hW1
  refine (markPmap_any (fun b => b = a1) 1 (some ⟨a1, 0, none⟩) 1 1 1 _ FR.out (fun b off e => by cases e; rfl) (by omega) (by omega)).mono ?_
  rintro e w2 ⟨rfl, hri, hrf, ht⟩
  have ka0 := (ht.cell (p := ⟨w.heap.size, 0, none⟩) zka (by show ¬ (w.heap.size = a1); omega)).trans ka0
  have ka1 := (ht.cell (p := ⟨w.heap.size, 1, none⟩) zka (by show ¬ (w.heap.size = a1); omega)).trans ka1
  have ka2 := (ht.cell (p := ⟨w.heap.size, 2, none⟩) zka (by show ¬ (w.heap.size = a1); omega)).trans ka2
  have ka3 := (ht.cell (p := ⟨w.heap.size, 3, none⟩) zka (by show ¬ (w.heap.size = a1); omega)).trans ka3
  have ka4 := (ht.cell (p := ⟨w.heap.size, 4, none⟩) zka (by show ¬ (w.heap.size = a1); omega)).trans ka4
  have ka5 := (ht.cell (p := ⟨w.heap.size, 5, none⟩) zka (by show ¬ (w.heap.size = a1); omega)).trans ka5
  have ka6 := (ht.cell (p := ⟨w.heap.size, 6, none⟩) zka (by show ¬ (w.heap.size = a1); omega)).trans ka6
  have ka7 := (ht.cell (p := ⟨w.heap.size, 7, none⟩) zka (by show ¬ (w.heap.size = a1); omega)).trans ka7
  have ka8 := (ht.cell (p := ⟨w.heap.size, 8, none⟩) zka (by show ¬ (w.heap.size = a1); omega)).trans ka8
  have zka : w.heap.size < w2.heap.size := Nat.lt_of_lt_of_le zka ht.size
  have P0 := (ht.cell (p := ⟨a2, 0, none⟩) y2 (by show ¬ (a2 = a1); omega)).trans P0
  have P1 := (ht.cell (p := ⟨a2, 1, none⟩) y2 (by show ¬ (a2 = a1); omega)).trans P1
  have P2 := (ht.cell (p := ⟨a2, 2, none⟩) y2 (by show ¬ (a2 = a1); omega)).trans P2
  have P3 := (ht.cell (p := ⟨a2, 3, none⟩) y2 (by show ¬ (a2 = a1); omega)).trans P3
  have F0 := (ht.frozen (p := ⟨a2, 0, none⟩) y2 (by show ¬ (a2 = a1); omega)).trans F0
  have F1 := (ht.frozen (p := ⟨a2, 1, none⟩) y2 (by show ¬ (a2 = a1); omega)).trans F1
  have Q0 := (ht.cell (p := ⟨a3, 0, none⟩) y3 (by show ¬ (a3 = a1); omega)).trans Q0
  have Q1 := (ht.cell (p := ⟨a3, 1, none⟩) y3 (by show ¬ (a3 = a1); omega)).trans Q1
  have Q2 := (ht.cell (p := ⟨a3, 2, none⟩) y3 (by show ¬ (a3 = a1); omega)).trans Q2
  have G0 := (ht.frozen (p := ⟨a3, 0, none⟩) y3 (by show ¬ (a3 = a1); omega)).trans G0
  have G1 := (ht.frozen (p := ⟨a3, 1, none⟩) y3 (by show ¬ (a3 = a1); omega)).trans G1
  have G2 := (ht.frozen (p := ⟨a3, 2, none⟩) y3 (by show ¬ (a3 = a1); omega)).trans G2
  have y3 : a3 < w2.heap.size := Nat.lt_of_lt_of_le y3 ht.size
  have y1 : a1 < w2.heap.size := Nat.lt_of_lt_of_le y1 ht.size
  have HT := Lib.hid (HT.out.trans (ht.mono fun b _ e => by subst e; exact hl1))
  have HR := Lib.hid (And.intro hri hrf)
  clear ht hri hrf
  go_wp2_with fail
  refine (markPartS1 a2 3 _ _ _ P0 P1 P2 P3 F0 F1 (by omega) (by omega)).mono ?_
  rintro e w3 ⟨rfl, p0, p1, p2, p3, ht⟩
  have ka0 := (ht.cell (p := ⟨w.heap.size, 0, none⟩) zka (by show ¬ (w.heap.size = a2); omega)).trans ka0
  have ka1 := (ht.cell (p := ⟨w.heap.size, 1, none⟩) zka (by show ¬ (w.heap.size = a2); omega)).trans ka1
  have ka2 := (ht.cell (p := ⟨w.heap.size, 2, none⟩) zka (by show ¬ (w.heap.size = a2); omega)).trans ka2
  have ka3 := (ht.cell (p := ⟨w.heap.size, 3, none⟩) zka (by show ¬ (w.heap.size = a2); omega)).trans ka3
  have ka4 := (ht.cell (p := ⟨w.heap.size, 4, none⟩) zka (by show ¬ (w.heap.size = a2); omega)).trans ka4
  have ka5 := (ht.cell (p := ⟨w.heap.size, 5, none⟩) zka (by show ¬ (w.heap.size = a2); omega)).trans ka5
  have ka6 := (ht.cell (p := ⟨w.heap.size, 6, none⟩) zka (by show ¬ (w.heap.size = a2); omega)).trans ka6
  have ka7 := (ht.cell (p := ⟨w.heap.size, 7, none⟩) zka (by show ¬ (w.heap.size = a2); omega)).trans ka7
  have ka8 := (ht.cell (p := ⟨w.heap.size, 8, none⟩) zka (by show ¬ (w.heap.size = a2); omega)).trans ka8
  have zka : w.heap.size < w3.heap.size := Nat.lt_of_lt_of_le zka ht.size
  have Q0 := (ht.cell (p := ⟨a3, 0, none⟩) y3 (by show ¬ (a3 = a2); omega)).trans Q0
  have G0 := (ht.frozen (p := ⟨a3, 0, none⟩) y3 (by show ¬ (a3 = a2); omega)).trans G0
  have Q1 := (ht.cell (p := ⟨a3, 1, none⟩) y3 (by show ¬ (a3 = a2); omega)).trans Q1
  have G1 := (ht.frozen (p := ⟨a3, 1, none⟩) y3 (by show ¬ (a3 = a2); omega)).trans G1
  have Q2 := (ht.cell (p := ⟨a3, 2, none⟩) y3 (by show ¬ (a3 = a2); omega)).trans Q2
  have G2 := (ht.frozen (p := ⟨a3, 2, none⟩) y3 (by show ¬ (a3 = a2); omega)).trans G2
  have HR := Lib.hid (And.intro (HR.out.1.turned (fun b off e => by cases e; exact n12) ht) (HR.out.2.turned (fun b off e => by cases e; exact n12) ht))
  have HT := Lib.hid (HT.out.trans (ht.mono fun b _ e => by subst e; exact hl2))
  clear ht P0 P1 P2 P3 F0 F1
  have y2 : a2 < w3.heap.size := World.block_lt_of_cell? w3 _ p0
  have y3 : a3 < w3.heap.size := World.block_lt_of_cell? w3 _ Q0
  go_wp2_with (first | (go_at_call 79; refine (mark0_StateS _ _).mono ?_; rintro e w9 ⟨rfl, rfl⟩) | (go_at_call 80; refine (mark0_LetterS _ _).mono ?_; rintro e w9 ⟨rfl, rfl⟩) | (go_at_call 81; refine (mark0_EntryS _ _).mono ?_; rintro e w9 ⟨rfl, rfl⟩))
  refine (markBool3 a3 5 _ _ _ _ Q0 Q1 Q2 G0 G1 G2 (by omega)).mono ?_
  rintro e w4 ⟨rfl, q0, q1, q2, ht⟩
  have ka0 := (ht.cell (p := ⟨w.heap.size, 0, none⟩) zka (by show ¬ (w.heap.size = a3); omega)).trans ka0
  have ka1 := (ht.cell (p := ⟨w.heap.size, 1, none⟩) zka (by show ¬ (w.heap.size = a3); omega)).trans ka1
  have ka2 := (ht.cell (p := ⟨w.heap.size, 2, none⟩) zka (by show ¬ (w.heap.size = a3); omega)).trans ka2
  have ka3 := (ht.cell (p := ⟨w.heap.size, 3, none⟩) zka (by show ¬ (w.heap.size = a3); omega)).trans ka3
  have ka4 := (ht.cell (p := ⟨w.heap.size, 4, none⟩) zka (by show ¬ (w.heap.size = a3); omega)).trans ka4
  have ka5 := (ht.cell (p := ⟨w.heap.size, 5, none⟩) zka (by show ¬ (w.heap.size = a3); omega)).trans ka5
  have ka6 := (ht.cell (p := ⟨w.heap.size, 6, none⟩) zka (by show ¬ (w.heap.size = a3); omega)).trans ka6
  have ka7 := (ht.cell (p := ⟨w.heap.size, 7, none⟩) zka (by show ¬ (w.heap.size = a3); omega)).trans ka7
  have ka8 := (ht.cell (p := ⟨w.heap.size, 8, none⟩) zka (by show ¬ (w.heap.size = a3); omega)).trans ka8
  have zka : w.heap.size < w4.heap.size := Nat.lt_of_lt_of_le zka ht.size
  have P0 := (ht.cell (p := ⟨a2, 0, none⟩) y2 n23).trans p0
  have P1 := (ht.cell (p := ⟨a2, 1, none⟩) y2 n23).trans p1
  have P2 := (ht.cell (p := ⟨a2, 2, none⟩) y2 n23).trans p2
  have P3 := (ht.cell (p := ⟨a2, 3, none⟩) y2 n23).trans p3
  have HR := Lib.hid (And.intro (HR.out.1.turned (fun b off e => by cases e; exact n13) ht) (HR.out.2.turned (fun b off e => by cases e; exact n13) ht))
  have HT := Lib.hid (HT.out.trans (ht.mono fun b _ e => by subst e; exact hl3))
  clear ht p0 p1 p2 p3 Q0 Q1 Q2 G0 G1 G2
  go_wp2_with (go_at_call 83; refine (mark0_ReadS _ _).mono ?_; rintro e w9 ⟨rfl, rfl⟩)
  go_ret
  exact ⟨rfl, ⟨⟨HR.out.1, by rw [Rowmarks_length]; exact HR.out.2, (fun b off e => by cases e; exact hl1), Nat.le_trans hle HT.out.size⟩, P0, P1, P2, P3, q0, q1, q2, hl2, hl3⟩, HT.out⟩

set_option maxRecDepth 100000 in
set_option maxHeartbeats 4000000 in
theorem specWorldNew_any (w : World) :
    Calls Try.prog 17 #[] w fun e w' => ∃ g1 g2 g3 : Nat, e = .returned (.agg #[.int .i64 1, .slice (some ⟨g1, 0, none⟩) 1 1, .slice (some ⟨g2, 0, none⟩) 1 1, .slice none 0 0, .slice none 0 0, .slice none 0 0, .int .i64 0, .slice (some ⟨g3, 0, none⟩) 3 3, .slice none 0 0]) ∧ NewW w' w.heap.size w'.heap.size g1 g2 g3 ∧ Below w.heap.size w w' := by
  have hmk : ∀ u : World, (Instr.makeSlice 34 (.int .i64 3) (.int .i64 3)).run Try.prog u = .ok (.slice (some ⟨u.heap.size, 0, none⟩) 3 3) (u.alloc (.cells #[.bool false, .bool false, .bool false] 4)) := by
    intro u
    first | kernel_rfl | rfl | (simp [Instr.makeSlice, go_sem]; done)
  go_enter Try.func17, Try.ntmps17
  go_wp2_with fail
  obtain ⟨U, hU⟩ : ∃ U, (((w.alloc (.cells #[.int .i64 1, .slice (some ⟨w.heap.size + 1, 0, none⟩) 1 1, .slice (some ⟨w.heap.size + 1 + 1, 0, none⟩) 1 1, .slice none 0 0, .slice none 0 0, .slice none 0 0, .int .i64 0, .slice (some ⟨w.heap.size + 1 + 1 + 1, 0, none⟩) 3 3, .slice none 0 0] 37)).alloc (.cells #[.string ⟨#[]⟩, .int .i64 0] 123)).alloc (.cells #[.string ⟨#[]⟩, .string ⟨#[]⟩, .slice none 0 0, .slice none 0 0] 126)).alloc (.cells #[.bool false, .bool false, .bool false] 4) = U := ⟨_, rfl⟩
  refine bodyPost_ret (v := .agg #[.int .i64 1, .slice (some ⟨w.heap.size + 1, 0, none⟩) 1 1, .slice (some ⟨w.heap.size + 1 + 1, 0, none⟩) 1 1, .slice none 0 0, .slice none 0 0, .slice none 0 0, .int .i64 0, .slice (some ⟨w.heap.size + 1 + 1 + 1, 0, none⟩) 3 3, .slice none 0 0]) (by simp [results, Try.results17, go_sem]) rfl ?_
  rw [hU]
  have hz : U.heap.size = w.heap.size + 4 := by rw [← hU]; simp
  have r0 : U.cell? ⟨w.heap.size + 1, 0, none⟩ = some (.string ⟨#[]⟩) := by rw [← hU]; simp [go_sem]
  have r1 : U.cell? ⟨w.heap.size + 1, 1, none⟩ = some (.int .i64 0) := by rw [← hU]; simp [go_sem]
  have fr : ∀ i, U.frozen? ⟨w.heap.size + 1, i, none⟩ = false := fun i => by rw [← hU]; simp [go_sem]
  refine ⟨w.heap.size + 1, w.heap.size + 1 + 1, w.heap.size + 1 + 1 + 1, rfl, ⟨⟨.inr ⟨w.heap.size + 1, 0, rfl, by omega, fun i h => ?_⟩, .inr ⟨w.heap.size + 1, 0, rfl, by omega, fun i h => ?_⟩, (fun b off e => by cases e; exact ⟨by omega, by omega⟩), Nat.le_refl _⟩, by rw [← hU]; simp [go_sem], by rw [← hU]; simp [go_sem], by rw [← hU]; simp [go_sem], by rw [← hU]; simp [go_sem], by rw [← hU]; simp [go_sem], by rw [← hU]; simp [go_sem], by rw [← hU]; simp [go_sem], by rw [← hU]; simp [go_sem], by rw [← hU]; simp [go_sem], by rw [← hU]; simp [go_sem], by rw [← hU]; simp [go_sem], by rw [← hU]; simp [go_sem], ⟨by omega, by omega⟩, ⟨by omega, by omega⟩, by omega, by omega, by omega⟩, by rw [← hU]; exact ((((Below.refl _ _).alloc (Nat.le_refl _) _).alloc (by simp) _).alloc (by simp; omega) _).alloc (by simp; omega) _⟩
  · obtain rfl : i = 0 := by simp [wRows] at h; omega
    exact ⟨by simpa [wRows] using r0, by simpa [wRows] using r1⟩
  · refine ⟨?_, by simpa using fr i⟩
    have : i = 0 ∨ i = 1 := by simp [wRows] at h; omega
    rcases this with rfl | rfl
    · exact ⟨_, by simpa using r0⟩
    · exact ⟨_, by simpa using r1⟩

set_option maxRecDepth 100000 in
set_option maxHeartbeats 4000000 in
theorem implWorldNew_any (w : World) :
    Calls Try.prog 18 #[] w fun e w' => ∃ g1 g2 g3 : Nat, e = .returned (.agg #[.int .i64 1, .slice (some ⟨g1, 0, none⟩) 1 1, .slice (some ⟨g2, 0, none⟩) 1 1, .slice none 0 0, .slice none 0 0, .slice none 0 0, .int .i64 0, .slice (some ⟨g3, 0, none⟩) 3 3, .slice none 0 0]) ∧ NewW w' w.heap.size w'.heap.size g1 g2 g3 ∧ Below w.heap.size w w' := by
  have hmk : ∀ u : World, (Instr.makeSlice 34 (.int .i64 3) (.int .i64 3)).run Try.prog u = .ok (.slice (some ⟨u.heap.size, 0, none⟩) 3 3) (u.alloc (.cells #[.bool false, .bool false, .bool false] 4)) := by
    intro u
    first | kernel_rfl | rfl | (simp [Instr.makeSlice, go_sem]; done)
  go_enter Try.func18, Try.ntmps18
  go_wp2_with fail
  obtain ⟨U, hU⟩ : ∃ U, (((w.alloc (.cells #[.int .i64 1, .slice (some ⟨w.heap.size + 1, 0, none⟩) 1 1, .slice (some ⟨w.heap.size + 1 + 1, 0, none⟩) 1 1, .slice none 0 0, .slice none 0 0, .slice none 0 0, .int .i64 0, .slice (some ⟨w.heap.size + 1 + 1 + 1, 0, none⟩) 3 3, .slice none 0 0] 37)).alloc (.cells #[.string ⟨#[]⟩, .int .i64 0] 123)).alloc (.cells #[.string ⟨#[]⟩, .string ⟨#[]⟩, .slice none 0 0, .slice none 0 0] 126)).alloc (.cells #[.bool false, .bool false, .bool false] 4) = U := ⟨_, rfl⟩
  refine bodyPost_ret (v := .agg #[.int .i64 1, .slice (some ⟨w.heap.size + 1, 0, none⟩) 1 1, .slice (some ⟨w.heap.size + 1 + 1, 0, none⟩) 1 1, .slice none 0 0, .slice none 0 0, .slice none 0 0, .int .i64 0, .slice (some ⟨w.heap.size + 1 + 1 + 1, 0, none⟩) 3 3, .slice none 0 0]) (by simp [results, Try.results18, go_sem]) rfl ?_
  rw [hU]
  have hz : U.heap.size = w.heap.size + 4 := by rw [← hU]; simp
  have r0 : U.cell? ⟨w.heap.size + 1, 0, none⟩ = some (.string ⟨#[]⟩) := by rw [← hU]; simp [go_sem]
  have r1 : U.cell? ⟨w.heap.size + 1, 1, none⟩ = some (.int .i64 0) := by rw [← hU]; simp [go_sem]
  have fr : ∀ i, U.frozen? ⟨w.heap.size + 1, i, none⟩ = false := fun i => by rw [← hU]; simp [go_sem]
  refine ⟨w.heap.size + 1, w.heap.size + 1 + 1, w.heap.size + 1 + 1 + 1, rfl, ⟨⟨.inr ⟨w.heap.size + 1, 0, rfl, by omega, fun i h => ?_⟩, .inr ⟨w.heap.size + 1, 0, rfl, by omega, fun i h => ?_⟩, (fun b off e => by cases e; exact ⟨by omega, by omega⟩), Nat.le_refl _⟩, by rw [← hU]; simp [go_sem], by rw [← hU]; simp [go_sem], by rw [← hU]; simp [go_sem], by rw [← hU]; simp [go_sem], by rw [← hU]; simp [go_sem], by rw [← hU]; simp [go_sem], by rw [← hU]; simp [go_sem], by rw [← hU]; simp [go_sem], by rw [← hU]; simp [go_sem], by rw [← hU]; simp [go_sem], by rw [← hU]; simp [go_sem], by rw [← hU]; simp [go_sem], ⟨by omega, by omega⟩, ⟨by omega, by omega⟩, by omega, by omega, by omega⟩, by rw [← hU]; exact ((((Below.refl _ _).alloc (Nat.le_refl _) _).alloc (by simp) _).alloc (by simp; omega) _).alloc (by simp; omega) _⟩
  · obtain rfl : i = 0 := by simp [wRows] at h; omega
    exact ⟨by simpa [wRows] using r0, by simpa [wRows] using r1⟩
  · refine ⟨?_, by simpa using fr i⟩
    have : i = 0 ∨ i = 1 := by simp [wRows] at h; omega
    rcases this with rfl | rfl
    · exact ⟨_, by simpa using r0⟩
    · exact ⟨_, by simpa using r1⟩
end Go.Proofs.Ytncipibjlpfkhaa
