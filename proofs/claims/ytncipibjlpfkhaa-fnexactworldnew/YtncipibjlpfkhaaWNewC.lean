/- The new world: worlds as they lie in memory; equality, marks; the two functions. -/
import Derived.Test.YtncipibjlpfkhaaWNewB
namespace Go.Proofs.Ytncipibjlpfkhaa
open Go.RowKit

/-- A world of one row, one part without keys, and three bools: where it lies. -/
structure WAt (w : World) (lo hi g1 g2 g3 : Nat) (rs : List RowD) (l h : ByteArray) (x0 x1 x2 : Bool) : Prop where
  pm : PmAt w lo hi (some ⟨g1, 0, none⟩) rs
  p0 : w.cell? ⟨g2, 0, none⟩ = some (.string l)
  p1 : w.cell? ⟨g2, 1, none⟩ = some (.string h)
  p2 : w.cell? ⟨g2, 2, none⟩ = some (.slice none 0 0)
  p3 : w.cell? ⟨g2, 3, none⟩ = some (.slice none 0 0)
  fp0 : w.frozen? ⟨g2, 0, none⟩ = false
  fp1 : w.frozen? ⟨g2, 1, none⟩ = false
  q0 : w.cell? ⟨g3, 0, none⟩ = some (.bool x0)
  q1 : w.cell? ⟨g3, 1, none⟩ = some (.bool x1)
  q2 : w.cell? ⟨g3, 2, none⟩ = some (.bool x2)
  fq0 : w.frozen? ⟨g3, 0, none⟩ = false
  fq1 : w.frozen? ⟨g3, 1, none⟩ = false
  fq2 : w.frozen? ⟨g3, 2, none⟩ = false
  l2 : lo ≤ g2 ∧ g2 < hi
  l3 : lo ≤ g3 ∧ g3 < hi
  n12 : g1 ≠ g2
  n13 : g1 ≠ g3
  n23 : g2 ≠ g3
theorem WAt.turned {S : Nat → Prop} {w w' : World} {lo hi g1 g2 g3 : Nat} {rs : List RowD} {l h : ByteArray} {x0 x1 x2 : Bool} (W : WAt w lo hi g1 g2 g3 rs l h x0 x1 x2) (hS : ∀ b, lo ≤ b → b < hi → ¬ S b) (ht : Turned S w w') : WAt w' lo hi g1 g2 g3 rs l h x0 x1 x2 := by
  have z2 : g2 < w.heap.size := Nat.lt_of_lt_of_le W.l2.2 W.pm.le
  have z3 : g3 < w.heap.size := Nat.lt_of_lt_of_le W.l3.2 W.pm.le
  have s2 := hS g2 W.l2.1 W.l2.2
  have s3 := hS g3 W.l3.1 W.l3.2
  exact ⟨W.pm.turned hS ht, (ht.cell (p := ⟨g2, 0, none⟩) z2 s2).trans W.p0, (ht.cell (p := ⟨g2, 1, none⟩) z2 s2).trans W.p1, (ht.cell (p := ⟨g2, 2, none⟩) z2 s2).trans W.p2, (ht.cell (p := ⟨g2, 3, none⟩) z2 s2).trans W.p3, (ht.frozen (p := ⟨g2, 0, none⟩) z2 s2).trans W.fp0, (ht.frozen (p := ⟨g2, 1, none⟩) z2 s2).trans W.fp1,
    (ht.cell (p := ⟨g3, 0, none⟩) z3 s3).trans W.q0, (ht.cell (p := ⟨g3, 1, none⟩) z3 s3).trans W.q1, (ht.cell (p := ⟨g3, 2, none⟩) z3 s3).trans W.q2, (ht.frozen (p := ⟨g3, 0, none⟩) z3 s3).trans W.fq0, (ht.frozen (p := ⟨g3, 1, none⟩) z3 s3).trans W.fq1, (ht.frozen (p := ⟨g3, 2, none⟩) z3 s3).trans W.fq2, W.l2, W.l3, W.n12, W.n13, W.n23⟩
theorem WAt.below {w w' : World} {lo hi g1 g2 g3 : Nat} {rs : List RowD} {l h : ByteArray} {x0 x1 x2 : Bool} (W : WAt w lo hi g1 g2 g3 rs l h x0 x1 x2) (hb : Below w.heap.size w w') : WAt w' lo hi g1 g2 g3 rs l h x0 x1 x2 := W.turned (S := fun _ => False) (fun _ _ _ q => q) (Turned.of_below hb)

/-- .. marked. -/
structure WM (w : World) (lo hi g1 g2 g3 : Nat) (rs : List RowD) (l h : ByteArray) (x0 x1 x2 : Bool) : Prop where
  pm : PmAt w lo hi (some ⟨g1, 0, none⟩) rs
  p0 : w.cell? ⟨g2, 0, none⟩ = some (.string l)
  p1 : w.cell? ⟨g2, 1, none⟩ = some (.string h)
  p2 : w.cell? ⟨g2, 2, none⟩ = some (.slice none 0 0)
  p3 : w.cell? ⟨g2, 3, none⟩ = some (.slice none 0 0)
  q0 : w.cell? ⟨g3, 0, none⟩ = some (.bool x0)
  q1 : w.cell? ⟨g3, 1, none⟩ = some (.bool x1)
  q2 : w.cell? ⟨g3, 2, none⟩ = some (.bool x2)
  l2 : lo ≤ g2 ∧ g2 < hi
  l3 : lo ≤ g3 ∧ g3 < hi
theorem WM.below {w w' : World} {lo hi g1 g2 g3 : Nat} {rs : List RowD} {l h : ByteArray} {x0 x1 x2 : Bool} (W : WM w lo hi g1 g2 g3 rs l h x0 x1 x2) (hb : Below w.heap.size w w') : WM w' lo hi g1 g2 g3 rs l h x0 x1 x2 := by
  have z2 : g2 < w.heap.size := Nat.lt_of_lt_of_le W.l2.2 W.pm.le
  have z3 : g3 < w.heap.size := Nat.lt_of_lt_of_le W.l3.2 W.pm.le
  exact ⟨W.pm.below hb, (hb.cell (p := ⟨g2, 0, none⟩) z2).trans W.p0, (hb.cell (p := ⟨g2, 1, none⟩) z2).trans W.p1, (hb.cell (p := ⟨g2, 2, none⟩) z2).trans W.p2, (hb.cell (p := ⟨g2, 3, none⟩) z2).trans W.p3, (hb.cell (p := ⟨g3, 0, none⟩) z3).trans W.q0, (hb.cell (p := ⟨g3, 1, none⟩) z3).trans W.q1, (hb.cell (p := ⟨g3, 2, none⟩) z3).trans W.q2, W.l2, W.l3⟩

def wRows : List RowD := [⟨⟨#[]⟩, 0⟩]
def NewW (w : World) (lo hi g1 g2 g3 : Nat) : Prop := WAt w lo hi g1 g2 g3 wRows ⟨#[]⟩ ⟨#[]⟩ false false false
def MarkW (w : World) (lo hi g1 g2 g3 : Nat) : Prop := WM w lo hi g1 g2 g3 (Rowmarks 1 1) (mtext 3) (mtext 4) (mb 5) (mb 6) (mb 7)

set_option maxRecDepth 100000 in
set_option maxHeartbeats 4000000 in
theorem eqWorld_at {a1 a2 a3 b1 b2 b3 lo hi lo' hi' : Nat} {w : World} (ha : NewW w lo hi a1 a2 a3) (hb : NewW w lo' hi' b1 b2 b3) :
    Calls Try.prog 19 #[.agg #[.int .i64 1, .slice (some ⟨a1, 0, none⟩) 1 1, .slice (some ⟨a2, 0, none⟩) 1 1, .slice none 0 0, .slice none 0 0, .slice none 0 0, .int .i64 0, .slice (some ⟨a3, 0, none⟩) 3 3, .slice none 0 0], .agg #[.int .i64 1, .slice (some ⟨b1, 0, none⟩) 1 1, .slice (some ⟨b2, 0, none⟩) 1 1, .slice none 0 0, .slice none 0 0, .slice none 0 0, .int .i64 0, .slice (some ⟨b3, 0, none⟩) 3 3, .slice none 0 0]] w fun e w' => e = .returned (.bool true) ∧ Below w.heap.size w w' := by
  have HA := Lib.hid ha
  have HBB := Lib.hid hb
  clear ha hb
  obtain ⟨W1, hW1⟩ : ∃ W1, (w.alloc (.cells #[.int .i64 1, .slice (some ⟨a1, 0, none⟩) 1 1, .slice (some ⟨a2, 0, none⟩) 1 1, .slice none 0 0, .slice none 0 0, .slice none 0 0, .int .i64 0, .slice (some ⟨a3, 0, none⟩) 3 3, .slice none 0 0] 37)).alloc (.cells #[.int .i64 1, .slice (some ⟨b1, 0, none⟩) 1 1, .slice (some ⟨b2, 0, none⟩) 1 1, .slice none 0 0, .slice none 0 0, .slice none 0 0, .int .i64 0, .slice (some ⟨b3, 0, none⟩) 3 3, .slice none 0 0] 37) = W1 := ⟨_, rfl⟩
  have HB : Below w.heap.size w W1 := by rw [← hW1]; exact ((Below.refl _ _).alloc (Nat.le_refl _) _).alloc (by simp) _
  have zka : w.heap.size < W1.heap.size := by rw [← hW1]; simp <;> omega
  have ka0 : W1.cell? ⟨w.heap.size, 0, none⟩ = some (.int .i64 1) := by rw [← hW1]; simp [go_sem]
  have ka1 : W1.cell? ⟨w.heap.size, 1, none⟩ = some (.slice (some ⟨a1, 0, none⟩) 1 1) := by rw [← hW1]; simp [go_sem]
  have ka2 : W1.cell? ⟨w.heap.size, 2, none⟩ = some (.slice (some ⟨a2, 0, none⟩) 1 1) := by rw [← hW1]; simp [go_sem]
  have ka3 : W1.cell? ⟨w.heap.size, 3, none⟩ = some (.slice none 0 0) := by rw [← hW1]; simp [go_sem]
  have ka4 : W1.cell? ⟨w.heap.size, 4, none⟩ = some (.slice none 0 0) := by rw [← hW1]; simp [go_sem]
  have ka5 : W1.cell? ⟨w.heap.size, 5, none⟩ = some (.slice none 0 0) := by rw [← hW1]; simp [go_sem]
  have ka6 : W1.cell? ⟨w.heap.size, 6, none⟩ = some (.int .i64 0) := by rw [← hW1]; simp [go_sem]
  have ka7 : W1.cell? ⟨w.heap.size, 7, none⟩ = some (.slice (some ⟨a3, 0, none⟩) 3 3) := by rw [← hW1]; simp [go_sem]
  have ka8 : W1.cell? ⟨w.heap.size, 8, none⟩ = some (.slice none 0 0) := by rw [← hW1]; simp [go_sem]
  have zkb : w.heap.size + 1 < W1.heap.size := by rw [← hW1]; simp
  have kb0 : W1.cell? ⟨w.heap.size + 1, 0, none⟩ = some (.int .i64 1) := by rw [← hW1]; simp [go_sem]
  have kb1 : W1.cell? ⟨w.heap.size + 1, 1, none⟩ = some (.slice (some ⟨b1, 0, none⟩) 1 1) := by rw [← hW1]; simp [go_sem]
  have kb2 : W1.cell? ⟨w.heap.size + 1, 2, none⟩ = some (.slice (some ⟨b2, 0, none⟩) 1 1) := by rw [← hW1]; simp [go_sem]
  have kb3 : W1.cell? ⟨w.heap.size + 1, 3, none⟩ = some (.slice none 0 0) := by rw [← hW1]; simp [go_sem]
  have kb4 : W1.cell? ⟨w.heap.size + 1, 4, none⟩ = some (.slice none 0 0) := by rw [← hW1]; simp [go_sem]
  have kb5 : W1.cell? ⟨w.heap.size + 1, 5, none⟩ = some (.slice none 0 0) := by rw [← hW1]; simp [go_sem]
  have kb6 : W1.cell? ⟨w.heap.size + 1, 6, none⟩ = some (.int .i64 0) := by rw [← hW1]; simp [go_sem]
  have kb7 : W1.cell? ⟨w.heap.size + 1, 7, none⟩ = some (.slice (some ⟨b3, 0, none⟩) 3 3) := by rw [← hW1]; simp [go_sem]
  have kb8 : W1.cell? ⟨w.heap.size + 1, 8, none⟩ = some (.slice none 0 0) := by rw [← hW1]; simp [go_sem]
  have HB := Lib.hid HB
  go_enter Try.func19, Try.ntmps19
  go_wp2_with fail
  clear hW1
  refine (eqPmap_same 1 _ _ wRows 1 1 1 _ rfl (HA.out.below HB.out).pm.in1 (HBB.out.below HB.out).pm.in1 (by unfold maxLen; omega)).mono ?_
  rintro e w2 ⟨rfl, hb⟩
  have ka0 := (hb.cell (p := ⟨w.heap.size, 0, none⟩) zka).trans ka0
  have ka1 := (hb.cell (p := ⟨w.heap.size, 1, none⟩) zka).trans ka1
  have ka2 := (hb.cell (p := ⟨w.heap.size, 2, none⟩) zka).trans ka2
  have ka3 := (hb.cell (p := ⟨w.heap.size, 3, none⟩) zka).trans ka3
  have ka4 := (hb.cell (p := ⟨w.heap.size, 4, none⟩) zka).trans ka4
  have ka5 := (hb.cell (p := ⟨w.heap.size, 5, none⟩) zka).trans ka5
  have ka6 := (hb.cell (p := ⟨w.heap.size, 6, none⟩) zka).trans ka6
  have ka7 := (hb.cell (p := ⟨w.heap.size, 7, none⟩) zka).trans ka7
  have ka8 := (hb.cell (p := ⟨w.heap.size, 8, none⟩) zka).trans ka8
  have kb0 := (hb.cell (p := ⟨w.heap.size + 1, 0, none⟩) zkb).trans kb0
  have kb1 := (hb.cell (p := ⟨w.heap.size + 1, 1, none⟩) zkb).trans kb1
  have kb2 := (hb.cell (p := ⟨w.heap.size + 1, 2, none⟩) zkb).trans kb2
  have kb3 := (hb.cell (p := ⟨w.heap.size + 1, 3, none⟩) zkb).trans kb3
  have kb4 := (hb.cell (p := ⟨w.heap.size + 1, 4, none⟩) zkb).trans kb4
  have kb5 := (hb.cell (p := ⟨w.heap.size + 1, 5, none⟩) zkb).trans kb5
  have kb6 := (hb.cell (p := ⟨w.heap.size + 1, 6, none⟩) zkb).trans kb6
  have kb7 := (hb.cell (p := ⟨w.heap.size + 1, 7, none⟩) zkb).trans kb7
  have kb8 := (hb.cell (p := ⟨w.heap.size + 1, 8, none⟩) zkb).trans kb8
  have zka : w.heap.size < w2.heap.size := Nat.lt_of_lt_of_le zka hb.size
  have zkb : w.heap.size + 1 < w2.heap.size := Nat.lt_of_lt_of_le zkb hb.size
  have HB := Lib.hid (show Below w.heap.size w w2 by first | (with_reducible exact HB.out.trans (hb.mono HB.out.size)) | (with_reducible exact HB.out.drew.trans (hb.mono HB.out.drew.size)))
  clear hb
  go_wp2_with fail
  refine (eqPartS1 a2 b2 _ (HA.out.below HB.out).p0 (HA.out.below HB.out).p1 (HA.out.below HB.out).p2 (HA.out.below HB.out).p3 (HBB.out.below HB.out).p0 (HBB.out.below HB.out).p1 (HBB.out.below HB.out).p2 (HBB.out.below HB.out).p3).mono ?_
  rintro e w3 ⟨rfl, hb⟩
  have ka0 := (hb.cell (p := ⟨w.heap.size, 0, none⟩) zka).trans ka0
  have ka1 := (hb.cell (p := ⟨w.heap.size, 1, none⟩) zka).trans ka1
  have ka2 := (hb.cell (p := ⟨w.heap.size, 2, none⟩) zka).trans ka2
  have ka3 := (hb.cell (p := ⟨w.heap.size, 3, none⟩) zka).trans ka3
  have ka4 := (hb.cell (p := ⟨w.heap.size, 4, none⟩) zka).trans ka4
  have ka5 := (hb.cell (p := ⟨w.heap.size, 5, none⟩) zka).trans ka5
  have ka6 := (hb.cell (p := ⟨w.heap.size, 6, none⟩) zka).trans ka6
  have ka7 := (hb.cell (p := ⟨w.heap.size, 7, none⟩) zka).trans ka7
  have ka8 := (hb.cell (p := ⟨w.heap.size, 8, none⟩) zka).trans ka8
  have kb0 := (hb.cell (p := ⟨w.heap.size + 1, 0, none⟩) zkb).trans kb0
  have kb1 := (hb.cell (p := ⟨w.heap.size + 1, 1, none⟩) zkb).trans kb1
  have kb2 := (hb.cell (p := ⟨w.heap.size + 1, 2, none⟩) zkb).trans kb2
  have kb3 := (hb.cell (p := ⟨w.heap.size + 1, 3, none⟩) zkb).trans kb3
  have kb4 := (hb.cell (p := ⟨w.heap.size + 1, 4, none⟩) zkb).trans kb4
  have kb5 := (hb.cell (p := ⟨w.heap.size + 1, 5, none⟩) zkb).trans kb5
  have kb6 := (hb.cell (p := ⟨w.heap.size + 1, 6, none⟩) zkb).trans kb6
  have kb7 := (hb.cell (p := ⟨w.heap.size + 1, 7, none⟩) zkb).trans kb7
  have kb8 := (hb.cell (p := ⟨w.heap.size + 1, 8, none⟩) zkb).trans kb8
  have zka : w.heap.size < w3.heap.size := Nat.lt_of_lt_of_le zka hb.size
  have zkb : w.heap.size + 1 < w3.heap.size := Nat.lt_of_lt_of_le zkb hb.size
  have HB := Lib.hid (show Below w.heap.size w w3 by first | (with_reducible exact HB.out.trans (hb.mono HB.out.size)) | (with_reducible exact HB.out.drew.trans (hb.mono HB.out.drew.size)))
  clear hb
  go_wp2_with fail
  refine (eq0_StateS _).mono ?_
  rintro e w4 ⟨rfl, rfl⟩
  go_wp2_with fail
  refine (eq0_LetterS _).mono ?_
  rintro e w5 ⟨rfl, rfl⟩
  go_wp2_with fail
  refine (eq0_EntryS _).mono ?_
  rintro e w6 ⟨rfl, rfl⟩
  go_wp2_with fail
  refine (eqBool3 a3 b3 false false false _ (HA.out.below HB.out).q0 (HA.out.below HB.out).q1 (HA.out.below HB.out).q2 (HBB.out.below HB.out).q0 (HBB.out.below HB.out).q1 (HBB.out.below HB.out).q2).mono ?_
  rintro e w7 ⟨rfl, hb⟩
  have ka0 := (hb.cell (p := ⟨w.heap.size, 0, none⟩) zka).trans ka0
  have ka1 := (hb.cell (p := ⟨w.heap.size, 1, none⟩) zka).trans ka1
  have ka2 := (hb.cell (p := ⟨w.heap.size, 2, none⟩) zka).trans ka2
  have ka3 := (hb.cell (p := ⟨w.heap.size, 3, none⟩) zka).trans ka3
  have ka4 := (hb.cell (p := ⟨w.heap.size, 4, none⟩) zka).trans ka4
  have ka5 := (hb.cell (p := ⟨w.heap.size, 5, none⟩) zka).trans ka5
  have ka6 := (hb.cell (p := ⟨w.heap.size, 6, none⟩) zka).trans ka6
  have ka7 := (hb.cell (p := ⟨w.heap.size, 7, none⟩) zka).trans ka7
  have ka8 := (hb.cell (p := ⟨w.heap.size, 8, none⟩) zka).trans ka8
  have kb0 := (hb.cell (p := ⟨w.heap.size + 1, 0, none⟩) zkb).trans kb0
  have kb1 := (hb.cell (p := ⟨w.heap.size + 1, 1, none⟩) zkb).trans kb1
  have kb2 := (hb.cell (p := ⟨w.heap.size + 1, 2, none⟩) zkb).trans kb2
  have kb3 := (hb.cell (p := ⟨w.heap.size + 1, 3, none⟩) zkb).trans kb3
  have kb4 := (hb.cell (p := ⟨w.heap.size + 1, 4, none⟩) zkb).trans kb4
  have kb5 := (hb.cell (p := ⟨w.heap.size + 1, 5, none⟩) zkb).trans kb5
  have kb6 := (hb.cell (p := ⟨w.heap.size + 1, 6, none⟩) zkb).trans kb6
  have kb7 := (hb.cell (p := ⟨w.heap.size + 1, 7, none⟩) zkb).trans kb7
  have kb8 := (hb.cell (p := ⟨w.heap.size + 1, 8, none⟩) zkb).trans kb8
  have zka : w.heap.size < w7.heap.size := Nat.lt_of_lt_of_le zka hb.size
  have zkb : w.heap.size + 1 < w7.heap.size := Nat.lt_of_lt_of_le zkb hb.size
  have HB := Lib.hid (show Below w.heap.size w w7 by first | (with_reducible exact HB.out.trans (hb.mono HB.out.size)) | (with_reducible exact HB.out.drew.trans (hb.mono HB.out.drew.size)))
  clear hb
  go_wp2_with fail
  refine (eq0_ReadS _).mono ?_
  rintro e w8 ⟨rfl, rfl⟩
  go_wp2_with fail
  go_ret
  exact ⟨rfl, HB.out⟩

set_option maxRecDepth 100000 in
set_option maxHeartbeats 4000000 in
theorem heldWorld_at {a1 a2 a3 lo hi : Nat} {w : World} (ha : MarkW w lo hi a1 a2 a3) :
    Calls Try.prog 21 #[.agg #[.int .i64 1, .slice (some ⟨a1, 0, none⟩) 1 1, .slice (some ⟨a2, 0, none⟩) 1 1, .slice none 0 0, .slice none 0 0, .slice none 0 0, .int .i64 0, .slice (some ⟨a3, 0, none⟩) 3 3, .slice none 0 0], .int .i64 1] w fun e w' => e = .returned (.int .i64 8) ∧ Below w.heap.size w w' := by
  have HA := Lib.hid ha
  clear ha
  obtain ⟨W1, hW1⟩ : ∃ W1, w.alloc (.cells #[.int .i64 1, .slice (some ⟨a1, 0, none⟩) 1 1, .slice (some ⟨a2, 0, none⟩) 1 1, .slice none 0 0, .slice none 0 0, .slice none 0 0, .int .i64 0, .slice (some ⟨a3, 0, none⟩) 3 3, .slice none 0 0] 37) = W1 := ⟨_, rfl⟩
  have HB : Below w.heap.size w W1 := by rw [← hW1]; exact (Below.refl _ _).alloc (Nat.le_refl _) _
  have zka : w.heap.size < W1.heap.size := by rw [← hW1]; simp
  have ka0 : W1.cell? ⟨w.heap.size, 0, none⟩ = some (.int .i64 1) := by rw [← hW1]; simp [go_sem]
  have ka1 : W1.cell? ⟨w.heap.size, 1, none⟩ = some (.slice (some ⟨a1, 0, none⟩) 1 1) := by rw [← hW1]; simp [go_sem]
  have ka2 : W1.cell? ⟨w.heap.size, 2, none⟩ = some (.slice (some ⟨a2, 0, none⟩) 1 1) := by rw [← hW1]; simp [go_sem]
  have ka3 : W1.cell? ⟨w.heap.size, 3, none⟩ = some (.slice none 0 0) := by rw [← hW1]; simp [go_sem]
  have ka4 : W1.cell? ⟨w.heap.size, 4, none⟩ = some (.slice none 0 0) := by rw [← hW1]; simp [go_sem]
  have ka5 : W1.cell? ⟨w.heap.size, 5, none⟩ = some (.slice none 0 0) := by rw [← hW1]; simp [go_sem]
  have ka6 : W1.cell? ⟨w.heap.size, 6, none⟩ = some (.int .i64 0) := by rw [← hW1]; simp [go_sem]
  have ka7 : W1.cell? ⟨w.heap.size, 7, none⟩ = some (.slice (some ⟨a3, 0, none⟩) 3 3) := by rw [← hW1]; simp [go_sem]
  have ka8 : W1.cell? ⟨w.heap.size, 8, none⟩ = some (.slice none 0 0) := by rw [← hW1]; simp [go_sem]
  have HB := Lib.hid HB
  go_enter Try.func21, Try.ntmps21
  go_wp2_with fail
  clear hW1
  refine (heldPmap_any 1 _ 1 1 1 _ (HA.out.below HB.out).pm.in1 (by omega) (by omega)).mono ?_
  rintro e w2 ⟨rfl, hb⟩
  have ka0 := (hb.cell (p := ⟨w.heap.size, 0, none⟩) zka).trans ka0
  have ka1 := (hb.cell (p := ⟨w.heap.size, 1, none⟩) zka).trans ka1
  have ka2 := (hb.cell (p := ⟨w.heap.size, 2, none⟩) zka).trans ka2
  have ka3 := (hb.cell (p := ⟨w.heap.size, 3, none⟩) zka).trans ka3
  have ka4 := (hb.cell (p := ⟨w.heap.size, 4, none⟩) zka).trans ka4
  have ka5 := (hb.cell (p := ⟨w.heap.size, 5, none⟩) zka).trans ka5
  have ka6 := (hb.cell (p := ⟨w.heap.size, 6, none⟩) zka).trans ka6
  have ka7 := (hb.cell (p := ⟨w.heap.size, 7, none⟩) zka).trans ka7
  have ka8 := (hb.cell (p := ⟨w.heap.size, 8, none⟩) zka).trans ka8
  have zka : w.heap.size < w2.heap.size := Nat.lt_of_lt_of_le zka hb.size
  have HB := Lib.hid (show Below w.heap.size w w2 by first | (with_reducible exact HB.out.trans (hb.mono HB.out.size)) | (with_reducible exact HB.out.drew.trans (hb.mono HB.out.drew.size)))
  clear hb
  go_wp2_with fail
  refine (heldPartS1 a2 3 _ (HA.out.below HB.out).p0 (HA.out.below HB.out).p1 (HA.out.below HB.out).p2 (HA.out.below HB.out).p3 (by omega) (by omega)).mono ?_
  rintro e w3 ⟨rfl, hb⟩
  have ka0 := (hb.cell (p := ⟨w.heap.size, 0, none⟩) zka).trans ka0
  have ka1 := (hb.cell (p := ⟨w.heap.size, 1, none⟩) zka).trans ka1
  have ka2 := (hb.cell (p := ⟨w.heap.size, 2, none⟩) zka).trans ka2
  have ka3 := (hb.cell (p := ⟨w.heap.size, 3, none⟩) zka).trans ka3
  have ka4 := (hb.cell (p := ⟨w.heap.size, 4, none⟩) zka).trans ka4
  have ka5 := (hb.cell (p := ⟨w.heap.size, 5, none⟩) zka).trans ka5
  have ka6 := (hb.cell (p := ⟨w.heap.size, 6, none⟩) zka).trans ka6
  have ka7 := (hb.cell (p := ⟨w.heap.size, 7, none⟩) zka).trans ka7
  have ka8 := (hb.cell (p := ⟨w.heap.size, 8, none⟩) zka).trans ka8
  have zka : w.heap.size < w3.heap.size := Nat.lt_of_lt_of_le zka hb.size
  have HB := Lib.hid (show Below w.heap.size w w3 by first | (with_reducible exact HB.out.trans (hb.mono HB.out.size)) | (with_reducible exact HB.out.drew.trans (hb.mono HB.out.drew.size)))
  clear hb
  go_wp2_with fail
  refine (held0_StateS _ _).mono ?_
  rintro e w4 ⟨rfl, rfl⟩
  go_wp2_with fail
  refine (held0_LetterS _ _).mono ?_
  rintro e w5 ⟨rfl, rfl⟩
  go_wp2_with fail
  refine (held0_EntryS _ _).mono ?_
  rintro e w6 ⟨rfl, rfl⟩
  go_wp2_with fail
  refine (heldBool3 a3 5 _ (HA.out.below HB.out).q0 (HA.out.below HB.out).q1 (HA.out.below HB.out).q2 (by omega)).mono ?_
  rintro e w7 ⟨rfl, hb⟩
  have ka0 := (hb.cell (p := ⟨w.heap.size, 0, none⟩) zka).trans ka0
  have ka1 := (hb.cell (p := ⟨w.heap.size, 1, none⟩) zka).trans ka1
  have ka2 := (hb.cell (p := ⟨w.heap.size, 2, none⟩) zka).trans ka2
  have ka3 := (hb.cell (p := ⟨w.heap.size, 3, none⟩) zka).trans ka3
  have ka4 := (hb.cell (p := ⟨w.heap.size, 4, none⟩) zka).trans ka4
  have ka5 := (hb.cell (p := ⟨w.heap.size, 5, none⟩) zka).trans ka5
  have ka6 := (hb.cell (p := ⟨w.heap.size, 6, none⟩) zka).trans ka6
  have ka7 := (hb.cell (p := ⟨w.heap.size, 7, none⟩) zka).trans ka7
  have ka8 := (hb.cell (p := ⟨w.heap.size, 8, none⟩) zka).trans ka8
  have zka : w.heap.size < w7.heap.size := Nat.lt_of_lt_of_le zka hb.size
  have HB := Lib.hid (show Below w.heap.size w w7 by first | (with_reducible exact HB.out.trans (hb.mono HB.out.size)) | (with_reducible exact HB.out.drew.trans (hb.mono HB.out.drew.size)))
  clear hb
  go_wp2_with fail
  refine (held0_ReadS _ _).mono ?_
  rintro e w8 ⟨rfl, rfl⟩
  go_wp2_with fail
  go_ret
  exact ⟨rfl, HB.out⟩
end Go.Proofs.Ytncipibjlpfkhaa
