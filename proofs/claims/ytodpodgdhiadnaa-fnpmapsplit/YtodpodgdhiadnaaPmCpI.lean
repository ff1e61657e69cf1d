/- Copies of rows, as the program makes them. -/
import Derived.Test.YtodpodgdhiadnaaPmapMergeS
namespace Go.Proofs.Ytodpodgdhiadnaa
open Go.RowKit

theorem eqNilRow (b o n c : Nat) (w : World) : (binOp .eql 78 (.slice (some ⟨b, o, none⟩) n c) (.slice none 0 0)).run Try.prog w = .ok (.bool false) w := by first | kernel_rfl | rfl | (simp [binOp, go_sem]; done)

set_option maxRecDepth 100000 in
set_option maxHeartbeats 1000000 in
theorem cloneRow_any (a : Option Addr) (vs : List RowD) (cap : Nat) (w : World) (hv : RowsIn w a vs) (h0 : 0 < vs.length) (hlen : vs.length ≤ 1048576) :
    Calls Try.prog 209 #[.slice a vs.length cap] w fun e w' => ∃ g cp, e = .returned (.slice (some ⟨g, 0, none⟩) vs.length cp) ∧ w'.ownsRow w.heap.size 102 2 (.slice (some ⟨g, 0, none⟩) vs.length cp) vs.length (vs.flatMap rowCells) ∧ Below w.heap.size w w' := by
  rcases hv with hnil | ⟨b1, o1, rfl, hb1, hc1⟩
  · rw [hnil] at h0; simp at h0
  have HD := Lib.hid (fun (u : World) (hu : Below w.heap.size w u) => rows_news (w := u) (b := b1) (off := o1) (vs := vs) (fun i h => ⟨(hu.cell (p := ⟨b1, o1 + i * 2, none⟩) hb1).trans (hc1 i h).1, (hu.cell (p := ⟨b1, o1 + i * 2 + 1, none⟩) hb1).trans (hc1 i h).2⟩))
  clear hc1
  have hnl := eqNilRow b1 o1
  obtain ⟨i0, hi, hz0, hz1, hz2⟩ := info_parts infoRow
  go_enter Try.func209, Try.ntmps209
  go_wp2_with (at_builtin; refine wpList_append_lies _ rfl _ _ 78 rfl w.heap.size 102 i0 (.agg #[.string ⟨#[]⟩, .int .i64 0]) 2 24 Try.underlying78 hi hz0 hz1 hz2 rfl (by decide) _ 0 [] rfl (emptyRows (heap_alloc_new _ _) (Nat.le_refl _)) ⟨b1, o1, none⟩ vs.length cap (vs.flatMap rowCells) rfl (rows_len vs) (HD.out _ ((Below.refl _ _).alloc (Nat.le_refl _) _)) (rows_one _) h0 (by unfold maxLen; omega) (by omega) (by simp) _ rfl ?_; intro g cp w2 hown hgrow hat hlt2; have hbA := below_append1 hgrow; have X := Lib.hid (And.intro hown hbA); clear hown hgrow hat hlt2 hbA)
  go_ret
  obtain ⟨hown, hbA⟩ := X.out
  rw [Nat.zero_add, List.nil_append] at hown
  exact ⟨g, cp, by simp, hown, hbA⟩

/-- A map of parts whose rows the call owns. -/
def OwnPm (ep : Int) (vs : List RowD) (w : World) (e : Ending) (w' : World) : Prop :=
  ∃ g cp, e = .returned (.agg #[.int .i64 ep, .slice (some ⟨g, 0, none⟩) vs.length cp]) ∧ w'.ownsRow (w.heap.size + 2) 102 2 (.slice (some ⟨g, 0, none⟩) vs.length cp) vs.length (vs.flatMap rowCells) ∧ Below w.heap.size w w'

set_option maxRecDepth 100000 in
set_option maxHeartbeats 1000000 in
theorem pmCopied_any (ep : Int) (a : Option Addr) (vs : List RowD) (cap : Nat) (w : World) (hv : RowsIn w a vs) (h0 : 0 < vs.length) (hlen : vs.length ≤ 1048576) :
    Calls Try.prog 147 #[.agg #[.int .i64 ep, .slice a vs.length cap]] w (OwnPm ep vs w) := by
  have HV := Lib.hid hv
  clear hv
  obtain ⟨W1, hW1⟩ : ∃ W1, (w.alloc (.cells #[.int .i64 ep, .slice a vs.length cap] 80)).alloc (.cells #[.int .i64 0, .slice none 0 0] 80) = W1 := ⟨_, rfl⟩
  have B1 : Below w.heap.size w W1 := by rw [← hW1]; exact ((Below.refl _ _).alloc (Nat.le_refl _) _).alloc (by simp) _
  have z1 : w.heap.size + 1 < W1.heap.size := by rw [← hW1]; simp
  have z2 : w.heap.size + 2 ≤ W1.heap.size := by omega
  have c0 : W1.cell? ⟨w.heap.size, 0, none⟩ = some (.int .i64 ep) := by rw [← hW1]; simp [go_sem]
  have c1 : W1.cell? ⟨w.heap.size, 1, none⟩ = some (.slice a vs.length cap) := by rw [← hW1]; simp [go_sem]
  have d0 : W1.cell? ⟨w.heap.size + 1, 0, none⟩ = some (.int .i64 0) := by rw [← hW1]; simp [go_sem]
  have d1 : W1.cell? ⟨w.heap.size + 1, 1, none⟩ = some (.slice none 0 0) := by rw [← hW1]; simp [go_sem]
  have f0 : W1.frozen? ⟨w.heap.size + 1, 0, none⟩ = false := by rw [← hW1]; simp [go_sem]
  have f1 : W1.frozen? ⟨w.heap.size + 1, 1, none⟩ = false := by rw [← hW1]; simp [go_sem]
  have z0 : w.heap.size < W1.heap.size := by omega
  have HB1 := Lib.hid B1
  clear B1
  go_enter Try.func147, Try.ntmps147
  go_wp2_with fail
  clear hW1
  go_region_with (go_at_call 209; refine (cloneRow_any a vs cap _ (HV.out.below HB1.out.drew) h0 hlen).mono ?_; rintro e w2 ⟨g, cp, rfl, hown, hb2⟩; have c0' := (hb2.cell (p := ⟨w.heap.size, 0, none⟩) z0).trans c0; have d0' := (hb2.cell (p := ⟨w.heap.size + 1, 0, none⟩) z1).trans d0; have d1' := (hb2.cell (p := ⟨w.heap.size + 1, 1, none⟩) z1).trans d1; have f0' := (hb2.frozen (p := ⟨w.heap.size + 1, 0, none⟩) z1).trans f0; have f1' := (hb2.frozen (p := ⟨w.heap.size + 1, 1, none⟩) z1).trans f1; have X := Lib.hid (And.intro hown hb2); clear hown hb2)
  all_goals
    go_wp2_with fail
    refine bodyPost_ret (v := .agg #[.int .i64 ep, .slice (some ⟨g, 0, none⟩) vs.length cp]) (by simp [results, Try.results147, go_sem, d0', d1']) rfl ?_
    obtain ⟨hown, hb2⟩ := X.out
    have hown' : w2.ownsRow (w.heap.size + 2) 102 2 (.slice (some ⟨g, 0, none⟩) vs.length cp) vs.length (vs.flatMap rowCells) := Joins.ownsRow_le hown z2
    exact ⟨g, cp, rfl, ownsRow_setCell_below (ownsRow_setCell_below hown' (by simp) _) (by simp) _, ((HB1.out.drew.trans (hb2.mono HB1.out.size)).setCell (p := ⟨w.heap.size + 1, 0, none⟩) (by simp) _).setCell (p := ⟨w.heap.size + 1, 1, none⟩) (by simp) _⟩

set_option maxHeartbeats 400000 in
theorem pmChanged_any (ep : Int) (a b : Option Addr) (n cap m c : Nat) (w : World) (h0 : 0 ≤ ep) (h1 : ep ≤ 99) :
    Calls Try.prog 148 #[.agg #[.int .i64 ep, .slice a n cap], .slice b m c] w fun e w' => e = .returned (.agg #[.int .i64 (ep + 1), .slice b m c]) ∧ Below w.heap.size w w' := by
  go_enter Try.func148, Try.ntmps148
  go_wp2_with fail
  exact bodyPost_ret (v := .agg #[.int .i64 (ep + 1), .slice b m c]) (by simp [results, Try.results148, go_sem]) rfl ⟨rfl, ((Below.refl _ _).alloc (Nat.le_refl _) _).alloc (by simp) _⟩
end Go.Proofs.Ytodpodgdhiadnaa
