/- A row parted, as the model makes it. -/
import Derived.Test.YtjijichgoodocaaPmSpS
import Derived.Deep.Cut
namespace Go.Proofs.Ytjijichgoodocaa
open Go.RowKit

theorem news2 (w : World) (x y : Value) (t : TypeId) (g : Nat) (hg : w.heap.size = g) : ∀ j u, [x, y][j]? = some u → (w.alloc (.cells #[x, y] t)).cell? ((⟨g, 0, none⟩ : Addr).add j) = some u := by
  subst hg
  exact World.news_of_block (heap_alloc_new w _)
theorem split_cells {vs : List RowD} {key : ByteArray} {node : Int} {k : Nat} : (splitAt vs key node k).flatMap rowCells = (vs.take (k + 1)).flatMap rowCells ++ [.string key, .int .i64 node] ++ (vs.drop (k + 1)).flatMap rowCells := by
  simp [splitAt, rowCells, List.flatMap_append, List.flatMap_cons]

set_option maxRecDepth 100000 in
set_option maxHeartbeats 2000000 in
theorem l5Split_any (ep : Int) (a : Option Addr) (vs : List RowD) (cap k : Nat) (key : ByteArray) (node : Int) (w : World) (hv : RowsIn w a vs) (hF : FindAt vs key k) (hcap : vs.length ≤ cap) (hcm : cap ≤ maxLen) (hep : 0 ≤ ep) (hep2 : ep ≤ 99) (hlen : vs.length ≤ 1048576) :
    Calls Try.prog 168 #[.agg #[.int .i64 ep, .slice a vs.length cap], .string key, .int .i64 node] w (PmOut (ep + 1) (splitAt vs key node k) w) := by
  have hk := hF.1.1
  have HF := Lib.hid hF
  clear hF
  rcases hv with hnil | ⟨b1, o1, rfl, hb1, hc1⟩
  · rw [hnil] at hk; simp at hk
  unfold maxLen at hcm
  have HC := Lib.hid hc1
  have HV := Lib.hid (show RowsIn w (some ⟨b1, o1, none⟩) vs from .inr ⟨b1, o1, rfl, hb1, hc1⟩)
  clear hc1
  obtain ⟨i0, hi, hz0, hz1, hz2⟩ := info_parts infoRow
  obtain ⟨W0, hW0⟩ : ∃ W0, (w.alloc (.cells #[.int .i64 ep, .slice (some ⟨b1, o1, none⟩) vs.length cap] 90)).alloc (.cells #[.int .i64 0, .slice none 0 0] 90) = W0 := ⟨_, rfl⟩
  have B0 : Below w.heap.size w W0 := by rw [← hW0]; exact ((Below.refl _ _).alloc (Nat.le_refl _) _).alloc (by simp) _
  have y1 : w.heap.size + 1 < W0.heap.size := by rw [← hW0]; simp
  have e0 : W0.cell? ⟨w.heap.size, 0, none⟩ = some (.int .i64 ep) := by rw [← hW0]; simp [go_sem]
  have e1 : W0.cell? ⟨w.heap.size, 1, none⟩ = some (.slice (some ⟨b1, o1, none⟩) vs.length cap) := by rw [← hW0]; simp [go_sem]
  have h0 : W0.cell? ⟨w.heap.size + 1, 0, none⟩ = some (.int .i64 0) := by rw [← hW0]; simp [go_sem]
  have h1 : W0.cell? ⟨w.heap.size + 1, 1, none⟩ = some (.slice none 0 0) := by rw [← hW0]; simp [go_sem]
  have j0 : W0.frozen? ⟨w.heap.size + 1, 0, none⟩ = false := by rw [← hW0]; simp [go_sem]
  have j1 : W0.frozen? ⟨w.heap.size + 1, 1, none⟩ = false := by rw [← hW0]; simp [go_sem]
  have y0 : w.heap.size < W0.heap.size := by omega
  have HB0 := Lib.hid B0
  clear B0
  go_enter Try.func168, Try.ntmps168
  go_wp2_with fail
  clear hW0
  refine (l5Find_is HF.out ep _ cap _ (HV.out.below HB0.out) hlen).mono ?_
  rintro e W1 ⟨rfl, hbf⟩
  have B1 : Below w.heap.size w W1 := HB0.out.trans (hbf.mono HB0.out.size)
  have z1 : w.heap.size + 1 < W1.heap.size := Nat.lt_of_lt_of_le y1 hbf.size
  have c0 := (hbf.cell (p := ⟨w.heap.size, 0, none⟩) y0).trans e0
  have c1 := (hbf.cell (p := ⟨w.heap.size, 1, none⟩) y0).trans e1
  have d0 := (hbf.cell (p := ⟨w.heap.size + 1, 0, none⟩) y1).trans h0
  have d1 := (hbf.cell (p := ⟨w.heap.size + 1, 1, none⟩) y1).trans h1
  have f0 := (hbf.frozen (p := ⟨w.heap.size + 1, 0, none⟩) y1).trans j0
  have f1 := (hbf.frozen (p := ⟨w.heap.size + 1, 1, none⟩) y1).trans j1
  have z0 : w.heap.size < W1.heap.size := by omega
  have hb2 : b1 < W1.heap.size := Nat.lt_of_lt_of_le hb1 B1.size
  clear hbf e0 e1 h0 h1 j0 j1 y0 y1
  have HD := Lib.hid (fun (u : World) (hu : Below W1.heap.size W1 u) => (fun i h => ⟨(hu.cell (p := ⟨b1, o1 + i * 2, none⟩) hb2).trans ((B1.cell (p := ⟨b1, o1 + i * 2, none⟩) hb1).trans (HC.out i h).1), (hu.cell (p := ⟨b1, o1 + i * 2 + 1, none⟩) hb2).trans ((B1.cell (p := ⟨b1, o1 + i * 2 + 1, none⟩) hb1).trans (HC.out i h).2)⟩ : ∀ i (h : i < vs.length), u.cell? ⟨b1, o1 + i * 2, none⟩ = some (.string vs[i].f0) ∧ u.cell? ⟨b1, o1 + i * 2 + 1, none⟩ = some (.int .i64 vs[i].f1)))
  have HB1 := Lib.hid B1
  clear B1
  have ht1 : (vs.take (k + 1)).length = k + 1 := by simp; omega
  have HT1 := Lib.hid ht1
  clear ht1
  go_upto_region 3 with (at_builtin; refine wpList_append_lies _ rfl _ _ 88 rfl W1.heap.size 98 i0 (.agg #[.string ⟨#[]⟩, .int .i64 0]) 2 24 Try.underlying88 hi hz0 hz1 hz2 rfl (by decide) _ 0 [] rfl (emptyRows (heap_alloc_new _ _) (Nat.le_refl _)) ⟨b1, o1, none⟩ (k + 1) cap ((vs.take (k + 1)).flatMap rowCells) rfl (by rw [rows_len, HT1.out]) (rows_take_news (by omega) (HD.out _ ((Below.refl _ _).alloc (Nat.le_refl _) _))) (rows_one _) (by omega) (by unfold maxLen; omega) (by omega) (by simp) _ rfl ?_; intro g cp w2 hown hgrow hat hlt2; have hbA := below_append1 hgrow; have X := Lib.hid (And.intro hown hbA); clear hown hgrow hat hlt2 hbA)
  obtain ⟨hown1, hbA⟩ := X.out
  rw [Nat.zero_add, List.nil_append] at hown1
  have hg1 := (hown1.lt g rfl).1
  have HO1 := Lib.hid hown1
  have HA1 := Lib.hid hbA
  have hs1 : W1.heap.size ≤ w2.heap.size := hbA.size
  clear X hown1 hbA
  go_wp2_with (at_builtin; refine wpList_append_lies _ rfl _ _ 88 rfl W1.heap.size 98 i0 (.agg #[.string ⟨#[]⟩, .int .i64 0]) 2 24 Try.underlying88 hi hz0 hz1 hz2 rfl (by decide) _ (k + 1) ((vs.take (k + 1)).flatMap rowCells) rfl (HO1.out.alloc _) ⟨w2.heap.size, 0, none⟩ 1 1 [.string key, .int .i64 node] rfl rfl (news2 _ _ _ _ _ rfl) (fun u hu => by simp at hu; rcases hu with rfl | rfl <;> rfl) (by omega) (by unfold maxLen; omega) (by omega) (by simp; omega) _ rfl ?_; intro g3 cp3 w3 hown hgrow hat hlt2; have X := Lib.hid (And.intro hown hgrow); clear hown hgrow hat hlt2)
  obtain ⟨hown3, hgr3⟩ := X.out
  have hbB : Below W1.heap.size W1 w3 := Below.grown (HA1.out.alloc hs1 _) hgr3 (by simp; omega) (fun j hj => (HO1.out.lt j hj).1)
  have hg3 := (hown3.lt g3 rfl).1
  have c0' := (hbB.cell (p := ⟨w.heap.size, 0, none⟩) z0).trans c0
  have c1' := (hbB.cell (p := ⟨w.heap.size, 1, none⟩) z0).trans c1
  have d0' := (hbB.cell (p := ⟨w.heap.size + 1, 0, none⟩) z1).trans d0
  have d1' := (hbB.cell (p := ⟨w.heap.size + 1, 1, none⟩) z1).trans d1
  have f0' := (hbB.frozen (p := ⟨w.heap.size + 1, 0, none⟩) z1).trans f0
  have f1' := (hbB.frozen (p := ⟨w.heap.size + 1, 1, none⟩) z1).trans f1
  have HO := Lib.hid hown3
  have HA := Lib.hid hbB
  have HG := Lib.hid (fun (w4 : World) (h : w3.drew.grownBy w4 (some g3)) => Below.grown (hbB.drew) h hbB.size (fun j hj => by cases hj; exact hg3))
  have hs2 : W1.heap.size ≤ w3.heap.size := hbB.size
  clear X hown3 hgr3 hbB HO1 HA1 hs1 hg1 c0 c1 d0 d1 f0 f1
  have hw1 : IntKind.i64.wrap ((k : Int) + 1) = (k : Int) + 1 := by rw [IntKind.wrap_i64]; omega
  have hwe : IntKind.i64.wrap (ep + 1) = ep + 1 := by rw [IntKind.wrap_i64]; omega
  have HL := Lib.hid (splitAt_len (key := key) (node := node) hk)
  by_cases hlast : k + 1 < vs.length
  · have HT2 := Lib.hid (show (vs.drop (k + 1)).length = vs.length - (k + 1) by simp)
    have q1 : (0 : Int) ≤ (k : Int) + 1 := by omega
    have q2 : (k : Int) + 1 ≤ (vs.length : Int) := by omega
    have q3 : ((k : Int) + 1).toNat = k + 1 := by omega
    have q4 : ¬ cap = k + 1 := by omega
    have q5 : k + 1 ≤ cap := by omega
    go_region_law (refine step_append_lies _ rfl (.tmp 28) (.tmp 33) 88 rfl W1.heap.size 98 i0 (.agg #[.string ⟨#[]⟩, .int .i64 0]) 2 24 Try.underlying88 hi hz0 hz1 hz2 rfl (by decide) _ (k + 1 + 1) _ rfl HO.out.drew ⟨b1, o1 + (k + 1) * 2, none⟩ (vs.length - (k + 1)) (cap - (k + 1)) ((vs.drop (k + 1)).flatMap rowCells) rfl (by rw [rows_len, HT2.out]) (rows_drop_news (by omega) (HD.out _ HA.out.drew)) (rows_one _) (by omega) (by unfold maxLen; omega) (by omega) hs2 _ rfl ?_; intro g2 cp2 w4 hown hgrow hat hlt2; have hbB := HG.out _ hgrow; have c0'' := (hbB.cell (p := ⟨w.heap.size, 0, none⟩) z0).trans ((HA.out.cell (p := ⟨w.heap.size, 0, none⟩) z0).symm.trans c0'); have d0'' := (hbB.cell (p := ⟨w.heap.size + 1, 0, none⟩) z1).trans ((HA.out.cell (p := ⟨w.heap.size + 1, 0, none⟩) z1).symm.trans d0'); have d1'' := (hbB.cell (p := ⟨w.heap.size + 1, 1, none⟩) z1).trans ((HA.out.cell (p := ⟨w.heap.size + 1, 1, none⟩) z1).symm.trans d1'); have f0'' := (hbB.frozen (p := ⟨w.heap.size + 1, 0, none⟩) z1).trans ((HA.out.frozen (p := ⟨w.heap.size + 1, 0, none⟩) z1).symm.trans f0'); have f1'' := (hbB.frozen (p := ⟨w.heap.size + 1, 1, none⟩) z1).trans ((HA.out.frozen (p := ⟨w.heap.size + 1, 1, none⟩) z1).symm.trans f1'); have X := Lib.hid (And.intro hown hbB); clear hown hgrow hat hlt2 hbB)
    all_goals
      go_wp2_with fail
      refine bodyPost_ret (v := .agg #[.int .i64 (ep + 1), .slice (some ⟨g2, 0, none⟩) (k + 1 + 1 + (vs.length - (k + 1))) cp2]) (by simp [results, Try.results168, go_sem, d0'', d1'']) rfl ?_
      obtain ⟨hown, hbB⟩ := X.out
      have hl : (splitAt vs key node k).length = k + 1 + 1 + (vs.length - (k + 1)) := by rw [HL.out]; omega
      rw [← split_cells, ← hl] at hown
      have hg := (hown.lt g2 rfl).1
      exact ⟨_, _, by rw [hl], (pmAt_own (lo := w.heap.size) hown (by omega)).set2 (by omega), ((HB1.out.trans (hbB.mono (by omega))).setCell (p := ⟨w.heap.size + 1, 0, none⟩) (by simp) _).setCell (p := ⟨w.heap.size + 1, 1, none⟩) (by simp) _, own_cap hown⟩
  · have HT2 := Lib.hid (show vs.drop (k + 1) = [] by rw [List.drop_eq_nil_iff]; omega)
    have hl : (splitAt vs key node k).length = k + 1 + 1 := by rw [HL.out]; omega
    have hown2 : w3.ownsRow W1.heap.size 98 2 (.slice (some ⟨g3, 0, none⟩) (splitAt vs key node k).length cp3) (splitAt vs key node k).length ((splitAt vs key node k).flatMap rowCells) := by
      rw [hl, split_cells, HT2.out, List.flatMap_nil, List.append_nil]; exact HO.out
    have HO2 := Lib.hid hown2
    have hcp := own_cap hown2
    rw [hl] at hcp
    have hcp1 := hcp.1
    have hzz : vs.length - (k + 1) = 0 := by omega
    have q1 : (0 : Int) ≤ (k : Int) + 1 := by omega
    have q2 : (k : Int) + 1 ≤ (vs.length : Int) := by omega
    have q3 : ((k : Int) + 1).toNat = k + 1 := by omega
    have q6 : ¬ (cp3 < k + 1 + 1) := by omega
    have HLL := Lib.hid hl
    clear hcp hown2 hl
    by_cases q4 : cap = k + 1
    all_goals
      go_region_law (fail)
    all_goals
      go_wp2_with fail
      refine bodyPost_ret (v := .agg #[.int .i64 (ep + 1), .slice (some ⟨g3, 0, none⟩) (k + 1 + 1) cp3]) (by simp [results, Try.results168, go_sem, d0', d1']) rfl ?_
      exact ⟨_, _, by rw [HLL.out], ((pmAt_own (lo := w.heap.size) HO2.out (by omega)).set2 (r := w.heap.size + 1) (by omega)).drewAt, (((HB1.out.trans (HA.out.mono (by omega))).setCell (p := ⟨w.heap.size + 1, 0, none⟩) (by simp) _).setCell (p := ⟨w.heap.size + 1, 1, none⟩) (by simp) _).drew, own_cap HO2.out⟩
end Go.Proofs.Ytjijichgoodocaa
