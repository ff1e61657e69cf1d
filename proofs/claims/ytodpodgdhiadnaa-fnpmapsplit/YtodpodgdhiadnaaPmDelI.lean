/- A row deleted in a slice that the call owns. -/
import Derived.Test.YtodpodgdhiadnaaPmCpI
namespace Go.Proofs.Ytodpodgdhiadnaa
open Go.RowKit

theorem Turned.setCells {S : Nat → Prop} {a : World} {b : Nat} (hS : S b) : ∀ (vs : List Value) (o : Nat) (w : World), Turned S a w → Turned S a (w.setCells b o vs)
  | [], _, _, h => h
  | v :: vs, o, w, h => Turned.setCells hS vs (o + 1) _ (h.setCell (p := ⟨b, o, none⟩) hS v)

theorem own_at {w : World} {base g cp : Nat} {vs : List RowD} (h : w.ownsRow base 102 2 (.slice (some ⟨g, 0, none⟩) vs.length cp) vs.length (vs.flatMap rowCells)) (i : Nat) (hi : i < vs.length) :
    w.cell? ⟨g, i * 2, none⟩ = some (.string vs[i].f0) ∧ w.cell? ⟨g, i * 2 + 1, none⟩ = some (.int .i64 vs[i].f1) := by
  have e0 := h.cellAt (i * 2) (by omega)
  have e1 := h.cellAt (i * 2 + 1) (by omega)
  have f0 := flat_at rowCells 2 (fun _ => rfl) vs i 0 hi (by omega)
  have f1 := flat_at rowCells 2 (fun _ => rfl) vs i 1 hi (by omega)
  rw [Nat.add_zero] at f0
  exact ⟨e0.trans f0, e1.trans f1⟩

theorem clearRow {w : World} {g o c : Nat} {x0 x1 : Value} (ty : TypeId) (h0 : w.cell? ⟨g, o, none⟩ = some x0) (h1 : w.cell? ⟨g, o + 1, none⟩ = some x1) (f0 : w.frozen? ⟨g, o, none⟩ = false) (f1 : w.frozen? ⟨g, o + 1, none⟩ = false) :
    (Builtin.clear_ #[78] ty #[.slice (some ⟨g, o, none⟩) 1 c]).run Try.prog w = .ok (.tuple #[]) ((w.setCell ⟨g, o, none⟩ (.string ⟨#[]⟩)).setCell ⟨g, o + 1, none⟩ (.int .i64 0)) := by
  have hv : (zeroValue 102).run Try.prog w = .ok (.agg #[.string ⟨#[]⟩, .int .i64 0]) w := by kernel_rfl
  have hst := run_storeCells_cells (P := Try.prog) g o [.string ⟨#[]⟩, .int .i64 0] 0 w
    (fun j hj => by
      have : j = 0 ∨ j = 1 := by simp at hj; omega
      rcases this with rfl | rfl
      · simp [h0]
      · simp [h1])
    (fun j hj => by
      have : j = 0 ∨ j = 1 := by simp at hj; omega
      rcases this with rfl | rfl
      · simpa using f0
      · simpa using f1)
    (fun v hv => by simp at hv; rcases hv with rfl | rfl <;> rfl)
  simp only [Nat.add_zero] at hst
  have hz : (Builtin.zeroCells (Value.agg #[.string ⟨#[]⟩, .int .i64 0]).cells 1).toList = [.string ⟨#[]⟩, .int .i64 0] := by first | kernel_rfl | (simp [Builtin.zeroCells, Value.cells]; done)
  simp [Builtin.clear_, run_underlying Try.underlying78, hv, hz, hst, World.setCells]

set_option maxRecDepth 100000 in
set_option maxHeartbeats 1000000 in
theorem deleteRow_any (vs : List RowD) (k g cp base : Nat) (w : World) (hown : w.ownsRow base 102 2 (.slice (some ⟨g, 0, none⟩) vs.length cp) vs.length (vs.flatMap rowCells)) (hk : k + 1 < vs.length) (hlen : vs.length ≤ 1048576) :
    Calls Try.prog 149 #[.slice (some ⟨g, 0, none⟩) vs.length cp, .int .i64 ((k : Int) + 1), .int .i64 ((k : Int) + 2)] w fun e w' =>
      e = .returned (.slice (some ⟨g, 0, none⟩) (vs.take (k + 1) ++ vs.drop (k + 2)).length cp) ∧ PmAt w' base w'.heap.size (some ⟨g, 0, none⟩) (vs.take (k + 1) ++ vs.drop (k + 2)) ∧ Turned (fun b => b = g) w w' := by
  obtain ⟨hc1, hc2⟩ := own_cap hown
  unfold maxLen at hc2
  have hg := hown.lt g rfl
  have HO := Lib.hid hown
  have HA := Lib.hid (own_at hown)
  have HFz := Lib.hid (fun j => hown.frozenAt j)
  obtain ⟨i0, hi, hz0, hz1, hz2⟩ := info_parts infoRow
  have q1 : (0 : Int) ≤ (k : Int) + 1 := by omega
  have q2 : (k : Int) + 1 ≤ (k : Int) + 2 := by omega
  have q3 : (k : Int) + 2 ≤ (vs.length : Int) := by omega
  have q4 : (vs.length : Int) ≤ (cp : Int) := by omega
  have q5 : ((k : Int) + 1).toNat = k + 1 := by omega
  have q6 : ((k : Int) + 2).toNat = k + 2 := by omega
  have q7 : ((k : Int) + 1 == (k : Int) + 2) = false := by rw [beq_eq_false_iff_ne]; omega
  have q8 : (0 : Int) ≤ (k : Int) + 2 := by omega
  have q9 : (k : Int) + 1 ≤ (cp : Int) := by omega
  have q10 : (vs.length : Int) - 1 ≤ (vs.length : Int) := by omega
  have q11 : (0 : Int) ≤ (vs.length : Int) - 1 := by omega
  have q12 : ((vs.length : Int) - 1).toNat = vs.length - 1 := by omega
  clear hown
  have hl1 : (vs.take (k + 1)).length = k + 1 := by simp; omega
  have hl2 : (vs.drop (k + 2)).length = vs.length - (k + 2) := by simp
  have hl3 : (vs.take (k + 1) ++ vs.drop (k + 2)).length = vs.length - 1 := by rw [List.length_append, hl1, hl2]; omega
  have hnl : ((vs.drop (k + 2)).flatMap rowCells).length = (vs.length - (k + 2)) * 2 := by rw [rows_len, hl2]
  have hsome : ∀ t, t < vs.length * 2 → (w.cell? ⟨g, t, none⟩).isSome = true := fun t ht => by
    obtain ⟨h0, h1⟩ := HA.out (t / 2) (by omega)
    rcases Nat.mod_two_eq_zero_or_one t with e | e
    · rw [show t / 2 * 2 = t by omega] at h0; rw [h0]; rfl
    · rw [show t / 2 * 2 + 1 = t by omega] at h1; rw [h1]; rfl
  obtain ⟨U, hU⟩ : ∃ U, w.drew.setCells g ((k + 1) * 2) ((vs.drop (k + 2)).flatMap rowCells) = U := ⟨_, rfl⟩
  have hTu : Turned (fun b => b = g) w U := by rw [← hU]; exact Turned.setCells (S := fun b => b = g) (b := g) rfl _ _ w.drew ⟨rfl, rfl, rfl, Nat.le_refl _, fun _ _ _ => rfl⟩
  have hUout : ∀ t, t < (k + 1) * 2 ∨ (vs.length - 1) * 2 ≤ t → U.cell? ⟨g, t, none⟩ = w.cell? ⟨g, t, none⟩ := fun t ht => by
    rw [← hU, World.cell?_setCells_out g _ _ _ ⟨g, t, none⟩ (fun _ _ => by rw [hnl]; show t < _ ∨ _ ≤ t; omega)]; rfl
  have hUin : ∀ j (hj : j < ((vs.drop (k + 2)).flatMap rowCells).length), U.cell? ⟨g, (k + 1) * 2 + j, none⟩ = some ((vs.drop (k + 2)).flatMap rowCells)[j] := fun j hj => by
    rw [← hU]; exact World.cell?_setCells_in g _ _ w.drew (fun i hi' => (show (w.cell? ⟨g, (k + 1) * 2 + i, none⟩).isSome = true from hsome ((k + 1) * 2 + i) (by rw [hnl] at hi'; omega))) j hj
  have hUf : ∀ t, U.frozen? ⟨g, t, none⟩ = false := fun t => by rw [← hU, World.frozen?_setCells]; exact HFz.out t
  obtain ⟨x0, r0⟩ : ∃ v, U.cell? ⟨g, (vs.length - 1) * 2, none⟩ = some v := ⟨_, (hUout ((vs.length - 1) * 2) (.inr (Nat.le_refl _))).trans (HA.out (vs.length - 1) (by omega)).1⟩
  obtain ⟨x1, r1⟩ : ∃ v, U.cell? ⟨g, (vs.length - 1) * 2 + 1, none⟩ = some v := ⟨_, (hUout ((vs.length - 1) * 2 + 1) (.inr (by omega))).trans (HA.out (vs.length - 1) (by omega)).2⟩
  have p0 := hUf ((vs.length - 1) * 2)
  have p1 := hUf ((vs.length - 1) * 2 + 1)
  have hrows : ∀ (u : World), (∀ t, t < (vs.length - 1) * 2 → u.cell? ⟨g, t, none⟩ = U.cell? ⟨g, t, none⟩) → (∀ t, u.frozen? ⟨g, t, none⟩ = false) → w.heap.size ≤ u.heap.size → PmAt u base u.heap.size (some ⟨g, 0, none⟩) (vs.take (k + 1) ++ vs.drop (k + 2)) := fun u hu hf hs => by
    have hin : ∀ i (h : i < (vs.take (k + 1) ++ vs.drop (k + 2)).length), u.cell? ⟨g, i * 2, none⟩ = some (.string (vs.take (k + 1) ++ vs.drop (k + 2))[i].f0) ∧ u.cell? ⟨g, i * 2 + 1, none⟩ = some (.int .i64 (vs.take (k + 1) ++ vs.drop (k + 2))[i].f1) := fun i h => by
      rw [hl3] at h
      rw [hu _ (by omega), hu _ (by omega)]
      by_cases hik : i < k + 1
      · rw [hUout _ (.inl (by omega)), hUout _ (.inl (by omega))]
        have e : (vs.take (k + 1) ++ vs.drop (k + 2))[i]'(by rw [hl3]; exact h) = vs[i]'(by omega) := by
          rw [List.getElem_append_left (by rw [hl1]; exact hik), List.getElem_take]
        rw [e]; exact HA.out i (by omega)
      · have e : (vs.take (k + 1) ++ vs.drop (k + 2))[i]'(by rw [hl3]; exact h) = (vs.drop (k + 2))[i - (k + 1)]'(by rw [hl2]; omega) := by
          rw [List.getElem_append_right (by rw [hl1]; omega)]; congr 1; rw [hl1]
        rw [e]
        have hat0 := flat_at rowCells 2 (fun _ => rfl) (vs.drop (k + 2)) (i - (k + 1)) 0 (by rw [hl2]; omega) (by omega)
        have hat1 := flat_at rowCells 2 (fun _ => rfl) (vs.drop (k + 2)) (i - (k + 1)) 1 (by rw [hl2]; omega) (by omega)
        have u0 := hUin ((i - (k + 1)) * 2 + 0) (by rw [hnl]; omega)
        have u1 := hUin ((i - (k + 1)) * 2 + 1) (by rw [hnl]; omega)
        rw [← List.getElem?_eq_getElem] at u0 u1
        rw [hat0] at u0
        rw [hat1] at u1
        rw [show (k + 1) * 2 + ((i - (k + 1)) * 2 + 0) = i * 2 by omega] at u0
        rw [show (k + 1) * 2 + ((i - (k + 1)) * 2 + 1) = i * 2 + 1 by omega] at u1
        exact ⟨u0, u1⟩
    have hgu : g < u.heap.size := Nat.lt_of_lt_of_le hg.2 hs
    refine ⟨.inr ⟨g, 0, rfl, hgu, fun i h => ?_⟩, .inr ⟨g, 0, rfl, hgu, fun i h => ?_⟩, fun b off e => by cases e; exact ⟨hg.1, hgu⟩, Nat.le_refl _⟩
    · have := hin i h
      simp only [Nat.zero_add]; exact this
    · rw [hl3] at h
      rw [Nat.zero_add]
      refine ⟨?_, hf i⟩
      obtain ⟨h0, h1⟩ := hin (i / 2) (by rw [hl3]; omega)
      rcases Nat.mod_two_eq_zero_or_one i with e | e
      · rw [show i / 2 * 2 = i by omega] at h0; exact ⟨_, h0⟩
      · rw [show i / 2 * 2 + 1 = i by omega] at h1; exact ⟨_, h1⟩
  have HR := Lib.hid hrows
  have HT := Lib.hid hTu
  have HUf := Lib.hid hUf
  have HS := Lib.hid hsome
  have HL1 := Lib.hid hl1
  have HL2 := Lib.hid hl2
  have HL3 := Lib.hid hl3
  have HNL := Lib.hid hnl
  clear hrows hTu hUf hsome hl1 hl2 hl3 hnl hUin hUout
  have s1 : vs.length - (vs.length - 1) = 1 := by omega
  have s2 : ((vs.length - 1 : Nat) : Int) = (vs.length : Int) - 1 := by omega
  by_cases hlast : k + 2 < vs.length
  · have t1 : ¬ cp = k + 2 := by omega
    have t2 : k + 2 ≤ cp := by omega
    have t3 : k + 1 + (vs.length - (k + 2)) = vs.length - 1 := by omega
    go_enter Try.func149, Try.ntmps149
    go_wp2_with fail
    go_region_law (refine step_append_room rfl (.tmp 22) (.tmp 25) 78 rfl 102 i0 2 Try.underlying78 hi hz1 g 0 (k + 1) cp rfl ⟨g, (k + 2) * 2, none⟩ (vs.length - (k + 2)) (cp - (k + 2)) ((vs.drop (k + 2)).flatMap rowCells) rfl HNL.out (by have := rows_drop_news (w := w) (b := g) (off := 0) (n := k + 2) (vs := vs) (by omega) (fun i h => by simpa using HA.out i h); simpa using this) (rows_one _) (by omega) (fun j hj => ⟨(show (w.cell? ⟨g, 0 + (k + 1) * 2 + j, none⟩).isSome = true from by rw [Nat.zero_add]; exact HS.out _ (by rw [HNL.out] at hj; omega)), (show w.frozen? ⟨g, 0 + (k + 1) * 2 + j, none⟩ = false from HFz.out _)⟩) ?_; rw [Nat.zero_add, t3, hU])
    all_goals
      clear hU
      have hcl := clearRow (c := cp - (vs.length - 1)) 0 r0 r1 p0 p1
      go_wp2_with fail
      go_ret
      refine ⟨by rw [HL3.out]; rfl, HR.out _ (fun t ht => ?_) (fun t => ?_) ?_, ?_⟩
      · rw [cell_off (by omega), cell_off (by omega)]
      · rw [World.frozen?_setCell, World.frozen?_setCell]; exact HUf.out t
      · simpa using HT.out.size
      · exact (HT.out.setCell (p := ⟨g, _, none⟩) rfl _).setCell (p := ⟨g, _, none⟩) rfl _
  · have hdn : vs.drop (k + 2) = [] := by rw [List.drop_eq_nil_iff]; omega
    obtain rfl : U = w.drew := by rw [← hU, hdn]; rfl
    clear hU
    have t3 : vs.length - (k + 2) = 0 := by omega
    have t4 : vs.length - 1 = k + 1 := by omega
    have q13 : (k : Int) + 2 ≤ (cp : Int) := by omega
    have T4 := Lib.hid t4
    rw [t4] at r0 r1 p0 p1
    clear t4 hdn
    have hcl := fun c => clearRow (c := c) 0 r0 r1 p0 p1
    have t5 : vs.length - (k + 1) = 1 := by omega
    have t7 : k + 1 ≤ cp := by omega
    clear s1 s2
    by_cases t1 : cp = k + 2
    all_goals (try subst t1)
    all_goals
      go_enter Try.func149, Try.ntmps149
      go_wp2_with fail
      go_region_law (fail)
    all_goals
      go_wp2_with fail
      go_ret
      refine ⟨by rw [HL3.out, T4.out]; rfl, HR.out _ (fun t ht => ?_) (fun t => ?_) ?_, ?_⟩
      · rw [T4.out] at ht
        show ((w.setCell _ _).setCell _ _).cell? _ = w.cell? _
        rw [cell_off (by omega), cell_off (by omega)]
      · show ((w.setCell _ _).setCell _ _).frozen? _ = false
        rw [World.frozen?_setCell, World.frozen?_setCell]; exact HFz.out t
      · simp
      · have h9 : Turned (fun b => b = g) w ((w.setCell ⟨g, (k + 1) * 2, none⟩ (.string ⟨#[]⟩)).setCell ⟨g, (k + 1) * 2 + 1, none⟩ (.int .i64 0)) := ((Turned.refl (fun b => b = g) w).setCell (p := ⟨g, (k + 1) * 2, none⟩) rfl _).setCell (p := ⟨g, (k + 1) * 2 + 1, none⟩) rfl _
        exact ⟨h9.os, h9.tape, h9.output, h9.size, h9.block⟩
end Go.Proofs.Ytodpodgdhiadnaa
