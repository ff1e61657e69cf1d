/- When a map of parts is ok, as the model says it. -/
import Derived.Test.YtjijichgoodocaaPmAt
import Derived.Test.YtjijichgoodocaaOrdB
namespace Go.Proofs.Ytjijichgoodocaa
open Go.RowKit

def RowOkAt (vs : List RowD) (i : Nat) (h : i < vs.length) : Prop := okB keyB 6 vs[i].f0 = true ∧ (i = 0 → vs[i].f0.toList.isEmpty = true) ∧ (∀ j (hj : j < vs.length), j + 1 = i → (Op.bytesLess vs[i].f0.toList vs[j].f0.toList || vs[i].f0.toList == vs[j].f0.toList) = false) ∧ inB vs[i].f1 0 2 = true
def RowsOkTo (vs : List RowD) (k : Nat) : Prop := ∀ i (h : i < vs.length), i < k → RowOkAt vs i h
def PmapOkP (ep : Int) (vs : List RowD) : Prop := RowsOkTo vs vs.length ∧ inB (vs.length : Int) 1 5 = true ∧ inB ep 1 99 = true
def PmOkPost (ep : Int) (vs : List RowD) (w : World) (e : Ending) (w' : World) : Prop := ∃ b : Bool, e = .returned (.bool b) ∧ (b = true ↔ PmapOkP ep vs) ∧ Below w.heap.size w w'
theorem RowsOkTo.zero (vs : List RowD) : RowsOkTo vs 0 := fun _ _ h => absurd h (by omega)
theorem RowsOkTo.succ {vs : List RowD} {k : Nat} (h : RowsOkTo vs k) (hk : k < vs.length) (ho : RowOkAt vs k hk) : RowsOkTo vs (k + 1) := fun i hi hik => by
  by_cases e : i = k
  · subst e; exact ho
  · exact h i hi (by omega)
theorem pm_not {ep : Int} {vs : List RowD} {k : Nat} (hk : k < vs.length) (h : ¬ RowOkAt vs k hk) : ¬ PmapOkP ep vs := fun g => h (g.1 k hk hk)

theorem l1Part_is {s : ByteArray} {b : Bool} (h : okB keyB 6 s = b) (hs : s.size ≤ maxLen) (w : World) :
    Calls Try.prog 137 #[.string s] w fun e w' => e = .returned (.bool b) ∧ w' = w := (h ▸ l1Part_any s w hs).mono fun _ _ ⟨a, b⟩ => ⟨a, b.symm⟩
theorem l1In_is {n lo hi : Int} {b : Bool} (h : inB n lo hi = b) (w : World) :
    Calls Try.prog 138 #[.int .i64 n, .int .i64 lo, .int .i64 hi] w fun e w' => e = .returned (.bool b) ∧ w' = w := (h ▸ l1In_any n lo hi w).mono fun _ _ ⟨a, b⟩ => ⟨a, b.symm⟩

set_option maxRecDepth 100000 in
set_option maxHeartbeats 1000000 in
theorem l5Ok_any (ep : Int) (a : Option Addr) (vs : List RowD) (cap : Nat) (w : World) (hv : RowsIn w a vs) (hf : ∀ v ∈ vs, v.fits) (hn : vs.length ≤ maxLen) :
    Calls Try.prog 122 #[.agg #[.int .i64 ep, .slice a vs.length cap]] w (PmOkPost ep vs w) := by
  unfold maxLen at hn
  have HV := Lib.hid hv
  have HF := Lib.hid hf
  clear hv hf
  go_enter Try.func122, Try.ntmps122
  go_wp2_with fail
  go_loopw [3] (fun i wr => ∃ k : Nat, k ≤ vs.length ∧ i = .int .i64 k ∧ Below (w.heap.size + 1) (w.alloc (.cells #[.int .i64 ep, .slice a vs.length cap] 90)) wr ∧ RowsOkTo vs k) (fun i _ => vs.length - (intOf i).toNat)
  case atStart => exact ⟨0, Nat.zero_le _, rfl, Below.refl _ _, RowsOkTo.zero _⟩
  case round =>
    obtain ⟨k, hk, hik, hB, hM⟩ := hrel
    have cm0 := hB.cell (p := ⟨w.heap.size, 0, none⟩) (by simp)
    have cm := hB.cell (p := ⟨w.heap.size, 1, none⟩) (by simp)
    simp [go_sem] at cm cm0
    have HW := Lib.hid (((Below.refl w.heap.size w).alloc (Nat.le_refl _) _).trans (hB.mono (by omega)))
    have HB := Lib.hid hB
    have HM := Lib.hid hM
    have hsz : w.heap.size < wr.heap.size := by have := hB.size; simp at this; omega
    clear hB hM
    by_cases hlt : k < vs.length
    · rcases HV.out.below HW.out with hnil | ⟨b1, o1, rfl, hb1, hc1⟩
      · rw [hnil] at hlt; simp at hlt
      obtain ⟨c0, c1⟩ := hc1 k hlt
      have hks : vs[k].f0.size ≤ maxLen := HF.out _ (List.getElem_mem hlt)
      have HC := Lib.hid hc1
      clear hc1
      rcases Nat.eq_zero_or_pos k with rfl | hk0
      · have hik0 : _ = Value.int .i64 0 := hik
        subst hik0
        clear hik
        simp only [Nat.zero_mul, Nat.add_zero] at c0 c1
        cases hK : okB keyB 6 vs[0].f0 <;> cases hE : vs[0].f0.toList.isEmpty <;> cases hN : inB vs[0].f1 0 2
        all_goals
          go_wp2_with fail
          go_quiet ((first | (go_at_call 137; exact Calls.quiet_of_same (l1Part_is hK hks _)) | (go_at_call 138; exact Calls.quiet_of_same (l1In_is hN _))))
          go_wp2_with fail
        all_goals first
          | (go_ret; exact ⟨false, rfl, by simpa using pm_not hlt (fun h => by first | (have := h.1; rw [hK] at this; exact absurd this (by decide)) | (have := h.2.1 rfl; rw [hE] at this; exact absurd this (by decide)) | (have := h.2.2.2; rw [hN] at this; exact absurd this (by decide))), Below.drewN (HW.out.alloc HW.out.size _) _⟩)
          | (go_roundw
             case rel => exact ⟨0 + 1, by omega, by go_num, Below.drewN (HB.out.alloc (by omega) _) _, HM.out.succ hlt ⟨hK, fun _ => hE, fun j hj e => by omega, hN⟩⟩
             case measure => simp [intOf]; omega)
      · obtain ⟨j, rfl⟩ : ∃ j, k = j + 1 := ⟨k - 1, by omega⟩
        have hj : j < vs.length := by omega
        have hwj : IntKind.i64.wrap (j : Int) = (j : Int) := by rw [IntKind.wrap_i64]; omega
        have hz0 : ((j : Int) + 1 == 0) = false := by rw [beq_eq_false_iff_ne]; omega
        obtain rfl := hik
        obtain ⟨d0, _⟩ := HC.out j hj
        cases hK : okB keyB 6 vs[j + 1].f0 <;> cases hO : (Op.bytesLess vs[j + 1].f0.toList vs[j].f0.toList || vs[j + 1].f0.toList == vs[j].f0.toList) <;> cases hN : inB vs[j + 1].f1 0 2
        all_goals
          go_wp2_with fail
          go_quiet ((first | (go_at_call 137; exact Calls.quiet_of_same (l1Part_is hK hks _)) | (go_at_call 138; exact Calls.quiet_of_same (l1In_is hN _))))
          go_wp2_with fail
        all_goals first
          | (go_ret; exact ⟨false, rfl, by simpa using pm_not hlt (fun h => by first | (have := h.1; rw [hK] at this; exact absurd this (by decide)) | (have := h.2.2.1 j hj rfl; rw [hO] at this; exact absurd this (by decide)) | (have := h.2.2.2; rw [hN] at this; exact absurd this (by decide))), Below.drewN (HW.out.alloc HW.out.size _) _⟩)
          | (go_roundw
             case rel => exact ⟨j + 1 + 1, by omega, by go_num, Below.drewN (HB.out.alloc (by omega) _) _, HM.out.succ hlt ⟨hK, fun h => by omega, fun j' hj' e => by obtain rfl : j' = j := (by omega); exact hO, hN⟩⟩
             case measure => simp [intOf]; omega)
    · obtain rfl := hik
      obtain rfl : k = vs.length := by omega
      cases hL : inB (vs.length : Int) 1 5 <;> cases hE : inB ep 1 99
      all_goals
        go_wp2_with (go_at_call 138; refine (l1In_any _ _ _ _).mono ?_; rintro e w' ⟨rfl, rfl⟩; first | rw [hL] | rw [hE])
        go_ret
      · exact ⟨false, rfl, by simp [PmapOkP, hL], HW.out⟩
      · exact ⟨false, rfl, by simp [PmapOkP, hL], HW.out⟩
      · exact ⟨false, rfl, by simp [PmapOkP, hE], HW.out⟩
      · exact ⟨true, rfl, by simp [PmapOkP, hL, hE]; exact HM.out, HW.out⟩
end Go.Proofs.Ytjijichgoodocaa
