/- Slices of strings: their marks. -/
import Derived.Test.YtodpodgdhiadnaaStrs
namespace Go.Proofs.Ytodpodgdhiadnaa
open Go.RowKit

def marks (k n : Nat) : List ByteArray := (List.range n).map fun i => mtext (k + i)
theorem marks_length (k n : Nat) : (marks k n).length = n := by simp [marks]
theorem marks_at (k n i : Nat) (h : i < (marks k n).length) : (marks k n)[i] = mtext (k + i) := by simp [marks]

/-- What a mark leaves of a slice of strings. -/
def MarkedStrs (S : Nat → Prop) (a : Option Addr) (k n : Nat) (w : World) (e : Ending) (w' : World) : Prop :=
  e = .returned (.int .i64 ((k : Int) + n)) ∧ StrsIn w' a (marks k n) ∧ Free w' a n ∧ Turned S w w'

set_option maxHeartbeats 2000000 in
theorem markStringS_any (S : Nat → Prop) (a : Option Addr) (n cap k : Nat) (w : World) (hf : Free w a n) (hS : ∀ b off, a = some ⟨b, off, none⟩ → S b) (hk : 1 ≤ k) (hkn : k + n ≤ 100000000) :
    Calls Try.prog 113 #[.slice a n cap, .int .i64 (k : Int)] w (MarkedStrs S a k n w) := by
  rcases hf with rfl | ⟨b, off, rfl, hb, hc⟩
  · go_enter Try.func113, Try.ntmps113
    go_wp2_with fail
    go_loop [1, 5] (fun l i => l = .int .i64 (k : Int) ∧ i = .int .i64 0) (fun _ _ => 0)
    case atStart => exact ⟨rfl, rfl⟩
    case round =>
      obtain ⟨rfl, rfl⟩ := hrel
      go_wp2_with fail
      go_ret
      exact ⟨by simp, .inl rfl, .inl rfl, Turned.refl _ _⟩
  · have HS := Lib.hid (hS b off rfl)
    have HC := Lib.hid hc
    clear hS hc
    go_enter Try.func113, Try.ntmps113
    go_wp2_with fail
    go_loopw [1, 5] (fun l i wr => ∃ j : Nat, j ≤ n ∧ i = .int .i64 j ∧ l = .int .i64 ((k + j : Nat) : Int) ∧ Turned S w wr ∧ (∀ i, i < n → (∃ v, wr.cell? ⟨b, off + i, none⟩ = some v) ∧ wr.frozen? ⟨b, off + i, none⟩ = false) ∧ (∀ i, i < j → wr.cell? ⟨b, off + i, none⟩ = some (.string (mtext (k + i))))) (fun _ i _ => n - (intOf i).toNat)
    case atStart => exact ⟨0, Nat.zero_le _, rfl, rfl, Turned.refl _ _, HC.out, fun i h => absurd h (by omega)⟩
    case round =>
      obtain ⟨j, hj, rfl, rfl, hT, hF, hM⟩ := hrel
      have HT := Lib.hid hT
      have HF := Lib.hid hF
      have HM := Lib.hid hM
      have hbr : b < wr.heap.size := Nat.lt_of_lt_of_le hb hT.size
      clear hT hF hM
      by_cases hlt : j < n
      · go_wp2_with fail
        refine (markText_any (k + j) _ (by omega) (by omega)).mono ?_
        rintro e w2 ⟨rfl, hb2⟩
        obtain ⟨v0, d0⟩ := (HF.out j hlt).1
        have f0 := (HF.out j hlt).2
        have d0' := (hb2.cell (p := ⟨b, off + j, none⟩) hbr).trans d0
        have f0' := (hb2.frozen (p := ⟨b, off + j, none⟩) hbr).trans f0
        have HB2 := Lib.hid hb2
        clear d0 f0 hb2
        go_wp2_with fail
        go_roundw
        case rel =>
          refine ⟨j + 1, by omega, by go_num, by go_num, (HT.out.trans (Turned.of_below HB2.out)).setCell HS.out _, fun i hi => ?_, fun i hi => ?_⟩
          · have := HF.out i hi
            refine ⟨?_, by rw [World.frozen?_setCell]; exact (HB2.out.frozen (p := ⟨b, off + i, none⟩) hbr).trans this.2⟩
            obtain ⟨x, hx⟩ := this.1
            exact cell?_setCell_some ((HB2.out.cell (p := ⟨b, off + i, none⟩) hbr).trans hx)
          · by_cases e : i = j
            · subst e; exact World.cell?_setCell_same _ _ _ d0'
            · rw [cell_off (by omega)]; exact (HB2.out.cell (p := ⟨b, off + i, none⟩) hbr).trans (HM.out i (by omega))
        case measure => simp [intOf]; omega
      · obtain rfl : j = n := by omega
        go_wp2_with fail
        go_ret
        refine ⟨by simp, .inr ⟨b, off, rfl, hbr, fun i hi => ?_⟩, .inr ⟨b, off, rfl, hbr, HF.out⟩, HT.out⟩
        rw [marks_at]
        exact HM.out i (by simpa [marks_length] using hi)

set_option maxHeartbeats 2000000 in
theorem heldStringS_any (a : Option Addr) (n cap k : Nat) (w : World) (hv : StrsIn w a (marks k n)) (hk : 1 ≤ k) (hkn : k + n ≤ 100000000) :
    Calls Try.prog 114 #[.slice a n cap, .int .i64 (k : Int)] w fun e w' => e = .returned (.int .i64 ((k : Int) + n)) ∧ Below w.heap.size w w' := by
  have HV := Lib.hid hv
  clear hv
  go_enter Try.func114, Try.ntmps114
  go_wp2_with fail
  go_loopw [1, 5] (fun l i wr => ∃ j : Nat, j ≤ n ∧ i = .int .i64 j ∧ l = .int .i64 ((k + j : Nat) : Int) ∧ Below w.heap.size w wr) (fun _ i _ => n - (intOf i).toNat)
  case atStart => exact ⟨0, Nat.zero_le _, rfl, rfl, Below.refl _ _⟩
  case round =>
    obtain ⟨j, hj, rfl, rfl, hB⟩ := hrel
    have HB := Lib.hid hB
    clear hB
    by_cases hlt : j < n
    · rcases HV.out.below HB.out with hnil | ⟨b1, o1, rfl, hb1, hc1⟩
      · have := congrArg List.length hnil; simp [marks_length] at this; omega
      have c0 := hc1 j (by rw [marks_length]; exact hlt)
      rw [marks_at] at c0
      have y0 := cell_regrown c0
      clear hc1
      go_wp2_with fail
      refine wp_region_quiet_below (by kernel_rfl) (by kernel_rfl) ?_
      repeat (go_big_quiet_step ((go_at_call 185; exact Calls.regrown_of (markText_any (k + j) _ (by omega) (by omega)))))
      refine wpQuiet_nil ?_
      intro _ hw'
      obtain ⟨⟨dq, osq⟩, hw''⟩ := hw'
      subst hw''
      go_wp2_with fail
      go_roundw
      case rel => exact ⟨j + 1, by omega, by go_num, by go_num, HB.out.trans ((below_regrown _ _ _).mono HB.out.size)⟩
      case measure => simp [intOf]; omega
    · obtain rfl : j = n := by omega
      go_wp2_with fail
      go_ret
      exact ⟨by simp, HB.out⟩
end Go.Proofs.Ytodpodgdhiadnaa
