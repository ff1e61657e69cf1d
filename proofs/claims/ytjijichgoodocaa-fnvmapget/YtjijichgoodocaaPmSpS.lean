/- A row parted, as the model does it. -/
import Derived.Test.YtjijichgoodocaaPmCpS
import Derived.Test.YtjijichgoodocaaPmMgS
namespace Go.Proofs.Ytjijichgoodocaa
open Go.RowKit

theorem bp_no {P : Prop} {w w' : World} (h : ¬ P) (hb : Below w.heap.size w w') : BoolPost P w (.returned (.bool false)) w' := ⟨false, rfl, by simpa using h, hb⟩
theorem bp_yes {P : Prop} {w w' : World} (h : P) (hb : Below w.heap.size w w') : BoolPost P w (.returned (.bool true)) w' := ⟨true, rfl, by simpa using h, hb⟩
theorem find_from {vs : List RowD} {key : ByteArray} : ∀ (d k : Nat), vs.length - k ≤ d → FindTo vs key k → ∃ j, FindAt vs key j
  | 0, k, hd, h => absurd h.1 (by omega)
  | d + 1, k, hd, h => by
    by_cases hlt : k + 1 < vs.length
    · cases hl : leB (loOf vs (k + 1)) key
      · exact ⟨k, h, fun _ => hl⟩
      · exact find_from d (k + 1) (by omega) ⟨hlt, fun i h1 h2 => by
          by_cases e : i = k + 1
          · subst e; exact hl
          · exact h.2 i h1 (by omega)⟩
    · exact ⟨k, h, fun g => absurd g hlt⟩
theorem find_ex {vs : List RowD} (key : ByteArray) (h0 : 0 < vs.length) : ∃ k, FindAt vs key k := find_from vs.length 0 (by omega) ⟨h0, fun i h1 h2 => by omega⟩

theorem l5Find_is {vs : List RowD} {key : ByteArray} {k : Nat} (hF : FindAt vs key k) (ep : Int) (a : Option Addr) (cap : Nat) (w : World) (hv : RowsIn w a vs) (hlen : vs.length ≤ 1048576) :
    Calls Try.prog 189 #[.agg #[.int .i64 ep, .slice a vs.length cap], .string key] w fun e w' => e = .returned (.int .i64 (k : Int)) ∧ Below w.heap.size w w' :=
  (l5Find_any ep a vs cap key w hv (by have := hF.1.1; omega) hlen).mono fun _ _ ⟨j, he, hj, hb⟩ => by
    obtain rfl := hF.unique hj
    exact ⟨he, hb⟩

theorem l1Key_b {s : ByteArray} {b : Bool} (h : keyOkB s = b) (hs : s.size ≤ maxLen) (w : World) :
    Calls Try.prog 79 #[.string s] w fun e w' => e = .returned (.bool b) ∧ Below w.heap.size w w' := (h ▸ l1Key_any s w hs).mono fun _ _ ⟨a, b⟩ => ⟨a, b ▸ Below.refl _ _⟩
theorem l1In_b {n lo hi : Int} {b : Bool} (h : inB n lo hi = b) (w : World) :
    Calls Try.prog 138 #[.int .i64 n, .int .i64 lo, .int .i64 hi] w fun e w' => e = .returned (.bool b) ∧ Below w.heap.size w w' := (h ▸ l1In_any n lo hi w).mono fun _ _ ⟨a, b⟩ => ⟨a, b ▸ Below.refl _ _⟩

set_option maxRecDepth 100000 in
set_option maxHeartbeats 2000000 in
theorem l5CanSplit_any (ep : Int) (a : Option Addr) (vs : List RowD) (cap : Nat) (key : ByteArray) (node : Int) (w : World) (hv : RowsIn w a vs) (hP : PmapOkP ep vs) (hlen : vs.length ≤ 1048576) (hkey : key.size ≤ maxLen) :
    Calls Try.prog 166 #[.agg #[.int .i64 ep, .slice a vs.length cap], .string key, .int .i64 node] w (BoolPost (CanSplit ep vs key node) w) := by
  have hpos := hP.pos
  obtain ⟨k, hF⟩ := find_ex key hpos
  have hkl := hF.1.1
  rcases hv with hnil | ⟨b1, o1, rfl, hb1, hc1⟩
  · rw [hnil] at hpos; simp at hpos
  obtain ⟨W1, hW1⟩ : ∃ W1, w.alloc (.cells #[.int .i64 ep, .slice (some ⟨b1, o1, none⟩) vs.length cap] 90) = W1 := ⟨_, rfl⟩
  have B1 : Below w.heap.size w W1 := by rw [← hW1]; exact (Below.refl _ _).alloc (Nat.le_refl _) _
  have c0 : W1.cell? ⟨w.heap.size, 0, none⟩ = some (.int .i64 ep) := by rw [← hW1]; simp [go_sem]
  have c1 : W1.cell? ⟨w.heap.size, 1, none⟩ = some (.slice (some ⟨b1, o1, none⟩) vs.length cap) := by rw [← hW1]; simp [go_sem]
  have hr := (B1.cell (p := ⟨b1, o1 + k * 2, none⟩) hb1).trans (hc1 k hkl).1
  have x0 := cell_regrown c0
  have x1 := cell_regrown c1
  have x2 := cell_regrown hr
  have HV := Lib.hid ((show RowsIn w (some ⟨b1, o1, none⟩) vs from .inr ⟨b1, o1, rfl, hb1, hc1⟩).below B1)
  have HB := Lib.hid B1
  have HF := Lib.hid hF
  have HP := Lib.hid hP
  have HH := Lib.hid (show hasRow vs key ↔ (vs[k]'hkl).f0.toList = key.toList from hasRow_find hP hF)
  clear hc1 hF hP B1 c0 c1 hr
  have hle : (vs.length : Int) ≤ 1048576 := by omega
  have hki : (k : Int) < (vs.length : Int) := by omega
  have hk0 : (0 : Int) ≤ (k : Int) := by omega
  cases hK : keyOkB key
  · go_enter Try.func166, Try.ntmps166
    go_wp2_with fail
    clear hW1
    refine wp_region_quiet_below (by kernel_rfl) (by kernel_rfl) ?_
    repeat (go_big_quiet_step ((go_at_call 79; exact Calls.regrown_of (l1Key_b hK hkey _))))
    refine wpQuiet_nil ?_
    intro _ hw'
    obtain ⟨⟨dq, osq⟩, hw''⟩ := hw'
    subst hw''
    go_wp2_with fail
    go_ret
    exact bp_no (fun h => by rw [h.1] at hK; cases hK) (HB.out.trans ((below_regrown _ _ _).mono HB.out.size))
  cases hI : inB node 0 2
  · go_enter Try.func166, Try.ntmps166
    go_wp2_with fail
    clear hW1
    refine wp_region_quiet_below (by kernel_rfl) (by kernel_rfl) ?_
    repeat (go_big_quiet_step (first | (go_at_call 79; exact Calls.regrown_of (l1Key_b hK hkey _)) | (go_at_call 138; exact Calls.regrown_of (l1In_b hI _))))
    refine wpQuiet_nil ?_
    intro _ hw'
    obtain ⟨⟨dq, osq⟩, hw''⟩ := hw'
    subst hw''
    go_wp2_with fail
    go_ret
    exact bp_no (fun h => by rw [h.2.1] at hI; cases hI) (HB.out.trans ((below_regrown _ _ _).mono HB.out.size))
  by_cases h5 : vs.length < 5
  case neg =>
    have h5' : decide ((vs.length : Int) < 5) = false := by simp; omega
    go_enter Try.func166, Try.ntmps166
    go_wp2_with fail
    clear hW1
    refine wp_region_quiet_below (by kernel_rfl) (by kernel_rfl) ?_
    repeat (go_big_quiet_step (first | (go_at_call 79; exact Calls.regrown_of (l1Key_b hK hkey _)) | (go_at_call 138; exact Calls.regrown_of (l1In_b hI _))))
    refine wpQuiet_nil ?_
    intro _ hw'
    obtain ⟨⟨dq, osq⟩, hw''⟩ := hw'
    subst hw''
    go_wp2_with fail
    go_ret
    exact bp_no (fun h => by have := h.2.2.1; omega) (HB.out.trans ((below_regrown _ _ _).mono HB.out.size))
  have h5' : decide ((vs.length : Int) < 5) = true := by simp; omega
  by_cases h9 : ep < 99
  case neg =>
    have h9' : decide (ep < 99) = false := by simpa using h9
    go_enter Try.func166, Try.ntmps166
    go_wp2_with fail
    clear hW1
    refine wp_region_quiet_below (by kernel_rfl) (by kernel_rfl) ?_
    repeat (go_big_quiet_step (first | (go_at_call 79; exact Calls.regrown_of (l1Key_b hK hkey _)) | (go_at_call 138; exact Calls.regrown_of (l1In_b hI _))))
    refine wpQuiet_nil ?_
    intro _ hw'
    obtain ⟨⟨dq, osq⟩, hw''⟩ := hw'
    subst hw''
    go_wp2_with fail
    go_ret
    exact bp_no (fun h => by have := h.2.2.2.1; omega) (HB.out.trans ((below_regrown _ _ _).mono HB.out.size))
  have h9' : decide (ep < 99) = true := by simpa using h9
  go_enter Try.func166, Try.ntmps166
  go_wp2_with fail
  clear hW1
  refine wp_region_quiet_below (by kernel_rfl) (by kernel_rfl) ?_
  repeat (go_big_quiet_step (first | (go_at_call 79; exact Calls.regrown_of (l1Key_b hK hkey _)) | (go_at_call 138; exact Calls.regrown_of (l1In_b hI _)) | (go_at_call 189; exact Calls.regrown_of (l5Find_is HF.out ep _ cap _ (HV.out.below (below_regrown _ _ _)) hlen))))
  refine wpQuiet_nil ?_
  intro _ hw'
  obtain ⟨⟨dq, osq⟩, hw''⟩ := hw'
  subst hw''
  go_wp2_with fail
  go_ret
  exact ⟨!(vs[k].f0.toList == key.toList), rfl, by
    constructor
    · intro h
      refine ⟨hK, hI, h5, h9, fun g => ?_⟩
      have h2 := HH.out.1 g
      rw [h2] at h
      simp at h
    · intro h
      have h2 := fun e => h.2.2.2.2 (HH.out.2 e)
      simpa using h2, HB.out.trans ((below_regrown _ _ _).mono HB.out.size)⟩
end Go.Proofs.Ytjijichgoodocaa
