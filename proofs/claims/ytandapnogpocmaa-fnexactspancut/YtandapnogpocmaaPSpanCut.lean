/- FnExactSpanCut: for every input the law returns true, and each argument reads afterwards as it read before. Conditions: none beyond the form's own. -/
import Derived.Test.YtandapnogpocmaaRows
import Derived.WalkKit
import Derived.ProofKit
import Derived.OpenShut
import Derived.ShutString
import Derived.Test.YtandapnogpocmaaOpen
import Derived.Test.YtandapnogpocmaaCut
namespace Go.Proofs.Ytandapnogpocmaa.fnExactSpanCut
open Go.ChangeShapes Go.WideShapes Go.ChangeAt Go.RowKit
open Go.ChangeMaps (open_string shut_string)
set_option linter.unusedVariables false

set_option maxHeartbeats 1000000 in
theorem walk_big (lo0 hi0 a1 : ByteArray) (w : World) (wl0 : lo0.size ≤ maxLen) (wh0 : hi0.size ≤ maxLen) (hz : szSpanZ lo0 hi0 1048576 < 0 ∨ 1048576 < a1.size) :
    Calls Try.prog 11 #[.agg #[.string lo0, .string hi0], .string a1] w fun e w' => e = .returned (.bool true) ∧ Below w.heap.size w w' := by
  by_cases hk : 1048576 < a1.size
  · clear hz
    go_enter Try.func11, Try.ntmps11
    go_wp2_with fail
    go_ret
    exact ⟨rfl, (Below.refl _ _).alloc (Nat.le_refl _) _⟩
  · have hz1 : szSpanZ lo0 hi0 1048576 < 0 := by omega
    clear hz
    go_enter Try.func11, Try.ntmps11
    go_wp2_with (go_at_call 32; refine (szSpan_any _ _ _ _ wl0 wh0 (by omega) (by omega)).mono ?_; rintro e w1 ⟨rfl, hb1⟩)
    go_ret
    exact ⟨rfl, ((Below.refl _ _).alloc (Nat.le_refl _) _).trans (hb1.mono (by simp))⟩

set_option maxHeartbeats 2000000 in
theorem walk_small (lo0 hi0 a1 : ByteArray) (w : World) (wl0 : lo0.size ≤ maxLen) (wh0 : hi0.size ≤ maxLen) (hz : ¬ szSpanZ lo0 hi0 1048576 < 0) (hk : ¬ 1048576 < a1.size)
    (x1 x2 y1 y2 : ByteArray) (b : Bool) (c21 : CutIs 21 lo0 hi0 a1 x1 x2 y1 y2 b) (c23 : CutIs 23 lo0 hi0 a1 x1 x2 y1 y2 b) :
    Calls Try.prog 11 #[.agg #[.string lo0, .string hi0], .string a1] w fun e w' => e = .returned (.bool true) ∧ Below w.heap.size w w' := by
  go_enter Try.func11, Try.ntmps11
  go_wp2_with (go_at_call 32; refine (szSpan_any _ _ _ _ wl0 wh0 (by omega) (by omega)).mono ?_; rintro e w1 ⟨rfl, hb1⟩; obtain ⟨hc1, hf1⟩ := bcell hb1)
  have z1 : w.heap.size < w1.heap.size := by have := hb1.size; simp at this; omega
  refine (toSpan_any _ _ _).mono ?_; rintro e w2 ⟨rfl, hb2⟩; obtain ⟨hc2, hf2⟩ := bcell hb2
  have z2 : w.heap.size < w2.heap.size := by have := hb2.size; omega
  go_wp2_with fail
  refine (c23 _).mono ?_; rintro e w3 ⟨rfl, hb3⟩; obtain ⟨hc3, hf3⟩ := bcell hb3
  have z3 : w.heap.size < w3.heap.size := by have := hb3.size; omega
  go_wp2_with fail
  refine (toSpan_any _ _ _).mono ?_; rintro e w4 ⟨rfl, hb4⟩; obtain ⟨hc4, hf4⟩ := bcell hb4
  have z4 : w3.heap.size + 1 < w4.heap.size := by have := hb4.size; simp at this; omega
  have z4a : w3.heap.size < w4.heap.size := by omega
  go_wp2_with fail
  refine (c21 _).mono ?_; rintro e w5 ⟨rfl, hb5⟩; obtain ⟨hc5, hf5⟩ := bcell hb5
  have z5 : w3.heap.size + 1 < w5.heap.size := by have := hb5.size; omega
  have z5a : w3.heap.size < w5.heap.size := by omega
  go_wp2_with fail
  refine (eqSpan_same _ _ _).mono ?_; rintro e w6 ⟨rfl, hb6⟩; obtain ⟨hc6, hf6⟩ := bcell hb6
  have z6 : w5.heap.size + 1 < w6.heap.size := by have := hb6.size; simp at this; omega
  go_wp2_with fail
  refine (eqSpan_same _ _ _).mono ?_; rintro e w7 ⟨rfl, hb7⟩
  go_wp2_with fail
  go_ret
  refine ⟨rfl, ?_⟩
  have e1 : Below w.heap.size w w1 := ((Below.refl _ _).alloc (Nat.le_refl _) _).trans (hb1.mono (by simp))
  have e3 : Below w.heap.size w w3 := (e1.trans (hb2.mono (by omega))).trans (hb3.mono (by omega))
  have e5 : Below w.heap.size w w5 := (((e3.alloc (by omega) _).alloc (by simp; omega) _).trans (hb4.mono (by simp; omega))).trans (hb5.mono (by omega))
  exact (((e5.alloc (by omega) _).alloc (by simp; omega) _).trans (hb6.mono (by simp; omega))).trans (hb7.mono (by omega))

theorem walk (lo0 hi0 : ByteArray) (a1 : ByteArray) (w : World) (wl0 : lo0.size ≤ maxLen) (wh0 : hi0.size ≤ maxLen) (w1 : a1.size ≤ maxLen) :
    Calls Try.prog 11 #[.agg #[.string lo0, .string hi0], .string a1] w fun e w' => e = .returned (.bool true) ∧ Below w.heap.size w w' := by
  by_cases hk : 1048576 < a1.size
  · exact walk_big lo0 hi0 a1 w wl0 wh0 (.inr hk)
  · by_cases hz : szSpanZ lo0 hi0 1048576 < 0
    · exact walk_big lo0 hi0 a1 w wl0 wh0 (.inl hz)
    · obtain ⟨x1, x2, y1, y2, b, c21, c23⟩ := cut_both lo0 hi0 a1 wl0 wh0 w1
      exact walk_small lo0 hi0 a1 w wl0 wh0 hz hk x1 x2 y1 y2 b c21 c23


set_option maxRecDepth 100000 in
theorem lifted (os : Os) (started : os.Started) (H : Type) (enc : TypeId × Value → H) :
    ReturnsInHanded {} Try.checked os 11 .any (Rows.fnExactSpanCutSpec.pre6 enc Try.prog Try.f11 Rows.fnExactSpanCutRow.domain false) (Rows.fnExactSpanCutSpec.post enc Try.prog Try.f11 false true false false) := by
  refine returnsInHanded_of_change (C := Try.checked) own started (by kernel_rfl) Try.func11
    (ChangeSpec.witness6 (enc := enc) (C := Try.checked) false ⟨#[], #[.agg #[.string ByteArray.empty, .string ByteArray.empty], .string ByteArray.empty], []⟩ 8 (by kernel_rfl) (by kernel_rfl) (by kernel_rfl) (by kernel_rfl)) ?_
  intro W base args ds gs before hval0 hW hcnd _
  have hval : ∀ (j : Nat) t v, Try.f11.params[j]? = some t → args[j]? = some v → Value.okWide Try.prog W .any base t v := hval0
  have hW' := hW
  obtain ⟨p, q, hA0, hV, rfl, hfz, hnd⟩ := hW
  have hA : DataW.TrodAll enc Try.prog W 0 (fun _ => true) true Try.f11.params.toList args.toList ds p := hA0
  rw [Try.params11] at hA hval
  obtain ⟨v0, vs0, d0, ds0, p0, q0, hargs, rfl, rfl, h0, r0⟩ := trodAll_cons hA
  obtain ⟨v1, vs1, d1, ds1, p1, q1, rfl, rfl, rfl, h1, r1⟩ := trodAll_cons r0
  obtain ⟨rfl, rfl, rfl⟩ := trodAll_nil r1
  obtain rfl : args = #[v0, v1] := by cases args; simp_all
  obtain ⟨rfl, rfl⟩ := trodVars_none hV
  have k0 := h0
  have lt0 : ∀ x ∈ p0, x.block < W.heap.size := by obtain ⟨m, hm⟩ := k0; exact DataW.trod_lt m _ _ _ hm
  obtain ⟨lo0, hi0, rfl, wl0, wh0⟩ := open_span38 (hval 0 38 v0 rfl rfl) h0
  have k1 := h1
  have lt1 : ∀ x ∈ p1, x.block < W.heap.size := by obtain ⟨m, hm⟩ := k1; exact DataW.trod_lt m _ _ _ hm
  obtain ⟨a1, rfl, rfl, rfl, w1⟩ := open_string Try.underlying9 (hval 1 9 v1 rfl rfl) h1
  clear hA0 hval0
  refine (walk lo0 hi0 a1 W wl0 wh0 w1).mono fun e W' ⟨he, bel⟩ => ?_
  subst he
  exact ⟨_, rfl, _, _, _, [], _, [], hW', trodAll_mk1 (shut_bool Try.underlying4 _), (trodAll_cons_mk (Below.trod laidOut (by kernel_rfl) (of_decide_eq_true (by kernel_rfl)) k0 bel lt0) (trodAll_cons_mk (Below.trod laidOut (by kernel_rfl) (of_decide_eq_true (by kernel_rfl)) k1 bel lt1) trodAll_mk0)), rfl, bel.frame _, fun h => by cases h⟩

theorem over : Rows.fnExactSpanCutRow.holds Try.pinned (OpenSpec.ofChange Rows.fnExactSpanCutSpec) :=
  OpenClaim.holds_of_wide 11 Try.f11 rfl rfl rfl rfl rfl rfl rfl ⟨rfl, rfl, rfl, rfl, rfl⟩ rfl rfl rfl rfl rfl (by kernel_rfl) Try.func11 (by kernel_rfl)
    (of_decide_eq_true (by kernel_rfl)) (by unfold Func.isWrapper; first | (rw [if_pos (by decide +kernel)]; kernel_rfl) | (rw [if_neg (by decide +kernel)]; exact ⟨rfl, rfl⟩))
    (fun os started H enc _ => lifted os started H enc)

theorem proved : Rows.FnExactSpanCutSaid :=
  over
#print axioms proved
end Go.Proofs.Ytandapnogpocmaa.fnExactSpanCut
