/- FnExactSpanMeet: for every input the law returns true, and each argument reads afterwards as it read before. Conditions: none beyond the form's own. -/
import Derived.Test.YtandapnogpocmaaRows
import Derived.WalkKit
import Derived.ProofKit
import Derived.OpenShut
import Derived.ShutString
import Derived.Test.YtandapnogpocmaaOpen
import Derived.Test.YtandapnogpocmaaPairM
namespace Go.Proofs.Ytandapnogpocmaa.fnExactSpanMeet
open Go.ChangeShapes Go.WideShapes Go.ChangeAt Go.RowKit
open Go.ChangeMaps (open_string shut_string)
set_option linter.unusedVariables false

set_option maxHeartbeats 1000000 in
theorem walk_big (lo0 hi0 lo1 hi1 : ByteArray) (w : World) (wl0 : lo0.size ≤ maxLen) (wh0 : hi0.size ≤ maxLen) (wl1 : lo1.size ≤ maxLen) (wh1 : hi1.size ≤ maxLen)
    (hz : szSpanZ lo0 hi0 1048576 < 0 ∨ szSpanZ lo1 hi1 (szSpanZ lo0 hi0 1048576) < 0) :
    Calls Try.prog 13 #[.agg #[.string lo0, .string hi0], .agg #[.string lo1, .string hi1]] w fun e w' => e = .returned (.bool true) ∧ Below w.heap.size w w' := by
  by_cases h0 : szSpanZ lo0 hi0 1048576 < 0
  · clear hz
    go_enter Try.func13, Try.ntmps13
    go_wp2_with fail
    refine (szSpan_any _ _ _ _ wl0 wh0 (by omega) (by omega)).mono ?_; rintro e w1 ⟨rfl, hb1⟩
    go_wp2_with fail
    go_ret
    exact ⟨rfl, (((Below.refl _ _).alloc (Nat.le_refl _) _).alloc (by simp) _).trans (hb1.mono (by simp; omega))⟩
  · have h1 : szSpanZ lo1 hi1 (szSpanZ lo0 hi0 1048576) < 0 := by omega
    have hle := szSpanZ_le lo0 hi0 1048576 (by omega)
    clear hz
    go_enter Try.func13, Try.ntmps13
    go_wp2_with fail
    refine (szSpan_any _ _ _ _ wl0 wh0 (by omega) (by omega)).mono ?_; rintro e w1 ⟨rfl, hb1⟩; obtain ⟨hc1, hf1⟩ := bcell hb1
    go_wp2_with fail
    refine (szSpan_any _ _ _ _ wl1 wh1 (by omega) (by omega)).mono ?_; rintro e w2 ⟨rfl, hb2⟩
    go_wp2_with fail
    go_ret
    exact ⟨rfl, ((((Below.refl _ _).alloc (Nat.le_refl _) _).alloc (by simp) _).trans (hb1.mono (by simp; omega))).trans (hb2.mono (by have := hb1.size; simp at this; omega))⟩

theorem walk (lo0 hi0 : ByteArray) (lo1 hi1 : ByteArray) (w : World) (wl0 : lo0.size ≤ maxLen) (wh0 : hi0.size ≤ maxLen) (wl1 : lo1.size ≤ maxLen) (wh1 : hi1.size ≤ maxLen) :
    Calls Try.prog 13 #[.agg #[.string lo0, .string hi0], .agg #[.string lo1, .string hi1]] w fun e w' => e = .returned (.bool true) ∧ Below w.heap.size w w' := by
  by_cases hz : szSpanZ lo0 hi0 1048576 < 0
  · exact walk_big lo0 hi0 lo1 hi1 w wl0 wh0 wl1 wh1 (.inl hz)
  · by_cases hy : szSpanZ lo1 hi1 (szSpanZ lo0 hi0 1048576) < 0
    · exact walk_big lo0 hi0 lo1 hi1 w wl0 wh0 wl1 wh1 (.inr hy)
    · obtain ⟨x1, x2, b, c1, c2⟩ := meet_both lo0 hi0 lo1 hi1 wl0 wh0 wl1 wh1
      exact meetLaw_small lo0 hi0 lo1 hi1 w wl0 wh0 wl1 wh1 hz hy x1 x2 b c1 c2


set_option maxRecDepth 100000 in
theorem lifted (os : Os) (started : os.Started) (H : Type) (enc : TypeId × Value → H) :
    ReturnsInHanded {} Try.checked os 13 .any (Rows.fnExactSpanMeetSpec.pre6 enc Try.prog Try.f13 Rows.fnExactSpanMeetRow.domain false) (Rows.fnExactSpanMeetSpec.post enc Try.prog Try.f13 false true false false) := by
  refine returnsInHanded_of_change (C := Try.checked) own started (by kernel_rfl) Try.func13
    (ChangeSpec.witness6 (enc := enc) (C := Try.checked) false ⟨#[], #[.agg #[.string ByteArray.empty, .string ByteArray.empty], .agg #[.string ByteArray.empty, .string ByteArray.empty]], []⟩ 8 (by kernel_rfl) (by kernel_rfl) (by kernel_rfl) (by kernel_rfl)) ?_
  intro W base args ds gs before hval0 hW hcnd _
  have hval : ∀ (j : Nat) t v, Try.f13.params[j]? = some t → args[j]? = some v → Value.okWide Try.prog W .any base t v := hval0
  have hW' := hW
  obtain ⟨p, q, hA0, hV, rfl, hfz, hnd⟩ := hW
  have hA : DataW.TrodAll enc Try.prog W 0 (fun _ => true) true Try.f13.params.toList args.toList ds p := hA0
  rw [Try.params13] at hA hval
  obtain ⟨v0, vs0, d0, ds0, p0, q0, hargs, rfl, rfl, h0, r0⟩ := trodAll_cons hA
  obtain ⟨v1, vs1, d1, ds1, p1, q1, rfl, rfl, rfl, h1, r1⟩ := trodAll_cons r0
  obtain ⟨rfl, rfl, rfl⟩ := trodAll_nil r1
  obtain rfl : args = #[v0, v1] := by cases args; simp_all
  obtain ⟨rfl, rfl⟩ := trodVars_none hV
  have k0 := h0
  have lt0 : ∀ x ∈ p0, x.block < W.heap.size := by obtain ⟨m, hm⟩ := k0; exact DataW.trod_lt m _ _ _ hm
  obtain ⟨lo0, hi0, rfl, wl0, wh0⟩ := open_span38 (hval 0 38 v0 rfl rfl) h0
  have k1 := h1
  have lt1 : ∀ x ∈ p1, x.block < W.heap.size := by obtain ⟨m, hm⟩ := k1; exact DataW.trod_lt m _ _ _ hm
  obtain ⟨lo1, hi1, rfl, wl1, wh1⟩ := open_span38 (hval 1 38 v1 rfl rfl) h1
  clear hA0 hval0
  refine (walk lo0 hi0 lo1 hi1 W wl0 wh0 wl1 wh1).mono fun e W' ⟨he, bel⟩ => ?_
  subst he
  exact ⟨_, rfl, _, _, _, [], _, [], hW', trodAll_mk1 (shut_bool Try.underlying4 _), (trodAll_cons_mk (Below.trod laidOut (by kernel_rfl) (of_decide_eq_true (by kernel_rfl)) k0 bel lt0) (trodAll_cons_mk (Below.trod laidOut (by kernel_rfl) (of_decide_eq_true (by kernel_rfl)) k1 bel lt1) trodAll_mk0)), rfl, bel.frame _, fun h => by cases h⟩

theorem over : Rows.fnExactSpanMeetRow.holds Try.pinned (OpenSpec.ofChange Rows.fnExactSpanMeetSpec) :=
  OpenClaim.holds_of_wide 13 Try.f13 rfl rfl rfl rfl rfl rfl rfl ⟨rfl, rfl, rfl, rfl, rfl⟩ rfl rfl rfl rfl rfl (by kernel_rfl) Try.func13 (by kernel_rfl)
    (of_decide_eq_true (by kernel_rfl)) (by unfold Func.isWrapper; first | (rw [if_pos (by decide +kernel)]; kernel_rfl) | (rw [if_neg (by decide +kernel)]; exact ⟨rfl, rfl⟩))
    (fun os started H enc _ => lifted os started H enc)

theorem proved : Rows.FnExactSpanMeetSaid :=
  over
#print axioms proved
end Go.Proofs.Ytandapnogpocmaa.fnExactSpanMeet
