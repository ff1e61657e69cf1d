/- When a list of Pair is ok, as the model tells it. -/
import Derived.Test.YthjikcfpoomioaaPairI
import Derived.Test.YthjikcfpoomioaaLst
namespace Go.Proofs.Ythjikcfpoomioaa
open Go.RowKit

set_option maxRecDepth 100000 in
set_option maxHeartbeats 2000000 in
theorem l11ViewOk_any (a : Option Addr) (vs : List PairD) (cap : Nat) (w : World) (hv : PairsIn w a vs) (hf : ∀ v ∈ vs, v.fits) (hn : vs.length ≤ maxLen) :
    Calls Try.prog 71 #[.slice a vs.length cap] w (BoolPost (LstOk pairOkB PairD.f0 vs vs.length) w) := by
  unfold maxLen at hn
  have HV := Lib.hid hv
  have HF := Lib.hid hf
  clear hv hf
  go_enter Try.func71, Try.ntmps71
  go_wp2_with fail
  go_loopw [3] (fun i wr => ∃ k : Nat, k ≤ vs.length ∧ i = .int .i64 k ∧ Below w.heap.size w wr ∧ LstOk pairOkB PairD.f0 vs k) (fun i _ => vs.length - (intOf i).toNat)
  case atStart => exact ⟨0, Nat.zero_le _, rfl, Below.refl _ _, LstOk.zero _ _ _⟩
  case round =>
    obtain ⟨k, hk, hik, hB, hM⟩ := hrel
    have HW := Lib.hid hB
    have HM := Lib.hid hM
    clear hB hM
    by_cases hlt : k < vs.length
    · rcases HV.out.below HW.out with hnil | ⟨b1, o1, rfl, hb1, hc1⟩
      · rw [hnil] at hlt; simp at hlt
      obtain ⟨c0, c1⟩ := hc1 k hlt
      obtain ⟨hks0, hks1⟩ := HF.out _ (List.getElem_mem hlt)
      have HC := Lib.hid hc1
      clear hc1
      rcases Nat.eq_zero_or_pos k with rfl | hk0
      · have hik0 : _ = Value.int .i64 0 := hik
        subst hik0
        clear hik
        simp only [Nat.zero_mul, Nat.add_zero] at c0 c1
        cases hK : keyOkB vs[0].f0 <;> cases hT : okB textB 8 vs[0].f1
        all_goals
          go_wp2_with fail
          go_quiet ((first | (go_at_call 87; exact Calls.quiet_of_same (l1Key_is hK hks0 _)) | (go_at_call 135; exact Calls.quiet_of_same (l1Text_is hT hks1 _))))
          go_wp2_with fail
        all_goals first
          | (go_ret; exact ⟨false, rfl, by simpa using LstOk.not_ok hlt (by simp [pairOkB, hK, hT]), Below.drewN HW.out _⟩)
          | (go_roundw
             case rel => exact ⟨0 + 1, by omega, by go_num, Below.drewN HW.out _, LstOk.one hlt (by simp [pairOkB, hK, hT])⟩
             case measure => simp [intOf]; omega)
      · obtain ⟨j, rfl⟩ : ∃ j, k = j + 1 := ⟨k - 1, by omega⟩
        have hj : j < vs.length := by omega
        have hwj : IntKind.i64.wrap (j : Int) = (j : Int) := by rw [IntKind.wrap_i64]; omega
        have hz0 : ((j : Int) + 1 == 0) = false := by rw [beq_eq_false_iff_ne]; omega
        obtain rfl := hik
        obtain ⟨d0, d1⟩ := HC.out j hj
        cases hK : keyOkB vs[j + 1].f0 <;> cases hT : okB textB 8 vs[j + 1].f1 <;> cases hO : (Op.bytesLess vs[j + 1].f0.toList vs[j].f0.toList || vs[j + 1].f0.toList == vs[j].f0.toList)
        all_goals
          go_wp2_with fail
          go_quiet ((first | (go_at_call 87; exact Calls.quiet_of_same (l1Key_is hK hks0 _)) | (go_at_call 135; exact Calls.quiet_of_same (l1Text_is hT hks1 _))))
          go_wp2_with fail
        all_goals first
          | (go_ret; exact ⟨false, rfl, by simpa using LstOk.not_up hlt hO, Below.drewN HW.out _⟩)
          | (go_ret; exact ⟨false, rfl, by simpa using LstOk.not_ok hlt (by simp [pairOkB, hK, hT]), Below.drewN HW.out _⟩)
          | (go_roundw
             case rel => exact ⟨j + 1 + 1, by omega, by go_num, Below.drewN HW.out _, HM.out.succ hlt (by simp [pairOkB, hK, hT]) hO⟩
             case measure => simp [intOf]; omega)
    · obtain rfl := hik
      obtain rfl : k = vs.length := by omega
      go_wp2_with fail
      go_ret
      exact ⟨true, rfl, by simpa using HM.out, HW.out⟩

set_option maxHeartbeats 400000 in
theorem specViewOk_any (a : Option Addr) (vs : List PairD) (cap : Nat) (w : World) (hv : PairsIn w a vs) (hf : ∀ v ∈ vs, v.fits) (hn : vs.length ≤ maxLen) :
    Calls Try.prog 16 #[.slice a vs.length cap] w (BoolPost (LstOk pairOkB PairD.f0 vs vs.length) w) := by
  have HV := Lib.hid hv
  have HF := Lib.hid hf
  clear hv hf
  go_enter Try.func16, Try.ntmps16
  go_wp2_with fail
  refine (l11ViewOk_any a vs cap _ HV.out HF.out hn).mono ?_
  rintro e w2 ⟨b, rfl, hb, hb2⟩
  have HI := Lib.hid hb
  have HB := Lib.hid hb2
  clear hb hb2
  go_wp2_with fail
  go_ret
  exact ⟨b, rfl, HI.out, HB.out⟩
end Go.Proofs.Ythjikcfpoomioaa
