/- When a list of Pair is ok, as the program tells it. -/
import Derived.Test.YthjikcfpoomioaaFlPair
import Derived.Test.YthjikcfpoomioaaLst
import Derived.Test.YthjikcfpoomioaaOrd
namespace Go.Proofs.Ythjikcfpoomioaa
open Go.RowKit

def pairOkB (v : PairD) : Bool := keyOkB v.f0 && okB textB 8 v.f1
theorem meth_rank_pair (v : PairD) (w : World) : (method 391 109 (.agg #[.string v.f0, .string v.f1]) "loop.example/cadastre/impl.rank").run Try.prog w = .ok (220, .agg #[.string v.f0, .string v.f1]) w := by kernel_rfl
theorem meth_valid_pair (v : PairD) (w : World) : (method 391 109 (.agg #[.string v.f0, .string v.f1]) "loop.example/cadastre/impl.valid").run Try.prog w = .ok (221, .agg #[.string v.f0, .string v.f1]) w := by kernel_rfl

set_option maxHeartbeats 400000 in
theorem pairRank_any (v : PairD) (w : World) :
    Calls Try.prog 220 #[.agg #[.string v.f0, .string v.f1]] w fun e w' => e = .returned (.string v.f0) ∧ Below w.heap.size w w' := by
  go_enter Try.func220, Try.ntmps220
  go_wp2
  go_ret
  exact ⟨rfl, (Below.refl _ _).alloc (Nat.le_refl _) _⟩

set_option maxHeartbeats 1000000 in
theorem pairValid_any (v : PairD) (w : World) (hf : v.fits) :
    Calls Try.prog 221 #[.agg #[.string v.f0, .string v.f1]] w fun e w' => e = .returned (.bool (pairOkB v)) ∧ Below w.heap.size w w' := by
  obtain ⟨hs0, hs1⟩ := hf
  cases hK : keyOkB v.f0 <;> cases hT : okB textB 8 v.f1
  all_goals
    go_enter Try.func221, Try.ntmps221
    go_wp2_with first
      | (go_at_call 149; refine (keyOk_any _ _ hs0).mono ?_; rintro e w' ⟨rfl, rfl⟩; rw [hK])
      | (go_at_call 222; refine (textOk_any _ _ hs1).mono ?_; rintro e w' ⟨rfl, rfl⟩; rw [hT])
    go_ret
    exact ⟨ret_bool (by simp [pairOkB, hK, hT]), (Below.refl _ _).alloc (Nat.le_refl _) _⟩

set_option maxHeartbeats 1000000 in
theorem pairInv_any (v : PairD) (w : World) (hf : v.fits) :
    Calls Try.prog 136 #[.agg #[.string v.f0, .string v.f1]] w fun e w' => e = .returned (.bool (!pairOkB v)) ∧ Below w.heap.size w w' := by
  have mv := meth_valid_pair v
  have hb0 : Below w.heap.size w (w.alloc (.cells #[.string v.f0, .string v.f1] 109)) := (Below.refl _ _).alloc (Nat.le_refl _) _
  have HB := Lib.hid hb0
  clear hb0
  go_enter Try.func136, Try.ntmps136
  go_wp2_with fail
  refine (pairValid_any v _ hf).mono ?_
  rintro e w2 ⟨rfl, hb2⟩
  have HB2 := Lib.hid (HB.out.trans (hb2.mono HB.out.size))
  clear hb2
  go_wp2_with fail
  go_ret
  exact ⟨rfl, HB2.out⟩

set_option maxHeartbeats 1000000 in
theorem pairIdx_any (a : Option Addr) (vs : List PairD) (cap : Nat) (w : World) (hv : PairsIn w a vs) (hf : ∀ v ∈ vs, v.fits) (hn : vs.length ≤ maxLen) :
    Calls Try.prog 177 #[.slice a vs.length cap, .func (.func 136) #[] #[]] w fun e w' => ((e = .returned (.int .i64 (-1)) ∧ OkBy pairOkB vs vs.length) ∨ (∃ k : Nat, e = .returned (.int .i64 (k : Int)) ∧ ¬ OkBy pairOkB vs vs.length)) ∧ Below w.heap.size w w' := by
  unfold maxLen at hn
  have HV := Lib.hid hv
  have HF := Lib.hid hf
  clear hv hf
  go_enter Try.func177, Try.ntmps177
  go_wp2_with fail
  go_loopw [8] (fun i wr => ∃ k : Nat, k ≤ vs.length ∧ i = .int .i64 k ∧ Below w.heap.size w wr ∧ OkBy pairOkB vs k) (fun i _ => vs.length - (intOf i).toNat)
  case atStart => exact ⟨0, Nat.zero_le _, rfl, Below.refl _ _, OkBy.zero _ _⟩
  case round =>
    obtain ⟨k, hk, rfl, hB, hO⟩ := hrel
    have HW := Lib.hid hB
    have HO := Lib.hid hO
    clear hB hO
    by_cases hlt : k < vs.length
    · rcases HV.out.below HW.out with hnil | ⟨b1, o1, rfl, hb1, hc1⟩
      · rw [hnil] at hlt; simp at hlt
      obtain ⟨c0, c1⟩ := hc1 k hlt
      clear hc1
      go_wp2_with fail
      refine (pairInv_any vs[k] _ (HF.out _ (List.getElem_mem hlt))).mono ?_
      rintro e w2 ⟨rfl, hb2⟩
      have HW2 := Lib.hid (HW.out.trans (hb2.mono HW.out.size))
      clear hb2
      cases hK : pairOkB vs[k]
      · go_wp2_with fail
        go_ret
        exact ⟨.inr ⟨k, rfl, OkBy.not hlt hK⟩, HW2.out⟩
      · go_wp2_with fail
        go_roundw
        case rel => exact ⟨k + 1, by omega, by go_num, HW2.out, HO.out.succ hlt hK⟩
        case measure => simp [intOf]; omega
    · obtain rfl : k = vs.length := by omega
      go_wp2_with fail
      go_ret
      exact ⟨.inl ⟨rfl, HO.out⟩, HW.out⟩

set_option maxHeartbeats 1000000 in
theorem pairHas_any (a : Option Addr) (vs : List PairD) (cap : Nat) (w : World) (hv : PairsIn w a vs) (hf : ∀ v ∈ vs, v.fits) (hn : vs.length ≤ maxLen) :
    Calls Try.prog 137 #[.slice a vs.length cap, .func (.func 136) #[] #[]] w fun e w' => ∃ b : Bool, e = .returned (.bool b) ∧ (b = false ↔ OkBy pairOkB vs vs.length) ∧ Below w.heap.size w w' := by
  have HV := Lib.hid hv
  have HF := Lib.hid hf
  clear hv hf
  go_enter Try.func137, Try.ntmps137
  go_wp2_with fail
  refine (pairIdx_any a vs cap _ HV.out HF.out hn).mono ?_
  rintro e w2 ⟨⟨rfl, ho⟩ | ⟨k, rfl, ho⟩, hb2⟩
  · have HO := Lib.hid ho
    have HB := Lib.hid hb2
    clear ho hb2
    go_wp2_with fail
    go_ret
    exact ⟨false, rfl, by simpa using HO.out, HB.out⟩
  · have HO := Lib.hid ho
    have HB := Lib.hid hb2
    clear ho hb2
    go_wp2_with fail
    go_ret
    exact ⟨true, ret_bool (by simp), by simpa using HO.out, HB.out⟩

set_option maxHeartbeats 1000000 in
theorem pairAscends_any (a : Option Addr) (os : List PairD) (cap : Nat) (w : World) (hv : PairsIn w a os) (hn : os.length ≤ maxLen) :
    Calls Try.prog 138 #[.slice a os.length cap] w (BoolPost (UpBy PairD.f0 os os.length) w) := by
  unfold maxLen at hn
  have HV := Lib.hid hv
  clear hv
  go_enter Try.func138, Try.ntmps138
  go_wp2_with fail
  go_loopw [3] (fun i wr => ∃ k : Nat, k ≤ os.length ∧ i = .int .i64 (↑k + 1) ∧ Below w.heap.size w wr ∧ UpBy PairD.f0 os (k + 1)) (fun i _ => os.length + 1 - (intOf i).toNat)
  case atStart => exact ⟨0, Nat.zero_le _, rfl, Below.refl _ _, UpBy.one _ _⟩
  case round =>
    obtain ⟨k, hk, rfl, hB, hU⟩ := hrel
    have HW := Lib.hid hB
    have HU := Lib.hid hU
    clear hB hU
    by_cases hlt : k + 1 < os.length
    · rcases HV.out.below HW.out with hnil | ⟨b1, o1, rfl, hb1, hc1⟩
      · rw [hnil] at hlt; simp at hlt
      obtain ⟨c0, c1⟩ := hc1 (k + 1) hlt
      obtain ⟨d0, d1⟩ := hc1 k (by omega)
      have y0 := cell_regrown c0
      have y1 := cell_regrown c1
      have x0 := cell_regrown d0
      have x1 := cell_regrown d1
      clear hc1
      have hwk : IntKind.i64.wrap (k : Int) = (k : Int) := by rw [IntKind.wrap_i64]; omega
      have m1 := meth_rank_pair os[k + 1]
      have m2 := meth_rank_pair os[k]
      have HO := Lib.hid (bytesLess_le os[k + 1].f0.toList os[k].f0.toList)
      cases hO : Op.bytesLess os[k].f0.toList os[k + 1].f0.toList
      all_goals
        go_wp2_with fail
        refine wp_region_quiet_below (by kernel_rfl) (by kernel_rfl) ?_
        repeat (go_big_quiet_step ((go_at_call 220; exact Calls.regrown_of (pairRank_any _ _))))
        refine wpQuiet_nil ?_
        intro _ hw'
        obtain ⟨⟨dq, osq⟩, hw''⟩ := hw'
        subst hw''
        clear m1 m2
        go_wp2_with fail
      · go_ret
        exact ⟨false, rfl, by simp only [Bool.false_eq_true, false_iff]; intro h; have := h (k + 1) hlt hlt k (by omega) rfl; rw [HO.out, hO] at this; exact absurd this (by decide), HW.out.trans ((below_regrown _ _ _).mono HW.out.size)⟩
      · go_roundw
        case rel => exact ⟨k + 1, by omega, by go_num, HW.out.trans ((below_regrown _ _ _).mono HW.out.size), HU.out.succ hlt (by rw [HO.out, hO]; rfl)⟩
        case measure => simp [intOf]; omega
    · go_wp2_with fail
      go_ret
      exact ⟨true, rfl, by simp only [true_iff]; exact fun i h hk' j hj e => HU.out i h (by omega) j hj e, HW.out⟩

set_option maxHeartbeats 1000000 in
theorem pairListed_any (a : Option Addr) (vs : List PairD) (cap : Nat) (w : World) (hv : PairsIn w a vs) (hf : ∀ v ∈ vs, v.fits) (hn : vs.length ≤ maxLen) :
    Calls Try.prog 73 #[.slice a vs.length cap] w (BoolPost (LstOk pairOkB PairD.f0 vs vs.length) w) := by
  have HV := Lib.hid hv
  have HF := Lib.hid hf
  clear hv hf
  go_enter Try.func73, Try.ntmps73
  go_wp2_with fail
  refine (pairHas_any a vs cap _ HV.out HF.out hn).mono ?_
  rintro e w2 ⟨b, rfl, hb, hb2⟩
  have HI := Lib.hid hb
  have HB := Lib.hid hb2
  clear hb hb2
  cases b
  · go_wp2_with fail
    refine (pairAscends_any a vs cap _ (HV.out.below HB.out) hn).mono ?_
    rintro e w3 ⟨b, rfl, hb, hb3⟩
    have HI3 := Lib.hid hb
    have HB3 := Lib.hid (HB.out.trans (hb3.mono HB.out.size))
    clear hb hb3
    go_wp2_with fail
    go_ret
    exact ⟨b, rfl, ⟨fun h => ⟨HI.out.1 (by simp), HI3.out.1 h⟩, fun h => HI3.out.2 h.2⟩, HB3.out⟩
  · go_wp2_with fail
    go_ret
    exact ⟨false, rfl, by simp only [Bool.false_eq_true, false_iff]; exact fun h => absurd (HI.out.2 h.1) (by decide), HB.out⟩

set_option maxHeartbeats 1000000 in
theorem pairListOk_any (a : Option Addr) (vs : List PairD) (cap : Nat) (w : World) (hv : PairsIn w a vs) (hf : ∀ v ∈ vs, v.fits) (hn : vs.length ≤ maxLen) :
    Calls Try.prog 18 #[.slice a vs.length cap] w (BoolPost (LstOk pairOkB PairD.f0 vs vs.length) w) := by
  have HV := Lib.hid hv
  have HF := Lib.hid hf
  clear hv hf
  go_enter Try.func18, Try.ntmps18
  go_wp2_with fail
  refine (pairListed_any a vs cap _ HV.out HF.out hn).mono ?_
  rintro e w2 ⟨b, rfl, hb, hb2⟩
  have HI := Lib.hid hb
  have HB := Lib.hid hb2
  clear hb hb2
  go_wp2_with fail
  go_ret
  exact ⟨b, rfl, HI.out, HB.out⟩
end Go.Proofs.Ythjikcfpoomioaa
