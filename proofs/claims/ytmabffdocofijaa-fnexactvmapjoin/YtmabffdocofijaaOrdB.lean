/- Whether the keys of objects ascend, as the program asks it. -/
import Derived.Test.YtmabffdocofijaaOrd
import Derived.Test.YtmabffdocofijaaLess
namespace Go.Proofs.Ytmabffdocofijaa
open Go.RowKit

def ObjsUp (os : List ObjD) (k : Nat) : Prop := ∀ i (h : i < os.length), i < k → ∀ j (hj : j < os.length), j + 1 = i → (Op.bytesLess os[i].key.toList os[j].key.toList || os[i].key.toList == os[j].key.toList) = false

set_option maxHeartbeats 1000000 in
theorem objAscends_any (a : Option Addr) (os : List ObjD) (cap : Nat) (w : World) (hv : ObjsIn w a os) (hn : os.length ≤ maxLen) :
    Calls Try.prog 157 #[.slice a os.length cap] w (BoolPost (ObjsUp os os.length) w) := by
  unfold maxLen at hn
  have HV := Lib.hid hv
  clear hv
  go_enter Try.func157, Try.ntmps157
  go_wp2_with fail
  go_loopw [3] (fun i wr => ∃ k : Nat, k ≤ os.length ∧ i = .int .i64 (↑k + 1) ∧ Below w.heap.size w wr ∧ ObjsUp os (k + 1)) (fun i _ => os.length + 1 - (intOf i).toNat)
  case atStart => exact ⟨0, Nat.zero_le _, rfl, Below.refl _ _, fun i h hk j hj e => by omega⟩
  case round =>
    obtain ⟨k, hk, rfl, hB, hU⟩ := hrel
    have HW := Lib.hid hB
    have HU := Lib.hid hU
    clear hB hU
    by_cases hlt : k + 1 < os.length
    · rcases HV.out.below HW.out with hnil | ⟨b1, o1, rfl, hb1, hc1⟩
      · rw [hnil] at hlt; simp at hlt
      obtain ⟨c0, c1, c2⟩ := hc1 (k + 1) hlt
      obtain ⟨d0, d1, d2⟩ := hc1 k (by omega)
      have y0 := cell_regrown c0
      have y1 := cell_regrown c1
      have x0 := cell_regrown d0
      have x1 := cell_regrown d1
      clear hc1 c2 d2
      have hwk : IntKind.i64.wrap (k : Int) = (k : Int) := by rw [IntKind.wrap_i64]; omega
      have m1 := meth_rank_obj os[k + 1].key os[k + 1].at_ os[k + 1].vers.length os[k + 1].cap
      have m2 := meth_rank_obj os[k].key os[k].at_ os[k].vers.length os[k].cap
      have HO := Lib.hid (bytesLess_le os[k + 1].key.toList os[k].key.toList)
      cases hO : Op.bytesLess os[k].key.toList os[k + 1].key.toList
      all_goals
        go_wp2_with fail
        refine wp_region_quiet_below (by kernel_rfl) (by kernel_rfl) ?_
        repeat (go_big_quiet_step ((go_at_call 250; exact Calls.regrown_of (objRank_any _ _ _ _ _))))
        refine wpQuiet_nil ?_
        intro _ hw'
        obtain ⟨⟨dq, osq⟩, hw''⟩ := hw'
        subst hw''
        clear m1 m2
        go_wp2_with fail
      · go_ret
        exact ⟨false, rfl, by simp only [Bool.false_eq_true, false_iff]; intro h; have := h (k + 1) hlt hlt k (by omega) rfl; rw [HO.out, hO] at this; exact absurd this (by decide), HW.out.trans ((below_regrown _ _ _).mono HW.out.size)⟩
      · go_roundw
        case rel => exact ⟨k + 1, by omega, by go_num, HW.out.trans ((below_regrown _ _ _).mono HW.out.size), fun i h hik j hj e => by
          by_cases q : i = k + 1
          · subst q; obtain rfl : j = k := by omega
            rw [HO.out, hO]; rfl
          · exact HU.out i h (by omega) j hj e⟩
        case measure => simp [intOf]; omega
    · go_wp2_with fail
      go_ret
      exact ⟨true, rfl, by simp only [true_iff]; exact fun i h hk' j hj e => HU.out i h (by omega) j hj e, HW.out⟩
end Go.Proofs.Ytmabffdocofijaa
