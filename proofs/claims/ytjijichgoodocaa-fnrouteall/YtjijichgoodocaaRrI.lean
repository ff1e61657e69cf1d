/- Whether what is known is right by a map of parts, as the program tells it. -/
import Derived.Test.YtjijichgoodocaaMeetP
import Derived.Test.YtjijichgoodocaaMeetC
import Derived.WalkMore
import Derived.Deep.LoopGhost
namespace Go.Proofs.Ytjijichgoodocaa
open Go.RowKit

def PairOkR (ks : List KnownD) (vs : List RowD) (i j : Nat) : Prop := ∀ h : i < ks.length, meetB ks[i].f0 ks[i].f1 (loOf vs j) (hiOf vs j) = true → nodeOf vs j = ks[i].f2
def RowsRight (ks : List KnownD) (vs : List RowD) (k : Nat) : Prop := ∀ i, i < k → ∀ j, j < vs.length → PairOkR ks vs i j
def RightP (ks : List KnownD) (ep : Int) (vs : List RowD) : Prop := RouteOkP ks ∧ PmapOkP ep vs ∧ RowsRight ks vs ks.length
theorem RowsRight.zero (ks : List KnownD) (vs : List RowD) : RowsRight ks vs 0 := fun _ h => absurd h (by omega)
theorem RowsRight.succ {ks : List KnownD} {vs : List RowD} {k : Nat} (h : RowsRight ks vs k) (g : ∀ j, j < vs.length → PairOkR ks vs k j) : RowsRight ks vs (k + 1) := fun i hi j hj => by
  by_cases e : i = k
  · subst e; exact g j hj
  · exact h i (by omega) j hj
theorem right_no {ks : List KnownD} {ep : Int} {vs : List RowD} {i j : Nat} (hi : i < ks.length) (hj : j < vs.length) (hm : meetB ks[i].f0 ks[i].f1 (loOf vs j) (hiOf vs j) = true) (hn : nodeOf vs j ≠ ks[i].f2) : ¬ RightP ks ep vs := fun h => hn (h.2.2 i hi j hj hi hm)
theorem less_le_trans {x y z : List UInt8} (h : Op.bytesLess y x = false) (k : Op.bytesLess y z = true) : Op.bytesLess x z = true := by
  rw [bytesLess_eq] at *
  simp only [decide_eq_true_eq, decide_eq_false_iff_not] at *
  exact List.lt_of_le_of_lt (List.not_lt.1 h) k
theorem meet_far {k0 k1 lo hi : ByteArray} (hne : k1.toList.isEmpty = false) (hge : Op.bytesLess lo.toList k1.toList = false) : meetB k0 k1 lo hi = false := by
  have hlow : Op.bytesLess (lowM k0 lo).toList k1.toList = false := by
    unfold lowM
    split
    · exact hge
    · rename_i h
      cases hk : Op.bytesLess k0.toList k1.toList
      · rfl
      · rw [less_le_trans (by simpa using h) hk] at hge; cases hge
  have hs : spanOkB (lowM k0 lo) (highM k1 hi) = false := by
    unfold spanOkB highM
    rw [if_neg (by rw [hne]; decide)]
    split
    · rw [hne, hlow]; simp
    · rename_i he
      split
      · rename_i hl
        cases hk : Op.bytesLess (lowM k0 lo).toList hi.toList
        · have : hi.toList.isEmpty = false := by simpa using he
          rw [this]; simp
        · rw [less_trans hk hl] at hlow; cases hlow
      · rw [hne, hlow]; simp
  unfold meetB
  rw [hs, Bool.and_false]
theorem rows_mono {ep : Int} {vs : List RowD} (h : PmapOkP ep vs) {z : List UInt8} {j : Nat} (hz : Op.bytesLess (loOf vs j).toList z = false) : ∀ d, j + d < vs.length → Op.bytesLess (loOf vs (j + d)).toList z = false
  | 0, _ => hz
  | d + 1, hd => by
    have ih := rows_mono h hz d (by omega)
    have hup := (h.1 (j + d + 1) hd hd).2.2.1 (j + d) (by omega) rfl
    rw [bytesLess_le] at hup
    rw [loOf_lt (by omega)] at ih
    have hlt : Op.bytesLess vs[j + d].f0.toList vs[j + d + 1].f0.toList = true := by simpa using hup
    show Op.bytesLess (loOf vs (j + d + 1)).toList z = false
    rw [loOf_lt (show j + d + 1 < vs.length from hd)]
    cases hk : Op.bytesLess vs[j + d + 1].f0.toList z
    · rfl
    · rw [less_trans hlt hk] at ih; cases ih
theorem right_rest {ks : List KnownD} {ep : Int} {vs : List RowD} {i j : Nat} (hp : PmapOkP ep vs) (hi : i < ks.length) (h : ∀ j', j' < j → PairOkR ks vs i j') (hne : ks[i].f1.toList.isEmpty = false) (hge : Op.bytesLess (loOf vs j).toList ks[i].f1.toList = false) : ∀ j', j' < vs.length → PairOkR ks vs i j' := fun j' hj' => by
  by_cases hlt : j' < j
  · exact h j' hlt
  · intro _ hm
    have e : j' = j + (j' - j) := by omega
    rw [e, meet_far hne (rows_mono hp hge (j' - j) (by omega))] at hm
    cases hm
theorem kRows_at (ep : Int) (vs : List RowD) {n j : Nat} (h : j < (kRows ep vs n).length) : (kRows ep vs n)[j] = kRow ep vs j := by simp [kRows]
theorem kRow_fits {ep : Int} {vs : List RowD} (hf : ∀ v ∈ vs, v.fits) {j : Nat} (hj : j < vs.length) : (loOf vs j).size ≤ maxLen ∧ (hiOf vs j).size ≤ maxLen := by
  refine ⟨by rw [loOf_lt hj]; exact hf _ (List.getElem_mem hj), ?_⟩
  by_cases h : j + 1 < vs.length
  · rw [hiOf_lt h]; exact hf _ (List.getElem_mem h)
  · rw [hiOf_ge h]; unfold maxLen; exact Nat.zero_le _

set_option maxRecDepth 100000 in
set_option maxHeartbeats 8000000 in
theorem routeRight_any (a : Option Addr) (ks : List KnownD) (cap : Nat) (ep : Int) (am : Option Addr) (vs : List RowD) (cm : Nat) (w : World) (hk : KnownsIn w a ks) (hkf : ∀ v ∈ ks, v.fits) (hkn : ks.length ≤ maxLen) (hv : RowsIn w am vs) (hf : ∀ v ∈ vs, v.fits) (hn : vs.length ≤ 1048576) :
    Calls Try.prog 59 #[.slice a ks.length cap, .agg #[.int .i64 ep, .slice am vs.length cm]] w (BoolPost (RightP ks ep vs) w) := by
  have HK := Lib.hid hk
  have HKF := Lib.hid hkf
  have HKN := Lib.hid hkn
  unfold maxLen at hkn
  have HV := Lib.hid hv
  have HF := Lib.hid hf
  have hn2 : vs.length ≤ maxLen := by unfold maxLen; omega
  have HN2 := Lib.hid hn2
  clear hk hkf hv hf hn2
  obtain ⟨W0, hW0⟩ : ∃ W0, w.alloc (.cells #[.int .i64 ep, .slice am vs.length cm] 90) = W0 := ⟨_, rfl⟩
  have B0 : Below w.heap.size w W0 := by rw [← hW0]; exact (Below.refl _ _).alloc (Nat.le_refl _) _
  have s0 : w.heap.size < W0.heap.size := by rw [← hW0]; simp
  have x0 : W0.cell? ⟨w.heap.size, 0, none⟩ = some (.int .i64 ep) := by rw [← hW0]; simp [go_sem]
  have x1 : W0.cell? ⟨w.heap.size, 1, none⟩ = some (.slice am vs.length cm) := by rw [← hW0]; simp [go_sem]
  have HB0 := Lib.hid B0
  clear B0
  go_enter Try.func59, Try.ntmps59
  go_wp2
  go_step3
  go_wp2_with fail
  clear hW0
  refine (routeOk_any a ks cap _ (HK.out.below HB0.out) HKF.out HKN.out).mono ?_
  rintro e w1 ⟨b, rfl, hb, hb1⟩
  have HI := Lib.hid hb
  replace x0 := (hb1.cell (p := ⟨w.heap.size, 0, none⟩) s0).trans x0
  replace x1 := (hb1.cell (p := ⟨w.heap.size, 1, none⟩) s0).trans x1
  replace s0 : w.heap.size < w1.heap.size := Nat.lt_of_lt_of_le s0 hb1.size
  have HB1 := Lib.hid (HB0.out.trans (hb1.mono HB0.out.size))
  clear hb hb1
  cases b
  · go_wp2_with fail
    try rw [Exit.noGoto_ret]
    go_ret
    exact BoolPost.no (fun h => absurd (HI.out.2 h.1) (by decide)) HB1.out
  have HRK := Lib.hid (HI.out.1 (by simp))
  go_wp2_with fail
  refine (pmapOk_any ep am vs cm _ (HV.out.below HB1.out) HF.out HN2.out).mono ?_
  rintro e w2 ⟨b, rfl, hb, hb2⟩
  have HI2 := Lib.hid hb
  replace x0 := (hb2.cell (p := ⟨w.heap.size, 0, none⟩) s0).trans x0
  replace x1 := (hb2.cell (p := ⟨w.heap.size, 1, none⟩) s0).trans x1
  replace s0 : w.heap.size < w2.heap.size := Nat.lt_of_lt_of_le s0 hb2.size
  have HB2 := Lib.hid (HB1.out.trans (hb2.mono HB1.out.size))
  clear hb hb2
  cases b
  · go_wp2_with fail
    try rw [Exit.noGoto_ret]
    go_ret
    exact BoolPost.no (fun h => absurd (HI2.out.2 h.2.1) (by decide)) HB2.out
  have HPM := Lib.hid (HI2.out.1 (by simp))
  go_wp2_with fail
  refine (routeAll_any ep am vs cm _ (HV.out.below HB2.out) HF.out hn).mono ?_
  rintro e w3 ⟨us, hR, ar, cr, rfl, hat, hb3⟩
  obtain rfl : us = kRows ep vs vs.length := by
    rcases hR with ⟨_, h⟩ | ⟨h, _⟩
    · exact h
    · exact absurd HPM.out h
  have HRows := Lib.hid hat.in1
  have HB3 := Lib.hid (HB2.out.trans (hb3.mono HB2.out.size))
  clear hb3 hR hat HI HI2 x0 x1 s0
  rw [kRows_len]
  go_wp2_with fail
  go_step3
  go_wp2_with fail
  go_loopg [24] ks.length (fun g i wr => ∃ k : Nat, k + g = ks.length ∧ i = .int .i64 k ∧ Below w3.heap.size w3 wr ∧ RowsRight ks vs k)
  case atStart => exact ⟨0, by omega, rfl, Below.refl _ _, RowsRight.zero _ _⟩
  case round =>
    obtain ⟨k, hkg, rfl, hB, hM⟩ := hrel
    have HW := Lib.hid hB
    have HM := Lib.hid hM
    clear hB hM
    by_cases hlt : k < ks.length
    case neg =>
      obtain rfl : k = ks.length := by omega
      go_wp2_with fail
      try rw [Exit.noGoto_ret]
      go_ret
      exact BoolPost.yes ⟨HRK.out, HPM.out, HM.out⟩ (HB3.out.trans (HW.out.mono HB3.out.size))
    obtain ⟨wo, rfl⟩ : ∃ V, V = wr := ⟨_, rfl⟩
    obtain ⟨g, rfl⟩ : ∃ g, gk = g + 1 := ⟨gk - 1, by omega⟩
    rcases HK.out.below (HB3.out.trans (HW.out.mono HB3.out.size)) with hnil | ⟨b1, o1, rfl, hb1, hc1⟩
    · rw [hnil] at hlt; simp at hlt
    obtain ⟨c0, c1, c2, c3⟩ := hc1 k hlt
    clear hc1
    obtain ⟨hs0, hs1⟩ := HKF.out _ (List.getElem_mem hlt)
    obtain ⟨Wk, hWk⟩ : ∃ Wk, wo.alloc (.cells #[.string ks[k].f0, .string ks[k].f1, .int .i64 ks[k].f2, .int .i64 ks[k].f3] 84) = Wk := ⟨_, rfl⟩
    have bk : Below wo.heap.size wo Wk := by rw [← hWk]; exact (Below.refl _ _).alloc (Nat.le_refl _) _
    have sk : wo.heap.size < Wk.heap.size := by rw [← hWk]; simp
    have d0 : Wk.cell? ⟨wo.heap.size, 0, none⟩ = some (.string ks[k].f0) := by rw [← hWk]; simp [go_sem]
    have d1 : Wk.cell? ⟨wo.heap.size, 1, none⟩ = some (.string ks[k].f1) := by rw [← hWk]; simp [go_sem]
    have d2 : Wk.cell? ⟨wo.heap.size, 2, none⟩ = some (.int .i64 ks[k].f2) := by rw [← hWk]; simp [go_sem]
    have d3 : Wk.cell? ⟨wo.heap.size, 3, none⟩ = some (.int .i64 ks[k].f3) := by rw [← hWk]; simp [go_sem]
    have HWk := Lib.hid (HW.out.trans (bk.mono HW.out.size))
    clear bk
    go_wp2_with fail
    clear hWk
    go_loopg [30] vs.length (fun g i wr => ∃ j : Nat, j + g = vs.length ∧ i = .int .i64 j ∧ Below Wk.heap.size Wk wr ∧ (∀ j', j' < j → PairOkR ks vs k j'))
    case atStart => exact ⟨0, by omega, rfl, Below.refl _ _, fun j' h => absurd h (by omega)⟩
    case round =>
      obtain ⟨j, hjg, rfl, hB2, hMj⟩ := hrel
      have HW2 := Lib.hid hB2
      have HMj := Lib.hid hMj
      replace d0 := (hB2.cell (p := ⟨wo.heap.size, 0, none⟩) sk).trans d0
      replace d1 := (hB2.cell (p := ⟨wo.heap.size, 1, none⟩) sk).trans d1
      replace d2 := (hB2.cell (p := ⟨wo.heap.size, 2, none⟩) sk).trans d2
      replace d3 := (hB2.cell (p := ⟨wo.heap.size, 3, none⟩) sk).trans d3
      have sk2 : wo.heap.size < wr.heap.size := Nat.lt_of_lt_of_le sk hB2.size
      clear hB2 hMj
      by_cases hjt : j < vs.length
      case neg =>
        obtain rfl : j = vs.length := by omega
        go_wp2_with fail
        go_roundg g
        case rel => exact ⟨k + 1, by omega, by go_num, HWk.out.trans (HW2.out.mono HWk.out.size), HM.out.succ HMj.out⟩
        case measure => omega
      obtain ⟨g2, rfl⟩ : ∃ g2, gk = g2 + 1 := ⟨gk - 1, by omega⟩
      have hjr : j < (kRows ep vs vs.length).length := by rw [kRows_len]; exact hjt
      rcases HRows.out.below (HWk.out.trans (HW2.out.mono HWk.out.size)) with hnil | ⟨b2, o2, rfl, hb2, hc2⟩
      · rw [hnil] at hjr; simp at hjr
      obtain ⟨e0, e1, e2, e3⟩ := hc2 j hjr
      rw [kRows_at] at e0 e1 e2 e3
      simp only [kRow] at e0 e1 e2 e3
      clear hc2
      obtain ⟨ht0, ht1⟩ := kRow_fits (ep := ep) HF.out hjt
      obtain ⟨Wj, hWj⟩ : ∃ Wj, wr.alloc (.cells #[.string (loOf vs j), .string (hiOf vs j), .int .i64 (nodeOf vs j), .int .i64 ep] 84) = Wj := ⟨_, rfl⟩
      have bj : Below wr.heap.size wr Wj := by rw [← hWj]; exact (Below.refl _ _).alloc (Nat.le_refl _) _
      have sj : wr.heap.size < Wj.heap.size := by rw [← hWj]; simp
      have f0 : Wj.cell? ⟨wr.heap.size, 0, none⟩ = some (.string (loOf vs j)) := by rw [← hWj]; simp [go_sem]
      have f1 : Wj.cell? ⟨wr.heap.size, 1, none⟩ = some (.string (hiOf vs j)) := by rw [← hWj]; simp [go_sem]
      have f2 : Wj.cell? ⟨wr.heap.size, 2, none⟩ = some (.int .i64 (nodeOf vs j)) := by rw [← hWj]; simp [go_sem]
      have f3 : Wj.cell? ⟨wr.heap.size, 3, none⟩ = some (.int .i64 ep) := by rw [← hWj]; simp [go_sem]
      replace d0 := (bj.cell (p := ⟨wo.heap.size, 0, none⟩) sk2).trans d0
      replace d1 := (bj.cell (p := ⟨wo.heap.size, 1, none⟩) sk2).trans d1
      replace d2 := (bj.cell (p := ⟨wo.heap.size, 2, none⟩) sk2).trans d2
      have sk3 : wo.heap.size < Wj.heap.size := by omega
      have HWj := Lib.hid (HW2.out.trans (bj.mono HW2.out.size))
      clear bj
      go_wp2_with fail
      clear hWj e0 e1 e2 e3 d3 f3
      refine (spanMeet_any ks[k].f0 ks[k].f1 (loOf vs j) (hiOf vs j) _ hs0 hs1 ht0 ht1).mono ?_
      rintro e w5 ⟨rfl, hb5⟩
      replace d0 := (hb5.cell (p := ⟨wo.heap.size, 0, none⟩) sk3).trans d0
      replace d1 := (hb5.cell (p := ⟨wo.heap.size, 1, none⟩) sk3).trans d1
      replace d2 := (hb5.cell (p := ⟨wo.heap.size, 2, none⟩) sk3).trans d2
      replace f0 := (hb5.cell (p := ⟨wr.heap.size, 0, none⟩) sj).trans f0
      replace f2 := (hb5.cell (p := ⟨wr.heap.size, 2, none⟩) sj).trans f2
      have sk4 : wo.heap.size < w5.heap.size := Nat.lt_of_lt_of_le sk3 hb5.size
      have sj4 : wr.heap.size < w5.heap.size := Nat.lt_of_lt_of_le sj hb5.size
      have HW5 := Lib.hid (HWj.out.trans (hb5.mono HWj.out.size))
      clear hb5 f1
      obtain ⟨W6, hW6⟩ : ∃ W6, w5.alloc (.cells #[.string (mLo ks[k].f0 ks[k].f1 (loOf vs j) (hiOf vs j)), .string (mHi ks[k].f0 ks[k].f1 (loOf vs j) (hiOf vs j))] 47) = W6 := ⟨_, rfl⟩
      have b6 : Below w5.heap.size w5 W6 := by rw [← hW6]; exact (Below.refl _ _).alloc (Nat.le_refl _) _
      replace d0 := (b6.cell (p := ⟨wo.heap.size, 0, none⟩) sk4).trans d0
      replace d1 := (b6.cell (p := ⟨wo.heap.size, 1, none⟩) sk4).trans d1
      replace d2 := (b6.cell (p := ⟨wo.heap.size, 2, none⟩) sk4).trans d2
      replace f0 := (b6.cell (p := ⟨wr.heap.size, 0, none⟩) sj4).trans f0
      replace f2 := (b6.cell (p := ⟨wr.heap.size, 2, none⟩) sj4).trans f2
      have HW6 := Lib.hid (HW5.out.trans (b6.mono HW5.out.size))
      clear b6
      have y0 := cell_regrown d0
      have y1 := cell_regrown d1
      have z0 := cell_regrown f0
      have mk := meth_behind_key ks[k].f1
      have mo := meth_behind_open
      have HBend := Lib.hid (HB3.out.trans (HWk.out.mono HB3.out.size))
      cases hMt : meetB ks[k].f0 ks[k].f1 (loOf vs j) (hiOf vs j)
      case' true => by_cases hND : nodeOf vs j = ks[k].f2
      case neg =>
        have hne : (nodeOf vs j == ks[k].f2) = false := by simpa using hND
        go_wp2_with fail
        clear hW6
        try rw [Exit.noGoto_ret]
        go_ret
        exact BoolPost.no (right_no hlt hjt hMt hND) (HBend.out.trans (HW6.out.mono HBend.out.size))
      case' pos => have heq : (nodeOf vs j == ks[k].f2) = true := by simpa using hND
      all_goals
        have HP := Lib.hid (show PairOkR ks vs k j from fun _ hm => by first | exact hND | (rw [hMt] at hm; cases hm))
        cases hE : ks[k].f1.toList.isEmpty <;> cases hO : Op.bytesLess (loOf vs j).toList ks[k].f1.toList
        all_goals
          go_wp2_with fail
          clear hW6
          refine wp_region_quiet_below (by kernel_rfl) (by kernel_rfl) ?_
          repeat (go_big_quiet_step (first
            | (go_at_call 97; first | (with_reducible exact Calls.regrown_of (end_open _ _ _ hE)) | (with_reducible exact Calls.regrown_of (end_key _ _ _ hE)))
            | (go_at_call 246; exact Calls.regrown_of (open_behind _ _))
            | (go_at_call 249; exact Calls.regrown_of (key_behind_is hO _))))
          refine wpQuiet_nil ?_
          intro _ hw'
          obtain ⟨⟨dq, osq⟩, hw''⟩ := hw'
          subst hw''
          go_wp2_with fail
        all_goals
          have HZ := Lib.hid (HW6.out.trans ((below_regrown W6 dq osq).mono HW6.out.size))
          first
            | (go_roundg g2
               case rel => exact ⟨j + 1, by omega, by go_num, HZ.out, fun j' hj' => by
                 by_cases q : j' = j
                 · subst q; exact HP.out
                 · exact HMj.out j' (by omega)⟩
               case measure => omega)
            | (go_roundg g
               case rel => exact ⟨k + 1, by omega, by go_num, HWk.out.trans (HZ.out.mono HWk.out.size), HM.out.succ (right_rest HPM.out hlt HMj.out hE hO)⟩
               case measure => omega)
end Go.Proofs.Ytjijichgoodocaa
