/- When a map is ok, as the model says it: the walk. -/
import Derived.Test.YtjijichgoodocaaVmSpec
import Derived.Lib.QuietBelow
namespace Go.Proofs.Ytjijichgoodocaa
open Go.RowKit

def VersOkTo (vs : List VerD) (k : Nat) : Prop := ∀ i (h : i < vs.length), i < k → verOkB vs[i].id vs[i].text vs[i].gone = true ∧ (∀ j (hj : j < vs.length), j + 1 = i → vs[j].id < vs[i].id)
def ObjOkAt (os : List ObjD) (i : Nat) (h : i < os.length) : Prop := keyOkB os[i].key = true ∧ (∀ j (hj : j < os.length), j + 1 = i → (Op.bytesLess os[i].key.toList os[j].key.toList || os[i].key.toList == os[j].key.toList) = false) ∧ 0 < os[i].vers.length ∧ VersOkTo os[i].vers os[i].vers.length
def MapOkTo (os : List ObjD) (k : Nat) : Prop := ∀ i (h : i < os.length), i < k → ObjOkAt os i h
def OkPost (os : List ObjD) (w : World) (e : Ending) (w' : World) : Prop := ∃ b : Bool, e = .returned (.bool b) ∧ (b = true ↔ MapOkTo os os.length) ∧ Below w.heap.size w w'
theorem MapOkTo.zero (os : List ObjD) : MapOkTo os 0 := fun _ _ h => absurd h (by omega)
theorem MapOkTo.succ {os : List ObjD} {k : Nat} (h : MapOkTo os k) (hk : k < os.length) (ho : ObjOkAt os k hk) : MapOkTo os (k + 1) := fun i hi hik => by
  by_cases e : i = k
  · subst e; exact ho
  · exact h i hi (by omega)
theorem VersOkTo.zero (vs : List VerD) : VersOkTo vs 0 := fun _ _ h => absurd h (by omega)
theorem VersOkTo.succ {vs : List VerD} {k : Nat} (h : VersOkTo vs k) (hk : k < vs.length) (hv : verOkB vs[k].id vs[k].text vs[k].gone = true) (ho : ∀ j (hj : j < vs.length), j + 1 = k → vs[j].id < vs[k].id) : VersOkTo vs (k + 1) := fun i hi hik => by
  by_cases e : i = k
  · subst e; exact ⟨hv, ho⟩
  · exact h i hi (by omega)
theorem not_ok {os : List ObjD} {k : Nat} (hk : k < os.length) (h : ¬ ObjOkAt os k hk) : ¬ MapOkTo os os.length := fun g => h (g k hk hk)

theorem Below.drewN {B : Nat} {a w : World} (h : Below B a w) (n : Nat) : Below B a (w.drewN n) := ⟨h.os, h.tape, h.output, h.size, h.block⟩

theorem keepL {ur u u' : World} {p1 p2 p3 p4 p5 : Addr} {y1 y2 y3 y4 y5 : Option Value} (l1 : p1.block < ur.heap.size) (l2 : p2.block < ur.heap.size) (l3 : p3.block < ur.heap.size) (l4 : p4.block < ur.heap.size) (l5 : p5.block < ur.heap.size) (hb : Below u.heap.size u u')
    (h : u.cell? p1 = y1 ∧ u.cell? p2 = y2 ∧ u.cell? p3 = y3 ∧ u.cell? p4 = y4 ∧ u.cell? p5 = y5 ∧ Below ur.heap.size ur u) : u'.cell? p1 = y1 ∧ u'.cell? p2 = y2 ∧ u'.cell? p3 = y3 ∧ u'.cell? p4 = y4 ∧ u'.cell? p5 = y5 ∧ Below ur.heap.size ur u' := by
  obtain ⟨h1, h2, h3, h4, h5, h6⟩ := h
  have hs := h6.size
  exact ⟨(hb.cell (Nat.lt_of_lt_of_le l1 hs)).trans h1, (hb.cell (Nat.lt_of_lt_of_le l2 hs)).trans h2, (hb.cell (Nat.lt_of_lt_of_le l3 hs)).trans h3, (hb.cell (Nat.lt_of_lt_of_le l4 hs)).trans h4, (hb.cell (Nat.lt_of_lt_of_le l5 hs)).trans h5, h6.trans (hb.mono hs)⟩

theorem l2VerOk_is {i : Int} {s : ByteArray} {g b : Bool} (h : verOkB i s g = b) (hs : s.size ≤ maxLen) (w : World) :
    Calls Try.prog 80 #[.agg #[.int .i64 i, .string s, .bool g]] w fun e w' => e = .returned (.bool b) ∧ Below w.heap.size w w' := h ▸ l2VerOk_any i s g w hs

theorem l1Key_is {s : ByteArray} {b : Bool} (h : keyOkB s = b) (hs : s.size ≤ maxLen) (w : World) :
    Calls Try.prog 79 #[.string s] w fun e w' => e = .returned (.bool b) ∧ w' = w := (h ▸ l1Key_any s w hs).mono fun _ _ ⟨a, b⟩ => ⟨a, b.symm⟩

set_option maxHeartbeats 1000000 in
theorem l2Ok_any (a : Option Addr) (os : List ObjD) (cap : Nat) (w : World) (hv : ObjsIn w a os) (hf : ∀ o ∈ os, o.fits) (hn : os.length ≤ maxLen) :
    Calls Try.prog 78 #[.agg #[.slice a os.length cap]] w (OkPost os w) := by
  unfold maxLen at hn
  have HV := Lib.hid hv
  have HF := Lib.hid hf
  clear hv hf
  go_enter Try.func78, Try.ntmps78
  go_wp2_with fail
  go_loopw [3] (fun i wr => ∃ k : Nat, k ≤ os.length ∧ i = .int .i64 k ∧ Below (w.heap.size + 1) (w.alloc (.cells #[.slice a os.length cap] 25)) wr ∧ MapOkTo os k) (fun i _ => os.length - (intOf i).toNat)
  case atStart => exact ⟨0, Nat.zero_le _, rfl, Below.refl _ _, MapOkTo.zero _⟩
  case round =>
    obtain ⟨k, hk, hik, hB, hM⟩ := hrel
    have cm := hB.cell (p := ⟨w.heap.size, 0, none⟩) (by simp)
    simp [go_sem] at cm
    have HW := Lib.hid (((Below.refl w.heap.size w).alloc (Nat.le_refl _) _).trans (hB.mono (by omega)))
    have HB := Lib.hid hB
    have HM := Lib.hid hM
    have hsz : w.heap.size < wr.heap.size := by have := hB.size; simp at this; omega
    clear hB hM
    by_cases hlt : k < os.length
    · rcases HV.out.below HW.out with hnil | ⟨b1, o1, rfl, hb1, hc1⟩
      · rw [hnil] at hlt; simp at hlt
      obtain ⟨c0, c1, c2⟩ := hc1 k hlt
      have hks : os[k].key.size ≤ maxLen := (HF.out _ (List.getElem_mem hlt)).1
      have hvl : os[k].vers.length ≤ maxLen := (HF.out _ (List.getElem_mem hlt)).2.1
      have HT := Lib.hid (HF.out _ (List.getElem_mem hlt)).2.2
      unfold maxLen at hvl
      have C2 := Lib.hid c2
      have HC := Lib.hid hc1
      clear c2 hc1
      rcases Nat.eq_zero_or_pos k with rfl | hk0
      · have hik0 : _ = Value.int .i64 0 := hik
        subst hik0
        clear hik
        simp only [Nat.zero_mul, Nat.add_zero] at c0 c1
        cases hK : keyOkB os[0].key
        · go_wp2_with fail
          go_quiet ((go_at_call 79; exact Calls.quiet_of_same (l1Key_is hK hks _)))
          go_wp2_with fail
          go_ret
          exact ⟨false, rfl, by simpa using not_ok hlt (fun h => by simpa [hK] using h.1), Below.drewN (HW.out.alloc HW.out.size _) _⟩
        · by_cases hL : os[0].vers.length = 0
          · go_wp2_with fail
            go_quiet ((go_at_call 79; exact Calls.quiet_of_same (l1Key_is hK hks _)))
            go_wp2_with fail
            go_ret
            exact ⟨false, rfl, by simpa using not_ok hlt (fun h => by have := h.2.2.1; omega), Below.drewN (HW.out.alloc HW.out.size _) _⟩
          · go_wp2_with fail
            go_quiet ((go_at_call 79; exact Calls.quiet_of_same (l1Key_is hK hks _)))
            go_wp2_with fail
            have hLz : ((os[0].vers.length : Int) == 0) = false := by simpa using hL
            simp only [hLz]
            clear hLz
            obtain ⟨uo, rfl⟩ : ∃ x, x = wr := ⟨_, rfl⟩
            go_loopw [5] (fun i2 ur => ∃ q : Nat, q ≤ os[0].vers.length ∧ i2 = .int .i64 q ∧ Below (uo.heap.size + 1) ((uo.alloc (.cells #[.string os[0].key, .slice os[0].at_ os[0].vers.length os[0].cap] 45)).drewN nq) ur ∧ VersOkTo os[0].vers q) (fun i2 _ => os[0].vers.length - (intOf i2).toNat)
            case atStart => exact ⟨0, Nat.zero_le _, rfl, Below.refl _ _, VersOkTo.zero _⟩
            case round =>
              obtain ⟨q, hq, hiq, hB2, hVo⟩ := hrel
              have HVo := Lib.hid hVo
              have hus : uo.heap.size + 1 ≤ wr.heap.size := by have := hB2.size; simp at this; omega
              have HE := Lib.hid ((Below.drewN (HW.out.alloc HW.out.size _) nq).trans (hB2.mono (by omega)))
              have HU := Lib.hid ((Below.drewN ((Below.refl uo.heap.size uo).alloc (Nat.le_refl _) _) nq).trans (hB2.mono (Nat.le_succ _)))
              have x1 := hB2.cell (p := ⟨uo.heap.size, 1, none⟩) (by simp)
              simp [go_sem] at x1
              have HB2 := Lib.hid hB2
              clear hVo hB2 cm c0 c1
              by_cases hlq : q < os[0].vers.length
              · rcases C2.out.below HU.out with hnil | ⟨bv, ov, hav, hbv, hcv⟩
                · rw [hnil] at hlq; simp at hlq
                rw [hav] at x1
                clear hav
                have y1 := cell_regrown x1
                have htx : os[0].vers[q].text.size ≤ maxLen := HT.out _ (List.getElem_mem hlq)
                rcases Nat.eq_zero_or_pos q with rfl | hq0
                · have hiq0 : _ = Value.int .i64 0 := hiq
                  subst hiq0
                  obtain ⟨v0, v1, v2⟩ := hcv 0 hlq
                  simp only [Nat.zero_mul, Nat.add_zero] at v0 v1 v2
                  have y2 := cell_regrown v0
                  have y3 := cell_regrown v1
                  have y4 := cell_regrown v2
                  clear hiq hcv
                  cases hOk : verOkB os[0].vers[0].id os[0].vers[0].text os[0].vers[0].gone
                  · go_wp2_with fail
                    refine wp_region_quiet_below (by kernel_rfl) (by kernel_rfl) ?_
                    repeat (go_big_quiet_step ((go_at_call 80; exact Calls.regrown_of (l2VerOk_is hOk htx _))))
                    refine wpQuiet_nil ?_
                    intro _ hw'
                    obtain ⟨⟨dq, osq⟩, hw''⟩ := hw'
                    subst hw''
                    go_wp2_with fail
                    go_ret
                    exact ⟨false, rfl, by simpa using not_ok hlt (fun h => by have := (h.2.2.2 0 hlq hlq).1; rw [hOk] at this; exact absurd this (by decide)), HE.out.trans ((below_regrown _ _ _).mono HE.out.size)⟩
                  · go_wp2_with fail
                    refine wp_region_quiet_below (by kernel_rfl) (by kernel_rfl) ?_
                    repeat (go_big_quiet_step ((go_at_call 80; exact Calls.regrown_of (l2VerOk_is hOk htx _))))
                    refine wpQuiet_nil ?_
                    intro _ hw'
                    obtain ⟨⟨dq, osq⟩, hw''⟩ := hw'
                    subst hw''
                    go_wp2_with fail
                    go_roundw
                    case rel => exact ⟨0 + 1, by omega, by go_num, HB2.out.trans ((below_regrown _ _ _).mono hus), HVo.out.succ hlq hOk (fun j hj e => by omega)⟩
                    case measure => simp [intOf]; omega
                · obtain ⟨p, rfl⟩ : ∃ p, q = p + 1 := ⟨q - 1, by omega⟩
                  have hp : p < os[0].vers.length := by omega
                  have hwp : IntKind.i64.wrap (p : Int) = (p : Int) := by rw [IntKind.wrap_i64]; omega
                  obtain rfl := hiq
                  obtain ⟨v0, v1, v2⟩ := hcv (p + 1) hlq
                  obtain ⟨t0, _, _⟩ := hcv p hp
                  have y2 := cell_regrown v0
                  have y3 := cell_regrown v1
                  have y4 := cell_regrown v2
                  have y5 := cell_regrown t0
                  clear hcv
                  cases hOk : verOkB os[0].vers[p + 1].id os[0].vers[p + 1].text os[0].vers[p + 1].gone
                  · go_wp2_with fail
                    refine wp_region_quiet_below (by kernel_rfl) (by kernel_rfl) ?_
                    repeat (go_big_quiet_step ((go_at_call 80; exact Calls.regrown_of (l2VerOk_is hOk htx _))))
                    refine wpQuiet_nil ?_
                    intro _ hw'
                    obtain ⟨⟨dq, osq⟩, hw''⟩ := hw'
                    subst hw''
                    go_wp2_with fail
                    go_ret
                    exact ⟨false, rfl, by simpa using not_ok hlt (fun h => by have := (h.2.2.2 (p + 1) hlq hlq).1; rw [hOk] at this; exact absurd this (by decide)), HE.out.trans ((below_regrown _ _ _).mono HE.out.size)⟩
                  · by_cases hid : os[0].vers[p + 1].id ≤ os[0].vers[p].id
                    · go_wp2_with fail
                      refine wp_region_quiet_below (by kernel_rfl) (by kernel_rfl) ?_
                      repeat (go_big_quiet_step ((go_at_call 80; exact Calls.regrown_of (l2VerOk_is hOk htx _))))
                      refine wpQuiet_nil ?_
                      intro _ hw'
                      obtain ⟨⟨dq, osq⟩, hw''⟩ := hw'
                      subst hw''
                      go_wp2_with fail
                      go_ret
                      exact ⟨false, rfl, by simpa using not_ok hlt (fun h => by have := (h.2.2.2 (p + 1) hlq hlq).2 p hp rfl; omega), HE.out.trans ((below_regrown _ _ _).mono HE.out.size)⟩
                    · go_wp2_with fail
                      refine wp_region_quiet_below (by kernel_rfl) (by kernel_rfl) ?_
                      repeat (go_big_quiet_step ((go_at_call 80; exact Calls.regrown_of (l2VerOk_is hOk htx _))))
                      refine wpQuiet_nil ?_
                      intro _ hw'
                      obtain ⟨⟨dq, osq⟩, hw''⟩ := hw'
                      subst hw''
                      go_wp2_with fail
                      go_roundw
                      case rel => (exact ⟨p + 1 + 1, by omega, by go_num, HB2.out.trans ((below_regrown _ _ _).mono hus), HVo.out.succ hlq hOk (fun j hj e => by obtain rfl : j = p := (by omega); omega)⟩)
                      case measure => simp [intOf]; omega
              · obtain rfl := hiq
                have hVf : VersOkTo os[0].vers os[0].vers.length := by have := HVo.out; rwa [show q = os[0].vers.length by omega] at this
                have HVf := Lib.hid hVf
                clear hVf
                go_wp2_with fail
                go_roundw
                case rel => exact ⟨0 + 1, by omega, by go_num, HB.out.trans (HU.out.mono (by omega)), HM.out.succ hlt ⟨hK, fun j hj e => by omega, by omega, HVf.out⟩⟩
                case measure => simp [intOf]; omega
      · obtain ⟨j, rfl⟩ : ∃ j, k = j + 1 := ⟨k - 1, by omega⟩
        have hj : j < os.length := by omega
        have hwj : IntKind.i64.wrap (j : Int) = (j : Int) := by rw [IntKind.wrap_i64]; omega
        obtain rfl := hik
        obtain ⟨d0, _, _⟩ := HC.out j hj
        cases hK : keyOkB os[j + 1].key
        · go_wp2_with fail
          go_quiet ((go_at_call 79; exact Calls.quiet_of_same (l1Key_is hK hks _)))
          go_wp2_with fail
          go_ret
          exact ⟨false, rfl, by simpa using not_ok hlt (fun h => by simpa [hK] using h.1), Below.drewN (HW.out.alloc HW.out.size _) _⟩
        · cases hO : (Op.bytesLess os[j + 1].key.toList os[j].key.toList || os[j + 1].key.toList == os[j].key.toList)
          · by_cases hL : os[j + 1].vers.length = 0
            · go_wp2_with fail
              go_quiet ((go_at_call 79; exact Calls.quiet_of_same (l1Key_is hK hks _)))
              go_wp2_with fail
              go_ret
              exact ⟨false, rfl, by simpa using not_ok hlt (fun h => by have := h.2.2.1; omega), Below.drewN (HW.out.alloc HW.out.size _) _⟩
            go_wp2_with fail
            go_quiet ((go_at_call 79; exact Calls.quiet_of_same (l1Key_is hK hks _)))
            go_wp2_with fail
            have hLz : ((os[j + 1].vers.length : Int) == 0) = false := by simpa using hL
            have hDz : decide ((j : Int) + 1 < (os.length : Int)) = true := decide_eq_true (by omega)
            simp only [hLz, hDz]
            clear hLz hDz
            obtain ⟨uo, rfl⟩ : ∃ x, x = wr := ⟨_, rfl⟩
            go_loopw [5] (fun i2 ur => ∃ q : Nat, q ≤ os[j + 1].vers.length ∧ i2 = .int .i64 q ∧ Below (uo.heap.size + 1) ((uo.alloc (.cells #[.string os[j + 1].key, .slice os[j + 1].at_ os[j + 1].vers.length os[j + 1].cap] 45)).drewN nq) ur ∧ VersOkTo os[j + 1].vers q) (fun i2 _ => os[j + 1].vers.length - (intOf i2).toNat)
            case atStart => exact ⟨0, Nat.zero_le _, rfl, Below.refl _ _, VersOkTo.zero _⟩
            case round =>
              obtain ⟨q, hq, hiq, hB2, hVo⟩ := hrel
              have HVo := Lib.hid hVo
              have hus : uo.heap.size + 1 ≤ wr.heap.size := by have := hB2.size; simp at this; omega
              have HE := Lib.hid ((Below.drewN (HW.out.alloc HW.out.size _) nq).trans (hB2.mono (by omega)))
              have HU := Lib.hid ((Below.drewN ((Below.refl uo.heap.size uo).alloc (Nat.le_refl _) _) nq).trans (hB2.mono (Nat.le_succ _)))
              have x1 := hB2.cell (p := ⟨uo.heap.size, 1, none⟩) (by simp)
              simp [go_sem] at x1
              have HB2 := Lib.hid hB2
              clear hVo hB2 cm c0 c1 d0
              by_cases hlq : q < os[j + 1].vers.length
              · rcases C2.out.below HU.out with hnil | ⟨bv, ov, hav, hbv, hcv⟩
                · rw [hnil] at hlq; simp at hlq
                rw [hav] at x1
                clear hav
                have y1 := cell_regrown x1
                have htx : os[j + 1].vers[q].text.size ≤ maxLen := HT.out _ (List.getElem_mem hlq)
                rcases Nat.eq_zero_or_pos q with rfl | hq0
                · have hiq0 : _ = Value.int .i64 0 := hiq
                  subst hiq0
                  obtain ⟨v0, v1, v2⟩ := hcv 0 hlq
                  simp only [Nat.zero_mul, Nat.add_zero] at v0 v1 v2
                  have y2 := cell_regrown v0
                  have y3 := cell_regrown v1
                  have y4 := cell_regrown v2
                  clear hiq hcv
                  cases hOk : verOkB os[j + 1].vers[0].id os[j + 1].vers[0].text os[j + 1].vers[0].gone
                  · go_wp2_with fail
                    refine wp_region_quiet_below (by kernel_rfl) (by kernel_rfl) ?_
                    repeat (go_big_quiet_step ((go_at_call 80; exact Calls.regrown_of (l2VerOk_is hOk htx _))))
                    refine wpQuiet_nil ?_
                    intro _ hw'
                    obtain ⟨⟨dq, osq⟩, hw''⟩ := hw'
                    subst hw''
                    go_wp2_with fail
                    go_ret
                    exact ⟨false, rfl, by simpa using not_ok hlt (fun h => by have := (h.2.2.2 0 hlq hlq).1; rw [hOk] at this; exact absurd this (by decide)), HE.out.trans ((below_regrown _ _ _).mono HE.out.size)⟩
                  · go_wp2_with fail
                    refine wp_region_quiet_below (by kernel_rfl) (by kernel_rfl) ?_
                    repeat (go_big_quiet_step ((go_at_call 80; exact Calls.regrown_of (l2VerOk_is hOk htx _))))
                    refine wpQuiet_nil ?_
                    intro _ hw'
                    obtain ⟨⟨dq, osq⟩, hw''⟩ := hw'
                    subst hw''
                    go_wp2_with fail
                    go_roundw
                    case rel => exact ⟨0 + 1, by omega, by go_num, HB2.out.trans ((below_regrown _ _ _).mono hus), HVo.out.succ hlq hOk (fun j hj e => by omega)⟩
                    case measure => simp [intOf]; omega
                · obtain ⟨p, rfl⟩ : ∃ p, q = p + 1 := ⟨q - 1, by omega⟩
                  have hp : p < os[j + 1].vers.length := by omega
                  have hwp : IntKind.i64.wrap (p : Int) = (p : Int) := by rw [IntKind.wrap_i64]; omega
                  obtain rfl := hiq
                  obtain ⟨v0, v1, v2⟩ := hcv (p + 1) hlq
                  obtain ⟨t0, _, _⟩ := hcv p hp
                  have y2 := cell_regrown v0
                  have y3 := cell_regrown v1
                  have y4 := cell_regrown v2
                  have y5 := cell_regrown t0
                  clear hcv
                  cases hOk : verOkB os[j + 1].vers[p + 1].id os[j + 1].vers[p + 1].text os[j + 1].vers[p + 1].gone
                  · go_wp2_with fail
                    refine wp_region_quiet_below (by kernel_rfl) (by kernel_rfl) ?_
                    repeat (go_big_quiet_step ((go_at_call 80; exact Calls.regrown_of (l2VerOk_is hOk htx _))))
                    refine wpQuiet_nil ?_
                    intro _ hw'
                    obtain ⟨⟨dq, osq⟩, hw''⟩ := hw'
                    subst hw''
                    go_wp2_with fail
                    go_ret
                    exact ⟨false, rfl, by simpa using not_ok hlt (fun h => by have := (h.2.2.2 (p + 1) hlq hlq).1; rw [hOk] at this; exact absurd this (by decide)), HE.out.trans ((below_regrown _ _ _).mono HE.out.size)⟩
                  · by_cases hid : os[j + 1].vers[p + 1].id ≤ os[j + 1].vers[p].id
                    · go_wp2_with fail
                      refine wp_region_quiet_below (by kernel_rfl) (by kernel_rfl) ?_
                      repeat (go_big_quiet_step ((go_at_call 80; exact Calls.regrown_of (l2VerOk_is hOk htx _))))
                      refine wpQuiet_nil ?_
                      intro _ hw'
                      obtain ⟨⟨dq, osq⟩, hw''⟩ := hw'
                      subst hw''
                      go_wp2_with fail
                      go_ret
                      exact ⟨false, rfl, by simpa using not_ok hlt (fun h => by have := (h.2.2.2 (p + 1) hlq hlq).2 p hp rfl; omega), HE.out.trans ((below_regrown _ _ _).mono HE.out.size)⟩
                    · go_wp2_with fail
                      refine wp_region_quiet_below (by kernel_rfl) (by kernel_rfl) ?_
                      repeat (go_big_quiet_step ((go_at_call 80; exact Calls.regrown_of (l2VerOk_is hOk htx _))))
                      refine wpQuiet_nil ?_
                      intro _ hw'
                      obtain ⟨⟨dq, osq⟩, hw''⟩ := hw'
                      subst hw''
                      go_wp2_with fail
                      go_roundw
                      case rel => first | exact ⟨p + 1 + 1, by omega, by go_num, HB2.out.trans ((below_regrown _ _ _).mono hus), HVo.out.succ hlq hOk (fun j hj e => by obtain rfl : j = p := (by omega); omega)⟩ | ((repeat apply Exists.intro); exact ⟨⟨p + 1 + 1, by omega, by go_num, HB2.out.trans ((below_regrown _ _ _).mono hus), HVo.out.succ hlq hOk (fun j hj e => by obtain rfl : j = p := (by omega); omega)⟩, rfl⟩)
                      case measure => simp [intOf]; omega
              · obtain rfl := hiq
                have hVf : VersOkTo os[j + 1].vers os[j + 1].vers.length := by have := HVo.out; rwa [show q = os[j + 1].vers.length by omega] at this
                have HVf := Lib.hid hVf
                clear hVf
                go_wp2_with fail
                go_roundw
                case rel => exact ⟨j + 1 + 1, by omega, by go_num, HB.out.trans (HU.out.mono (by omega)), HM.out.succ hlt ⟨hK, fun j' hj' e => by obtain rfl : j' = j := (by omega); exact hO, by omega, HVf.out⟩⟩
                case measure => simp [intOf]; omega
          · go_wp2_with fail
            go_quiet ((go_at_call 79; exact Calls.quiet_of_same (l1Key_is hK hks _)))
            go_wp2_with fail
            go_ret
            exact ⟨false, rfl, by simpa using not_ok hlt (fun h => by simpa [hO] using h.2.1 j hj rfl), Below.drewN (HW.out.alloc HW.out.size _) _⟩
    · obtain rfl := hik
      go_wp2_with fail
      go_ret
      obtain rfl : k = os.length := by omega
      exact ⟨true, rfl, by simpa using HM.out, HW.out⟩
end Go.Proofs.Ytjijichgoodocaa
