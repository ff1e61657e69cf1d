/- When what is known is ok, as the program tells it. -/
import Derived.Test.YtjijichgoodocaaLie
import Derived.Test.YtjijichgoodocaaLst2
import Derived.Test.YtjijichgoodocaaRowOrd
namespace Go.Proofs.Ytjijichgoodocaa
open Go.RowKit

def knownOkB (v : KnownD) : Bool := spanOkB v.f0 v.f1 && inB v.f2 0 2 && inB v.f3 1 99
def touchB (p c : KnownD) : Bool := p.f1.toList.isEmpty || Op.bytesLess c.f0.toList p.f1.toList
def RouteOkP (vs : List KnownD) : Prop := SepOk knownOkB touchB vs vs.length ∧ vs.length ≤ 6

set_option maxRecDepth 100000 in
set_option maxHeartbeats 1000000 in
theorem knownValid_any (v : KnownD) (w : World) (hf : v.fits) :
    Calls Try.prog 118 #[.agg #[.string v.f0, .string v.f1, .int .i64 v.f2, .int .i64 v.f3]] w fun e w' => e = .returned (.bool (knownOkB v)) ∧ Below w.heap.size w w' := by
  obtain ⟨hs0, hs1⟩ := hf
  obtain ⟨W1, hW1⟩ : ∃ W1, w.alloc (.cells #[.string v.f0, .string v.f1, .int .i64 v.f2, .int .i64 v.f3] 84) = W1 := ⟨_, rfl⟩
  have B1 : Below w.heap.size w W1 := by rw [← hW1]; exact (Below.refl _ _).alloc (Nat.le_refl _) _
  have z1 : w.heap.size < W1.heap.size := by rw [← hW1]; simp
  have c0 : W1.cell? ⟨w.heap.size, 0, none⟩ = some (.string v.f0) := by rw [← hW1]; simp [go_sem]
  have c1 : W1.cell? ⟨w.heap.size, 1, none⟩ = some (.string v.f1) := by rw [← hW1]; simp [go_sem]
  have c2 : W1.cell? ⟨w.heap.size, 2, none⟩ = some (.int .i64 v.f2) := by rw [← hW1]; simp [go_sem]
  have c3 : W1.cell? ⟨w.heap.size, 3, none⟩ = some (.int .i64 v.f3) := by rw [← hW1]; simp [go_sem]
  have BB := Lib.hid B1
  clear B1
  cases hS : spanOkB v.f0 v.f1 <;> cases hN : inB v.f2 0 2 <;> cases hE : inB v.f3 1 99
  all_goals
    go_enter Try.func118, Try.ntmps118
    go_wp2_with fail
    clear hW1
    refine (spanOk_is hS hs0 hs1 _).mono ?_
    rintro e w2 ⟨rfl, hb2⟩
    replace c2 := (hb2.cell (p := ⟨w.heap.size, 2, none⟩) z1).trans c2
    replace c3 := (hb2.cell (p := ⟨w.heap.size, 3, none⟩) z1).trans c3
    have BB2 := Lib.hid (BB.out.trans (hb2.mono BB.out.size))
    clear hb2 c0 c1
    go_wp2_with first
      | (go_at_call 159; refine (nodeOk_any _ _).mono ?_; rintro e w' ⟨rfl, rfl⟩; rw [hN])
      | (go_at_call 160; refine (epochOk_any _ _).mono ?_; rintro e w' ⟨rfl, rfl⟩; rw [hE])
    go_ret
    exact ⟨ret_bool (by simp [knownOkB, hS, hN, hE]), BB2.out⟩

theorem knownValid_is {v : KnownD} {b : Bool} (h : knownOkB v = b) (hf : v.fits) (w : World) :
    Calls Try.prog 118 #[.agg #[.string v.f0, .string v.f1, .int .i64 v.f2, .int .i64 v.f3]] w fun e w' => e = .returned (.bool b) ∧ Below w.heap.size w w' := h ▸ knownValid_any v w hf
theorem key_behind_is {e1 key : ByteArray} {b : Bool} (h : Op.bytesLess key.toList e1.toList = b) (w : World) :
    Calls Try.prog 249 #[.string e1, .string key] w fun e w' => e = .returned (.bool b) ∧ Below w.heap.size w w' := (key_behind e1 key w).mono fun _ _ ⟨a, k⟩ => ⟨by rw [a, h], k ▸ Below.refl _ _⟩

set_option maxRecDepth 100000 in
set_option maxHeartbeats 2000000 in
theorem routeOk_any (a : Option Addr) (vs : List KnownD) (cap : Nat) (w : World) (hv : KnownsIn w a vs) (hf : ∀ v ∈ vs, v.fits) (hn : vs.length ≤ maxLen) :
    Calls Try.prog 53 #[.slice a vs.length cap] w (BoolPost (RouteOkP vs) w) := by
  unfold maxLen at hn
  have HV := Lib.hid hv
  have HF := Lib.hid hf
  clear hv hf
  by_cases h6 : 6 < vs.length
  · go_enter Try.func53, Try.ntmps53
    go_wp2_with fail
    go_ret
    exact BoolPost.no (fun h => absurd h.2 (by omega)) (Below.refl _ _)
  go_enter Try.func53, Try.ntmps53
  go_wp2_with fail
  go_loopw [10] (fun i wr => ∃ k : Nat, k ≤ vs.length ∧ i = .int .i64 k ∧ Below w.heap.size w wr ∧ SepOk knownOkB touchB vs k) (fun i _ => vs.length - (intOf i).toNat)
  case atStart => exact ⟨0, Nat.zero_le _, rfl, Below.refl _ _, SepOk.zero _ _ _⟩
  case round =>
    obtain ⟨k, hk, hik, hB, hM⟩ := hrel
    have HW := Lib.hid hB
    have HM := Lib.hid hM
    clear hB hM
    by_cases hlt : k < vs.length
    · rcases HV.out.below HW.out with hnil | ⟨b1, o1, rfl, hb1, hc1⟩
      · rw [hnil] at hlt; simp at hlt
      obtain ⟨c0, c1, c2, c3⟩ := hc1 k hlt
      have hks := HF.out _ (List.getElem_mem hlt)
      have HC := Lib.hid hc1
      clear hc1
      obtain ⟨W1, hW1⟩ : ∃ W1, wr.alloc (.cells #[.string vs[k].f0, .string vs[k].f1, .int .i64 vs[k].f2, .int .i64 vs[k].f3] 84) = W1 := ⟨_, rfl⟩
      have B1 : Below wr.heap.size wr W1 := by rw [← hW1]; exact (Below.refl _ _).alloc (Nat.le_refl _) _
      have d0 : W1.cell? ⟨wr.heap.size, 0, none⟩ = some (.string vs[k].f0) := by rw [← hW1]; simp [go_sem]
      have d1 : W1.cell? ⟨wr.heap.size, 1, none⟩ = some (.string vs[k].f1) := by rw [← hW1]; simp [go_sem]
      have d2 : W1.cell? ⟨wr.heap.size, 2, none⟩ = some (.int .i64 vs[k].f2) := by rw [← hW1]; simp [go_sem]
      have d3 : W1.cell? ⟨wr.heap.size, 3, none⟩ = some (.int .i64 vs[k].f3) := by rw [← hW1]; simp [go_sem]
      have x0 := cell_regrown d0
      have x1 := cell_regrown d1
      have x2 := cell_regrown d2
      have x3 := cell_regrown d3
      rcases Nat.eq_zero_or_pos k with rfl | hk0
      · have hik0 : _ = Value.int .i64 0 := hik
        subst hik0
        clear hik
        simp only [Nat.zero_mul, Nat.add_zero] at c0 c1 c2 c3
        cases hK : knownOkB vs[0]
        all_goals
          go_wp2_with fail
          clear hW1
          refine wp_region_quiet_below (by kernel_rfl) (by kernel_rfl) ?_
          repeat (go_big_quiet_step ((go_at_call 118; exact Calls.regrown_of (knownValid_is hK hks _))))
          refine wpQuiet_nil ?_
          intro _ hw'
          obtain ⟨⟨dq, osq⟩, hw''⟩ := hw'
          subst hw''
          go_wp2_with fail
        · go_ret
          exact BoolPost.no (fun h => SepOk.not_ok hlt hK h.1) ((HW.out.trans (B1.mono HW.out.size)).trans ((below_regrown _ _ _).mono (Nat.le_trans HW.out.size B1.size)))
        · go_roundw
          case rel => exact ⟨0 + 1, by omega, by go_num, (HW.out.trans (B1.mono HW.out.size)).trans ((below_regrown _ _ _).mono (Nat.le_trans HW.out.size B1.size)), SepOk.one hlt hK⟩
          case measure => simp [intOf]; omega
      · obtain ⟨j, rfl⟩ : ∃ j, k = j + 1 := ⟨k - 1, by omega⟩
        have hj : j < vs.length := by omega
        have hwj : IntKind.i64.wrap (j : Int) = (j : Int) := by rw [IntKind.wrap_i64]; omega
        obtain rfl := hik
        obtain ⟨e0, e1, e2, e3⟩ := HC.out j hj
        have y0 := cell_regrown ((B1.cell (p := ⟨b1, o1 + j * 4, none⟩) hb1).trans e0)
        have y1 := cell_regrown ((B1.cell (p := ⟨b1, o1 + j * 4 + 1, none⟩) hb1).trans e1)
        have mk := meth_behind_key vs[j].f1
        have mo := meth_behind_open
        have BW := Lib.hid (HW.out.trans (B1.mono HW.out.size))
        have BS := Lib.hid (Nat.le_trans HW.out.size B1.size)
        clear B1 e0 e1 e2 e3
        cases hK : knownOkB vs[j + 1] <;> cases hE : vs[j].f1.toList.isEmpty <;> cases hO : Op.bytesLess vs[j + 1].f0.toList vs[j].f1.toList
        all_goals
          go_wp2_with fail
          clear hW1
          refine wp_region_quiet_below (by kernel_rfl) (by kernel_rfl) ?_
          repeat (go_big_quiet_step (first
            | (go_at_call 118; exact Calls.regrown_of (knownValid_is hK hks _))
            | (go_at_call 97; first | (with_reducible exact Calls.regrown_of (end_open _ _ _ hE)) | (with_reducible exact Calls.regrown_of (end_key _ _ _ hE)))
            | (go_at_call 246; exact Calls.regrown_of (open_behind _ _))
            | (go_at_call 249; exact Calls.regrown_of (key_behind_is hO _))))
          refine wpQuiet_nil ?_
          intro _ hw'
          obtain ⟨⟨dq, osq⟩, hw''⟩ := hw'
          subst hw''
          go_wp2_with fail
        all_goals first
          | (go_ret; exact BoolPost.no (fun h => SepOk.not_ok hlt hK h.1) (BW.out.trans ((below_regrown _ _ _).mono BS.out)))
          | (go_ret; exact BoolPost.no (fun h => SepOk.not_sep hlt (by simp [touchB, hE, hO]) h.1) (BW.out.trans ((below_regrown _ _ _).mono BS.out)))
          | (go_roundw
             case rel => exact ⟨j + 1 + 1, by omega, by go_num, BW.out.trans ((below_regrown _ _ _).mono BS.out), HM.out.succ hlt hK (by simp [touchB, hE, hO])⟩
             case measure => simp [intOf]; omega)
    · obtain rfl := hik
      obtain rfl : k = vs.length := by omega
      go_wp2_with fail
      go_ret
      exact BoolPost.yes ⟨HM.out, by omega⟩ HW.out
end Go.Proofs.Ytjijichgoodocaa

/- When what is known is ok, as the model tells it. -/
namespace Go.Proofs.Ytjijichgoodocaa
open Go.RowKit

set_option maxRecDepth 100000 in
set_option maxHeartbeats 2000000 in
theorem l12Ok_any (a : Option Addr) (vs : List KnownD) (cap : Nat) (w : World) (hv : KnownsIn w a vs) (hf : ∀ v ∈ vs, v.fits) (hn : vs.length ≤ maxLen) :
    Calls Try.prog 116 #[.slice a vs.length cap] w (BoolPost (RouteOkP vs) w) := by
  unfold maxLen at hn
  have HV := Lib.hid hv
  have HF := Lib.hid hf
  clear hv hf
  go_enter Try.func116, Try.ntmps116
  go_wp2_with fail
  go_loopw [3] (fun i wr => ∃ k : Nat, k ≤ vs.length ∧ i = .int .i64 k ∧ Below w.heap.size w wr ∧ SepOk knownOkB touchB vs k) (fun i _ => vs.length - (intOf i).toNat)
  case atStart => exact ⟨0, Nat.zero_le _, rfl, Below.refl _ _, SepOk.zero _ _ _⟩
  case round =>
    obtain ⟨k, hk, hik, hB, hM⟩ := hrel
    have HW := Lib.hid hB
    have HM := Lib.hid hM
    clear hB hM
    by_cases hlt : k < vs.length
    · rcases HV.out.below HW.out with hnil | ⟨b1, o1, rfl, hb1, hc1⟩
      · rw [hnil] at hlt; simp at hlt
      obtain ⟨c0, c1, c2, c3⟩ := hc1 k hlt
      obtain ⟨hs0, hs1⟩ := HF.out _ (List.getElem_mem hlt)
      have HC := Lib.hid hc1
      clear hc1
      obtain ⟨W1, hW1⟩ : ∃ W1, wr.alloc (.cells #[.string vs[k].f0, .string vs[k].f1, .int .i64 vs[k].f2, .int .i64 vs[k].f3] 84) = W1 := ⟨_, rfl⟩
      have B1 : Below wr.heap.size wr W1 := by rw [← hW1]; exact (Below.refl _ _).alloc (Nat.le_refl _) _
      have z1 : wr.heap.size < W1.heap.size := by rw [← hW1]; simp
      have d0 : W1.cell? ⟨wr.heap.size, 0, none⟩ = some (.string vs[k].f0) := by rw [← hW1]; simp [go_sem]
      have d1 : W1.cell? ⟨wr.heap.size, 1, none⟩ = some (.string vs[k].f1) := by rw [← hW1]; simp [go_sem]
      have d2 : W1.cell? ⟨wr.heap.size, 2, none⟩ = some (.int .i64 vs[k].f2) := by rw [← hW1]; simp [go_sem]
      have d3 : W1.cell? ⟨wr.heap.size, 3, none⟩ = some (.int .i64 vs[k].f3) := by rw [← hW1]; simp [go_sem]
      have BW := Lib.hid B1
      clear B1
      cases hS : spanOkB vs[k].f0 vs[k].f1 <;> cases hN : inB vs[k].f2 0 2 <;> cases hP : inB vs[k].f3 1 99
      case true.true.true =>
        have hK : knownOkB vs[k] = true := by simp [knownOkB, hS, hN, hP]
        rcases Nat.eq_zero_or_pos k with rfl | hk0
        · have hik0 : _ = Value.int .i64 0 := hik
          subst hik0
          clear hik
          simp only [Nat.zero_mul, Nat.add_zero] at c0 c1 c2 c3
          go_wp2_with fail
          clear hW1
          refine (l1SpanOk_is hS hs0 hs1 _).mono ?_
          rintro e w2 ⟨rfl, hb2⟩
          replace d0 := (hb2.cell (p := ⟨wr.heap.size, 0, none⟩) z1).trans d0
          replace d2 := (hb2.cell (p := ⟨wr.heap.size, 2, none⟩) z1).trans d2
          replace d3 := (hb2.cell (p := ⟨wr.heap.size, 3, none⟩) z1).trans d3
          have B2 := Lib.hid (HW.out.trans ((BW.out.trans (hb2.mono BW.out.size)).mono HW.out.size))
          clear hb2 d1
          go_wp2_with (go_at_call 138; (first | (with_reducible refine (l1In_is hN _).mono ?_) | (with_reducible refine (l1In_is hP _).mono ?_)); rintro e w' ⟨rfl, rfl⟩)
          go_quiet (fail)
          go_wp2_with fail
          go_roundw
          case rel => exact ⟨0 + 1, by omega, by go_num, Below.drewN B2.out _, SepOk.one hlt hK⟩
          case measure => simp [intOf]; omega
        · obtain ⟨j, rfl⟩ : ∃ j, k = j + 1 := ⟨k - 1, by omega⟩
          have hj : j < vs.length := by omega
          have hwj : IntKind.i64.wrap (j : Int) = (j : Int) := by rw [IntKind.wrap_i64]; omega
          have hz0 : ((j : Int) + 1 == 0) = false := by rw [beq_eq_false_iff_ne]; omega
          obtain rfl := hik
          obtain ⟨e0, e1, e2, e3⟩ := HC.out j hj
          have HO := Lib.hid (bytesLess_le vs[j].f1.toList vs[j + 1].f0.toList)
          cases hE : vs[j].f1.toList.isEmpty <;> cases hO : (Op.bytesLess vs[j].f1.toList vs[j + 1].f0.toList || vs[j].f1.toList == vs[j + 1].f0.toList)
          all_goals
            go_wp2_with fail
            clear hW1
            refine (l1SpanOk_is hS hs0 hs1 _).mono ?_
            rintro e w2 ⟨rfl, hb2⟩
            replace d0 := (hb2.cell (p := ⟨wr.heap.size, 0, none⟩) z1).trans d0
            replace d2 := (hb2.cell (p := ⟨wr.heap.size, 2, none⟩) z1).trans d2
            replace d3 := (hb2.cell (p := ⟨wr.heap.size, 3, none⟩) z1).trans d3
            replace e1 := ((BW.out.trans (hb2.mono BW.out.size)).cell (p := ⟨b1, o1 + j * 4 + 1, none⟩) hb1).trans e1
            have B2 := Lib.hid (HW.out.trans ((BW.out.trans (hb2.mono BW.out.size)).mono HW.out.size))
            clear hb2 d1 e0 e2 e3
            go_wp2_with (go_at_call 138; (first | (with_reducible refine (l1In_is hN _).mono ?_) | (with_reducible refine (l1In_is hP _).mono ?_)); rintro e w' ⟨rfl, rfl⟩)
            go_quiet (fail)
            go_wp2_with fail
          all_goals first
            | (go_ret; exact BoolPost.no (fun h => SepOk.not_sep hlt (by have := HO.out; rw [hO] at this; simp [touchB, hE]; try simpa using this) h.1) (Below.drewN B2.out _))
            | (go_roundw
               case rel => exact ⟨j + 1 + 1, by omega, by go_num, Below.drewN B2.out _, HM.out.succ hlt hK (by have := HO.out; rw [hO] at this; simp [touchB, hE]; try simpa using this)⟩
               case measure => simp [intOf]; omega)
      all_goals
        obtain rfl := hik
        go_wp2_with fail
        clear hW1
        refine (l1SpanOk_is hS hs0 hs1 _).mono ?_
        rintro e w2 ⟨rfl, hb2⟩
        replace d2 := (hb2.cell (p := ⟨wr.heap.size, 2, none⟩) z1).trans d2
        replace d3 := (hb2.cell (p := ⟨wr.heap.size, 3, none⟩) z1).trans d3
        have B2 := Lib.hid (HW.out.trans ((BW.out.trans (hb2.mono BW.out.size)).mono HW.out.size))
        clear hb2 d0 d1
        go_wp2_with (go_at_call 138; (first | (with_reducible refine (l1In_is hN _).mono ?_) | (with_reducible refine (l1In_is hP _).mono ?_)); rintro e w' ⟨rfl, rfl⟩)
        go_ret
        exact BoolPost.no (fun h => SepOk.not_ok hlt (by simp [knownOkB, hS, hN, hP]) h.1) B2.out
    · obtain rfl := hik
      obtain rfl : k = vs.length := by omega
      go_wp2_with fail
      go_ret
      exact ⟨decide ((vs.length : Int) ≤ 6), rfl, by rw [decide_eq_true_iff]; exact ⟨fun h => ⟨HM.out, by omega⟩, fun h => by have := h.2; omega⟩, HW.out⟩
end Go.Proofs.Ytjijichgoodocaa
