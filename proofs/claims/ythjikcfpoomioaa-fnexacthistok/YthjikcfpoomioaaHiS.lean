/- When what was decided is ok, as the model tells it. -/
import Derived.Test.YthjikcfpoomioaaEnt
import Derived.Test.YthjikcfpoomioaaTxOkS
import Derived.Test.YthjikcfpoomioaaTxOk
import Derived.Test.YthjikcfpoomioaaPmOk
namespace Go.Proofs.Ythjikcfpoomioaa
open Go.RowKit

def EntOk (e : EntD) : Prop := inB e.id 1 9999 = true ∧ TxnOkP e.tid e.ws e.us
def EntsUp (es : List EntD) (k : Nat) : Prop := ∀ i (h : i < es.length), i < k → ∀ j (hj : j < es.length), j + 1 = i → es[j].id < es[i].id
def EntsOk (es : List EntD) (k : Nat) : Prop := ∀ i (h : i < es.length), i < k → EntOk es[i]
def HistOkP (es : List EntD) : Prop := (EntsOk es es.length ∧ EntsUp es es.length) ∧ es.length ≤ 60
theorem EntsOk.zero (es : List EntD) : EntsOk es 0 := fun _ _ h => absurd h (by omega)
theorem EntsUp.zero (es : List EntD) : EntsUp es 0 := fun _ _ h => absurd h (by omega)
theorem EntsUp.one (es : List EntD) : EntsUp es 1 := fun i _ h j _ e => by omega
theorem EntsOk.succ {es : List EntD} {k : Nat} (h : EntsOk es k) (hk : k < es.length) (ho : EntOk es[k]) : EntsOk es (k + 1) := fun i hi hik => by
  by_cases e : i = k
  · subst e; exact ho
  · exact h i hi (by omega)
theorem EntsUp.succ {es : List EntD} {k : Nat} (h : EntsUp es (k + 1)) (hk : k + 1 < es.length) (ho : es[k].id < es[k + 1].id) : EntsUp es (k + 1 + 1) := fun i hi hik j hj e => by
  by_cases q : i = k + 1
  · subst q; obtain rfl : j = k := (by omega); exact ho
  · exact h i hi (by omega) j hj e
theorem hist_no {es : List EntD} {k : Nat} (hk : k < es.length) (h : ¬ EntOk es[k]) : ¬ HistOkP es := fun g => h (g.1.1 k hk hk)
theorem hist_noUp {es : List EntD} {k : Nat} (hk : k + 1 < es.length) (h : ¬ es[k].id < es[k + 1].id) : ¬ HistOkP es := fun g => h (g.1.2 (k + 1) hk hk k (by omega) rfl)
def OkIs (b : Bool) (P : Prop) : Prop := b = true ↔ P
theorem okIs_em (P : Prop) : ∃ b, OkIs b P := by
  rcases Classical.em P with h | h
  · exact ⟨true, ⟨fun _ => h, fun _ => rfl⟩⟩
  · exact ⟨false, ⟨(fun e => by cases e), fun g => absurd g h⟩⟩
theorem OkIs.yes {P : Prop} (h : OkIs true P) : P := h.1 rfl
theorem OkIs.no {P : Prop} (h : OkIs false P) : ¬ P := fun g => by have := h.2 g; cases this
theorem l4TxnOk_is {id : Int} {a1 a2 : Option Addr} {ws : List WantD} {us : List WriteD} {k1 k2 : Nat} {b : Bool} (hP : OkIs b (TxnOkP id ws us)) (w : World) (hv : WantsIn w a1 ws) (hu : WritesIn w a2 us) (hf : ∀ v ∈ ws, v.fits) (hg : ∀ v ∈ us, v.fits) (hn : ws.length ≤ 1048576) (hm : us.length ≤ 1048576) :
    Calls Try.prog 120 #[.agg #[.int .i64 id, .slice a1 ws.length k1, .slice a2 us.length k2]] w fun e w' => e = .returned (.bool b) ∧ Below w.heap.size w w' :=
  (l4TxnOk_any id a1 a2 ws us k1 k2 w hv hu hf hg hn hm).mono fun e w' ⟨c, he, hc, hb⟩ => ⟨by rw [he, show c = b by rw [Bool.eq_iff_iff, hc]; exact hP.symm], hb⟩
theorem l1In_qb {n lo hi : Int} {b : Bool} (h : inB n lo hi = b) (w : World) :
    Calls Try.prog 144 #[.int .i64 n, .int .i64 lo, .int .i64 hi] w fun e w' => e = .returned (.bool b) ∧ Below w.heap.size w w' := (l1In_is h w).mono fun _ _ ⟨a, b⟩ => ⟨a, b ▸ Below.refl _ _⟩

set_option maxRecDepth 100000 in
set_option maxHeartbeats 4000000 in
theorem l6Ok_any (a : Option Addr) (es : List EntD) (cap : Nat) (w : World) (hv : EntriesIn w a es) (hf : ∀ e ∈ es, e.fits) (hs : ∀ e ∈ es, e.ws.length ≤ 1048576 ∧ e.us.length ≤ 1048576) (hn : es.length ≤ maxLen) :
    Calls Try.prog 112 #[.slice a es.length cap] w (BoolPost (HistOkP es) w) := by
  unfold maxLen at hn
  have HV := Lib.hid hv
  have HF := Lib.hid hf
  have HS := Lib.hid hs
  clear hv hf hs
  go_enter Try.func112, Try.ntmps112
  go_wp2_with fail
  go_loopw [3] (fun i wr => ∃ k : Nat, k ≤ es.length ∧ i = .int .i64 k ∧ Below w.heap.size w wr ∧ EntsOk es k ∧ EntsUp es k) (fun i _ => es.length - (intOf i).toNat)
  case atStart => exact ⟨0, Nat.zero_le _, rfl, Below.refl _ _, EntsOk.zero _, EntsUp.zero _⟩
  case round =>
    obtain ⟨k, hk, hik, hB, hM, hU⟩ := hrel
    have HW := Lib.hid hB
    have HM := Lib.hid hM
    have HU := Lib.hid hU
    clear hB hM hU
    by_cases hlt : k < es.length
    · rcases HV.out.below HW.out with hnil | ⟨b1, o1, rfl, hb1, hc1⟩
      · rw [hnil] at hlt; simp at hlt
      obtain ⟨a1, a2, k1, k2, c0, c1, c2, c3, cv, cu⟩ := hc1 k hlt
      obtain ⟨-, -, hf1, hf2⟩ := HF.out _ (List.getElem_mem hlt)
      obtain ⟨hs1, hs2⟩ := HS.out _ (List.getElem_mem hlt)
      have CV := Lib.hid cv
      have CU := Lib.hid cu
      have F1 := Lib.hid hf1
      have F2 := Lib.hid hf2
      have HC := Lib.hid hc1
      clear hc1 cv cu hf1 hf2
      have y0 := cell_regrown c0
      have y1 := cell_regrown c1
      have y2 := cell_regrown c2
      have y3 := cell_regrown c3
      have y2' := cell_regrown (show wr.cell? ⟨b1, o1 + k * 4 + 1 + 1, none⟩ = some (.slice a1 es[k].ws.length k1) from c2)
      have y3' := cell_regrown (show wr.cell? ⟨b1, o1 + k * 4 + 1 + 2, none⟩ = some (.slice a2 es[k].us.length k2) from c3)
      obtain ⟨bT, HT⟩ := okIs_em (TxnOkP es[k].tid es[k].ws es[k].us)
      rcases Nat.eq_zero_or_pos k with rfl | hk0
      · have hik0 : _ = Value.int .i64 0 := hik
        subst hik0
        clear hik
        simp only [Nat.zero_mul, Nat.add_zero] at c0 c1 c2 c3 y0 y1 y2 y3 y2' y3'
        cases bT <;> cases hI : inB es[0].id 1 9999
        all_goals
          go_wp2_with fail
          refine wp_region_quiet_below (by kernel_rfl) (by kernel_rfl) ?_
          repeat (go_big_quiet_step (first | (go_at_call 120; exact Calls.regrown_of (l4TxnOk_is HT _ (CV.out.below (below_regrown _ _ _)) (CU.out.below (below_regrown _ _ _)) F1.out F2.out hs1 hs2)) | (go_at_call 144; exact Calls.regrown_of (l1In_qb hI _))))
          refine wpQuiet_nil ?_
          intro _ hw'
          obtain ⟨⟨dq, osq⟩, hw''⟩ := hw'
          subst hw''
          go_wp2_with fail
        · go_ret
          exact BoolPost.no (hist_no hlt (fun h => HT.no h.2)) (HW.out.trans ((below_regrown _ _ _).mono HW.out.size))
        · go_ret
          exact BoolPost.no (hist_no hlt (fun h => HT.no h.2)) (HW.out.trans ((below_regrown _ _ _).mono HW.out.size))
        · go_ret
          exact BoolPost.no (hist_no hlt (fun h => absurd h.1 (by rw [hI]; decide))) (HW.out.trans ((below_regrown _ _ _).mono HW.out.size))
        · go_roundw
          case rel => exact ⟨0 + 1, by omega, by go_num, HW.out.trans ((below_regrown _ _ _).mono HW.out.size), HM.out.succ hlt ⟨hI, HT.yes⟩, EntsUp.one _⟩
          case measure => simp [intOf]; omega
      · obtain ⟨j, rfl⟩ : ∃ j, k = j + 1 := ⟨k - 1, by omega⟩
        have hj : j < es.length := by omega
        have hwj : IntKind.i64.wrap (j : Int) = (j : Int) := by rw [IntKind.wrap_i64]; omega
        have hz0 : ((j : Int) + 1 == 0) = false := by rw [beq_eq_false_iff_ne]; omega
        obtain rfl := hik
        obtain ⟨_, _, _, _, d0, -⟩ := HC.out j hj
        have x0 := cell_regrown d0
        cases bT <;> cases hI : inB es[j + 1].id 1 9999 <;> by_cases hO : es[j + 1].id ≤ es[j].id
        all_goals
          go_wp2_with fail
          refine wp_region_quiet_below (by kernel_rfl) (by kernel_rfl) ?_
          repeat (go_big_quiet_step (first | (go_at_call 120; exact Calls.regrown_of (l4TxnOk_is HT _ (CV.out.below (below_regrown _ _ _)) (CU.out.below (below_regrown _ _ _)) F1.out F2.out hs1 hs2)) | (go_at_call 144; exact Calls.regrown_of (l1In_qb hI _))))
          refine wpQuiet_nil ?_
          intro _ hw'
          obtain ⟨⟨dq, osq⟩, hw''⟩ := hw'
          subst hw''
          go_wp2_with fail
        all_goals first
          | (go_ret; exact BoolPost.no (hist_noUp hlt (by omega)) (HW.out.trans ((below_regrown _ _ _).mono HW.out.size)))
          | (go_ret; exact BoolPost.no (hist_no hlt (fun h => HT.no h.2)) (HW.out.trans ((below_regrown _ _ _).mono HW.out.size)))
          | (go_ret; exact BoolPost.no (hist_no hlt (fun h => Bool.false_ne_true (hI.symm.trans h.1))) (HW.out.trans ((below_regrown _ _ _).mono HW.out.size)))
          | (go_roundw
             case rel => exact ⟨j + 1 + 1, by omega, by go_num, HW.out.trans ((below_regrown _ _ _).mono HW.out.size), HM.out.succ hlt ⟨hI, HT.yes⟩, HU.out.succ hlt (by omega)⟩
             case measure => simp [intOf]; omega)
    · obtain rfl := hik
      obtain rfl : k = es.length := by omega
      go_wp2_with fail
      go_ret
      exact ⟨decide ((es.length : Int) ≤ 60), rfl, by rw [decide_eq_true_iff]; exact ⟨fun h => ⟨⟨HM.out, HU.out⟩, by omega⟩, fun h => by have := h.2; omega⟩, HW.out⟩

set_option maxHeartbeats 400000 in
theorem specHistOk_any (a : Option Addr) (es : List EntD) (cap : Nat) (w : World) (hv : EntriesIn w a es) (hf : ∀ e ∈ es, e.fits) (hs : ∀ e ∈ es, e.ws.length ≤ 1048576 ∧ e.us.length ≤ 1048576) (hn : es.length ≤ maxLen) :
    Calls Try.prog 52 #[.slice a es.length cap] w (BoolPost (HistOkP es) w) := by
  have HV := Lib.hid hv
  have HF := Lib.hid hf
  have HS := Lib.hid hs
  clear hv hf hs
  go_enter Try.func52, Try.ntmps52
  go_wp2_with fail
  refine (l6Ok_any a es cap _ HV.out HF.out HS.out hn).mono ?_
  rintro e w2 ⟨b, rfl, hb, hb2⟩
  have HI := Lib.hid hb
  have HB := Lib.hid hb2
  clear hb hb2
  go_wp2_with fail
  go_ret
  exact ⟨b, rfl, HI.out, HB.out⟩
end Go.Proofs.Ythjikcfpoomioaa
