/- When a map of parts is ok, as the model says it. -/
import Derived.Test.YtjijichgoodocaaFlRow
import Derived.Test.YtjijichgoodocaaOrdB
import Derived.RangeFuncNested
import Derived.RangeFuncBound
import Derived.RangeFuncCalls
import Derived.RangeFuncLeaves
import Derived.Shelf.Abstract
import Derived.Shelf.RegionOpen
import Derived.WalkKit
import Derived.OwnWalkIn
import Derived.TacticsInMore
import Derived.LoopNIn
import Derived.LoopIn
import Derived.Test.YtjijichgoodocaaValid
namespace Go.Proofs.Ytjijichgoodocaa
open Go.RowKit

def RowOkAt (vs : List RowD) (i : Nat) (h : i < vs.length) : Prop := okB keyB 6 vs[i].f0 = true ∧ (i = 0 → vs[i].f0.toList.isEmpty = true) ∧ (∀ j (hj : j < vs.length), j + 1 = i → (Op.bytesLess vs[i].f0.toList vs[j].f0.toList || vs[i].f0.toList == vs[j].f0.toList) = false) ∧ inB vs[i].f1 0 2 = true
def RowsOkTo (vs : List RowD) (k : Nat) : Prop := ∀ i (h : i < vs.length), i < k → RowOkAt vs i h
def PmapOkP (ep : Int) (vs : List RowD) : Prop := RowsOkTo vs vs.length ∧ inB (vs.length : Int) 1 5 = true ∧ inB ep 1 99 = true
def PmOkPost (ep : Int) (vs : List RowD) (w : World) (e : Ending) (w' : World) : Prop := ∃ b : Bool, e = .returned (.bool b) ∧ (b = true ↔ PmapOkP ep vs) ∧ Below w.heap.size w w'
theorem RowsOkTo.zero (vs : List RowD) : RowsOkTo vs 0 := fun _ _ h => absurd h (by omega)
theorem RowsOkTo.succ {vs : List RowD} {k : Nat} (h : RowsOkTo vs k) (hk : k < vs.length) (ho : RowOkAt vs k hk) : RowsOkTo vs (k + 1) := fun i hi hik => by
  by_cases e : i = k
  · subst e; exact ho
  · exact h i hi (by omega)
theorem pm_not {ep : Int} {vs : List RowD} {k : Nat} (hk : k < vs.length) (h : ¬ RowOkAt vs k hk) : ¬ PmapOkP ep vs := fun g => h (g.1 k hk hk)

theorem l1Part_is {s : ByteArray} {b : Bool} (h : okB keyB 6 s = b) (hs : s.size ≤ maxLen) (w : World) :
    Calls Try.prog 137 #[.string s] w fun e w' => e = .returned (.bool b) ∧ w' = w := (h ▸ l1Part_any s w hs).mono fun _ _ ⟨a, b⟩ => ⟨a, b.symm⟩
theorem l1In_is {n lo hi : Int} {b : Bool} (h : inB n lo hi = b) (w : World) :
    Calls Try.prog 138 #[.int .i64 n, .int .i64 lo, .int .i64 hi] w fun e w' => e = .returned (.bool b) ∧ w' = w := (h ▸ l1In_any n lo hi w).mono fun _ _ ⟨a, b⟩ => ⟨a, b.symm⟩

set_option maxRecDepth 100000 in
set_option maxHeartbeats 1000000 in
theorem l5Ok_any (ep : Int) (a : Option Addr) (vs : List RowD) (cap : Nat) (w : World) (hv : RowsIn w a vs) (hf : ∀ v ∈ vs, v.fits) (hn : vs.length ≤ maxLen) :
    Calls Try.prog 122 #[.agg #[.int .i64 ep, .slice a vs.length cap]] w (PmOkPost ep vs w) := by
  unfold maxLen at hn
  have HV := Lib.hid hv
  have HF := Lib.hid hf
  clear hv hf
  go_enter Try.func122, Try.ntmps122
  go_wp2_with fail
  go_loopw [3] (fun i wr => ∃ k : Nat, k ≤ vs.length ∧ i = .int .i64 k ∧ Below (w.heap.size + 1) (w.alloc (.cells #[.int .i64 ep, .slice a vs.length cap] 90)) wr ∧ RowsOkTo vs k) (fun i _ => vs.length - (intOf i).toNat)
  case atStart => exact ⟨0, Nat.zero_le _, rfl, Below.refl _ _, RowsOkTo.zero _⟩
  case round =>
    obtain ⟨k, hk, hik, hB, hM⟩ := hrel
    have cm0 := hB.cell (p := ⟨w.heap.size, 0, none⟩) (by simp)
    have cm := hB.cell (p := ⟨w.heap.size, 1, none⟩) (by simp)
    simp [go_sem] at cm cm0
    have HW := Lib.hid (((Below.refl w.heap.size w).alloc (Nat.le_refl _) _).trans (hB.mono (by omega)))
    have HB := Lib.hid hB
    have HM := Lib.hid hM
    have hsz : w.heap.size < wr.heap.size := by have := hB.size; simp at this; omega
    clear hB hM
    by_cases hlt : k < vs.length
    · rcases HV.out.below HW.out with hnil | ⟨b1, o1, rfl, hb1, hc1⟩
      · rw [hnil] at hlt; simp at hlt
      obtain ⟨c0, c1⟩ := hc1 k hlt
      have hks : vs[k].f0.size ≤ maxLen := HF.out _ (List.getElem_mem hlt)
      have HC := Lib.hid hc1
      clear hc1
      rcases Nat.eq_zero_or_pos k with rfl | hk0
      · have hik0 : _ = Value.int .i64 0 := hik
        subst hik0
        clear hik
        simp only [Nat.zero_mul, Nat.add_zero] at c0 c1
        cases hK : okB keyB 6 vs[0].f0 <;> cases hE : vs[0].f0.toList.isEmpty <;> cases hN : inB vs[0].f1 0 2
        all_goals
          go_wp2_with fail
          go_quiet ((first | (go_at_call 137; exact Calls.quiet_of_same (l1Part_is hK hks _)) | (go_at_call 138; exact Calls.quiet_of_same (l1In_is hN _))))
          go_wp2_with fail
        all_goals first
          | (go_ret; exact ⟨false, rfl, by simpa using pm_not hlt (fun h => by first | (have := h.1; rw [hK] at this; exact absurd this (by decide)) | (have := h.2.1 rfl; rw [hE] at this; exact absurd this (by decide)) | (have := h.2.2.2; rw [hN] at this; exact absurd this (by decide))), Below.drewN (HW.out.alloc HW.out.size _) _⟩)
          | (go_roundw
             case rel => exact ⟨0 + 1, by omega, by go_num, Below.drewN (HB.out.alloc (by omega) _) _, HM.out.succ hlt ⟨hK, fun _ => hE, fun j hj e => by omega, hN⟩⟩
             case measure => simp [intOf]; omega)
      · obtain ⟨j, rfl⟩ : ∃ j, k = j + 1 := ⟨k - 1, by omega⟩
        have hj : j < vs.length := by omega
        have hwj : IntKind.i64.wrap (j : Int) = (j : Int) := by rw [IntKind.wrap_i64]; omega
        have hz0 : ((j : Int) + 1 == 0) = false := by rw [beq_eq_false_iff_ne]; omega
        obtain rfl := hik
        obtain ⟨d0, _⟩ := HC.out j hj
        cases hK : okB keyB 6 vs[j + 1].f0 <;> cases hO : (Op.bytesLess vs[j + 1].f0.toList vs[j].f0.toList || vs[j + 1].f0.toList == vs[j].f0.toList) <;> cases hN : inB vs[j + 1].f1 0 2
        all_goals
          go_wp2_with fail
          go_quiet ((first | (go_at_call 137; exact Calls.quiet_of_same (l1Part_is hK hks _)) | (go_at_call 138; exact Calls.quiet_of_same (l1In_is hN _))))
          go_wp2_with fail
        all_goals first
          | (go_ret; exact ⟨false, rfl, by simpa using pm_not hlt (fun h => by first | (have := h.1; rw [hK] at this; exact absurd this (by decide)) | (have := h.2.2.1 j hj rfl; rw [hO] at this; exact absurd this (by decide)) | (have := h.2.2.2; rw [hN] at this; exact absurd this (by decide))), Below.drewN (HW.out.alloc HW.out.size _) _⟩)
          | (go_roundw
             case rel => exact ⟨j + 1 + 1, by omega, by go_num, Below.drewN (HB.out.alloc (by omega) _) _, HM.out.succ hlt ⟨hK, fun h => by omega, fun j' hj' e => by obtain rfl : j' = j := (by omega); exact hO, hN⟩⟩
             case measure => simp [intOf]; omega)
    · obtain rfl := hik
      obtain rfl : k = vs.length := by omega
      cases hL : inB (vs.length : Int) 1 5 <;> cases hE : inB ep 1 99
      all_goals
        go_wp2_with (go_at_call 138; refine (l1In_any _ _ _ _).mono ?_; rintro e w' ⟨rfl, rfl⟩; first | rw [hL] | rw [hE])
        go_ret
      · exact ⟨false, rfl, by simp [PmapOkP, hL], HW.out⟩
      · exact ⟨false, rfl, by simp [PmapOkP, hL], HW.out⟩
      · exact ⟨false, rfl, by simp [PmapOkP, hE], HW.out⟩
      · exact ⟨true, rfl, by simp [PmapOkP, hL, hE]; exact HM.out, HW.out⟩
end Go.Proofs.Ytjijichgoodocaa

/- The program's rows: ranks, whether they are valid and ascend, and the iterator over them. -/
namespace Go.Proofs.Ytjijichgoodocaa
open Go.RowKit Go.Shelf
attribute [local go_sem] Oper.semAt_some

set_option maxHeartbeats 400000 in
theorem rowRank_is (v : RowD) (w : World) :
    Calls Try.prog 243 #[.agg #[.string v.f0, .int .i64 v.f1]] w fun e w' => e = .returned (.string v.f0) ∧ w' = w.alloc (.cells #[.string v.f0, .int .i64 v.f1] 98) := by
  go_enter Try.func243, Try.ntmps243
  go_wp2
  go_ret
  exact ⟨rfl, rfl⟩
theorem rowRank_any (v : RowD) (w : World) :
    Calls Try.prog 243 #[.agg #[.string v.f0, .int .i64 v.f1]] w fun e w' => e = .returned (.string v.f0) ∧ Below w.heap.size w w' :=
  (rowRank_is v w).mono fun _ _ ⟨a, b⟩ => ⟨a, b ▸ (Below.refl _ _).alloc (Nat.le_refl _) _⟩
theorem meth_rank_row (v : RowD) (w : World) : (method 374 98 (.agg #[.string v.f0, .int .i64 v.f1]) "loop.example/cadastre/impl.rank").run Try.prog w = .ok (243, .agg #[.string v.f0, .int .i64 v.f1]) w := by kernel_rfl

set_option maxHeartbeats 400000 in
theorem nodeOk_any (i : Int) (w : World) :
    Calls Try.prog 159 #[.int .i64 i] w fun e w' => e = .returned (.bool (inB i 0 2)) ∧ w = w' := by
  have hm : (i < 0 ∧ inB i 0 2 = false) ∨ (0 ≤ i ∧ i ≤ 2 ∧ inB i 0 2 = true) ∨ (0 ≤ i ∧ 2 < i ∧ inB i 0 2 = false) := by
    by_cases h1 : i < 0
    · exact .inl ⟨h1, by simp [inB]; omega⟩
    · by_cases h2 : i ≤ 2
      · exact .inr (.inl ⟨by omega, h2, by simp [inB]; omega⟩)
      · exact .inr (.inr ⟨by omega, by omega, by simp [inB]; omega⟩)
  rcases hm with ⟨h1, hI⟩ | ⟨h1, h2, hI⟩ | ⟨h1, h2, hI⟩
  all_goals
    have HI := Lib.hid hI
    clear hI
    go_enter Try.func159, Try.ntmps159
    go_wp2
    go_ret
    exact ⟨ret_bool (by simp [HI.out] <;> omega), rfl⟩

set_option maxHeartbeats 400000 in
theorem epochOk_any (i : Int) (w : World) :
    Calls Try.prog 160 #[.int .i64 i] w fun e w' => e = .returned (.bool (inB i 1 99)) ∧ w = w' := by
  have hm : (i < 1 ∧ inB i 1 99 = false) ∨ (1 ≤ i ∧ i ≤ 99 ∧ inB i 1 99 = true) ∨ (1 ≤ i ∧ 99 < i ∧ inB i 1 99 = false) := by
    by_cases h1 : i < 1
    · exact .inl ⟨h1, by simp [inB]; omega⟩
    · by_cases h2 : i ≤ 99
      · exact .inr (.inl ⟨by omega, h2, by simp [inB]; omega⟩)
      · exact .inr (.inr ⟨by omega, by omega, by simp [inB]; omega⟩)
  rcases hm with ⟨h1, hI⟩ | ⟨h1, h2, hI⟩ | ⟨h1, h2, hI⟩
  all_goals
    have HI := Lib.hid hI
    clear hI
    go_enter Try.func160, Try.ntmps160
    go_wp2
    go_ret
    exact ⟨ret_bool (by simp [HI.out] <;> omega), rfl⟩

def rowOkB (v : RowD) : Bool := okB keyB 6 v.f0 && inB v.f1 0 2
set_option maxHeartbeats 1000000 in
theorem rowValid_any (v : RowD) (w : World) (hs : v.f0.size ≤ maxLen) :
    Calls Try.prog 164 #[.agg #[.string v.f0, .int .i64 v.f1]] w fun e w' => e = .returned (.bool (rowOkB v)) ∧ Below w.heap.size w w' := by
  cases hK : okB keyB 6 v.f0 <;> cases hI : inB v.f1 0 2
  all_goals
    go_enter Try.func164, Try.ntmps164
    go_wp2_with first
      | (go_at_call 96; refine (prefixOk_any _ _ hs).mono ?_; rintro e w' ⟨rfl, rfl⟩; rw [hK])
      | (go_at_call 159; refine (nodeOk_any _ _).mono ?_; rintro e w' ⟨rfl, rfl⟩; rw [hI])
    go_ret
    exact ⟨ret_bool (by simp [rowOkB, hI, hK]), (Below.refl _ _).alloc (Nat.le_refl _) _⟩

def RowsUp (os : List RowD) (k : Nat) : Prop := ∀ i (h : i < os.length), i < k → ∀ j (hj : j < os.length), j + 1 = i → (Op.bytesLess os[i].f0.toList os[j].f0.toList || os[i].f0.toList == os[j].f0.toList) = false

set_option maxHeartbeats 1000000 in
theorem rowAscends_any (a : Option Addr) (os : List RowD) (cap : Nat) (w : World) (hv : RowsIn w a os) (hn : os.length ≤ maxLen) :
    Calls Try.prog 165 #[.slice a os.length cap] w (BoolPost (RowsUp os os.length) w) := by
  unfold maxLen at hn
  have HV := Lib.hid hv
  clear hv
  go_enter Try.func165, Try.ntmps165
  go_wp2_with fail
  go_loopw [3] (fun i wr => ∃ k : Nat, k ≤ os.length ∧ i = .int .i64 (↑k + 1) ∧ Below w.heap.size w wr ∧ RowsUp os (k + 1)) (fun i _ => os.length + 1 - (intOf i).toNat)
  case atStart => exact ⟨0, Nat.zero_le _, rfl, Below.refl _ _, fun i h hk j hj e => by omega⟩
  case round =>
    obtain ⟨k, hk, rfl, hB, hU⟩ := hrel
    have HW := Lib.hid hB
    have HU := Lib.hid hU
    clear hB hU
    by_cases hlt : k + 1 < os.length
    · rcases HV.out.below HW.out with hnil | ⟨b1, o1, rfl, hb1, hc1⟩
      · rw [hnil] at hlt; simp at hlt
      obtain ⟨c0, c1⟩ := hc1 (k + 1) hlt
      obtain ⟨d0, d1⟩ := hc1 k (by omega)
      have y0 := cell_regrown c0
      have y1 := cell_regrown c1
      have x0 := cell_regrown d0
      have x1 := cell_regrown d1
      clear hc1
      have hwk : IntKind.i64.wrap (k : Int) = (k : Int) := by rw [IntKind.wrap_i64]; omega
      have m1 := meth_rank_row os[k + 1]
      have m2 := meth_rank_row os[k]
      have HO := Lib.hid (bytesLess_le os[k + 1].f0.toList os[k].f0.toList)
      cases hO : Op.bytesLess os[k].f0.toList os[k + 1].f0.toList
      all_goals
        go_wp2_with fail
        refine wp_region_quiet_below (by kernel_rfl) (by kernel_rfl) ?_
        repeat (go_big_quiet_step ((go_at_call 243; exact Calls.regrown_of (rowRank_any _ _))))
        refine wpQuiet_nil ?_
        intro _ hw'
        obtain ⟨⟨dq, osq⟩, hw''⟩ := hw'
        subst hw''
        clear m1 m2
        go_wp2_with fail
      · go_ret
        exact ⟨false, rfl, by simp only [Bool.false_eq_true, false_iff]; intro h; have := h (k + 1) hlt hlt k (by omega) rfl; rw [HO.out, hO] at this; exact absurd this (by decide), HW.out.trans ((below_regrown _ _ _).mono HW.out.size)⟩
      · go_roundw
        case rel => exact ⟨k + 1, by omega, by go_num, HW.out.trans ((below_regrown _ _ _).mono HW.out.size), fun i h hik j hj e => by
          by_cases q : i = k + 1
          · subst q; obtain rfl : j = k := by omega
            rw [HO.out, hO]; rfl
          · exact HU.out i h (by omega) j hj e⟩
        case measure => simp [intOf]; omega
    · go_wp2_with fail
      go_ret
      exact ⟨true, rfl, by simp only [true_iff]; exact fun i h hk' j hj e => HU.out i h (by omega) j hj e, HW.out⟩
def rowArgs (o : RowD) : Array Value := #[.string o.f0, .agg #[.string o.f0, .int .i64 o.f1]]

set_option maxHeartbeats 1000000 in
theorem rowAll_any (a : Option Addr) (len cap : Nat) (w : World) :
    Calls Try.prog 163 #[.slice a len cap] w fun e w' => e = .returned (.func (.func 188) #[] #[.pointer (some ⟨w.heap.size, 0, none⟩)]) ∧ w' = w.alloc (.cells #[.slice a len cap] 197) := by
  go_enter Try.func163, Try.ntmps163
  go_wp2
  go_ret
  exact ⟨rfl, rfl⟩

set_option maxRecDepth 100000 in
set_option maxHeartbeats 2000000 in
theorem rowAll1_in (n : Nat) (hn : 1 ≤ n) (l Bs : Nat) (a : Option Addr) (os : List RowD) (cap : Nat) (u0 : World) (hO : RowsIn u0 a os) (hlen : os.length ≤ maxLen) (J Jx : List {o // o ∈ os} → World → Prop)
    (hJ : ∀ s A B, J s A → Below A.heap.size A B → J s B)
    (hY : ∀ pre x W, J pre W → pre.length < os.length → YieldAt Fence.wide (n - 1) Try.prog l (rowArgs x.1) W fun e W' =>
      (e = .returned (.bool true) ∧ J (pre ++ [x]) W' ∧ Below u0.heap.size W W') ∨ (e = .returned (.bool false) ∧ Jx (pre ++ [x]) W'))
    (W : World) (hBs : W.cell? ⟨Bs, 0, none⟩ = some (.slice a os.length cap)) (hW : Below u0.heap.size u0 W) (h0 : J [] W) :
    CallsIn Fence.wide n Try.prog 188 #[.func (.yield l) #[] #[], .pointer (some ⟨Bs, 0, none⟩)] W fun e W' => (∃ v, e = .returned v) ∧
      ((∃ ys, ys = os.attach ∧ J ys W') ∨ (∃ pre, pre <+: os.attach ∧ Jx pre W')) := by
  unfold maxLen at hlen
  have HO := Lib.hid hO
  have HW := Lib.hid hW
  have HJ := Lib.hid hJ
  have HY := Lib.hid hY
  clear hO hW hJ hY
  refine callsIn_of_wp Try.func188 rfl trivial ?_ rfl
  simp only [Try.ntmps188, List.size_toArray, List.length_cons, List.length_nil, Nat.reduceAdd, Nat.reduceSub, Array.replicate_succ, Array.replicate_zero, List.push_toArray, List.append_toArray, List.nil_append, List.cons_append]
  gi_wp2
  gi_loopw [7] (fun i wr => ∃ k : Nat, k ≤ os.length ∧ i = .int .i64 k ∧ J (os.attach.take k) wr ∧ Below u0.heap.size u0 wr)
    (fun i _ => os.length - (intOf i).toNat)
  case atStart => exact ⟨0, Nat.zero_le _, rfl, h0, HW.out⟩
  case round =>
    obtain ⟨k, hk, rfl, hJs, hnx⟩ := hrel
    have HN := Lib.hid hnx
    have HS := Lib.hid hJs
    clear hnx hJs
    by_cases hlt : k < os.length
    · rcases HO.out.below HN.out with hnil | ⟨b1, o1, rfl, hb1, hc1⟩
      · rw [hnil] at hlt; simp at hlt
      obtain ⟨c0, c1⟩ := hc1 k hlt
      clear hc1 hBs
      have m1 := meth_rank_row os[k]
      gi_wp2
      have hJ2 : J (os.attach.take k) (((wr.alloc (.cells #[.string os[k].f0, .int .i64 os[k].f1] 98)).alloc (.cells #[.string os[k].f0, .int .i64 os[k].f1] 98)).drew) := HJ.out _ _ _ HS.out ((((Below.refl _ _).alloc (Nat.le_refl _) _).alloc (by simp) _).drew)
      obtain ⟨fn, tmps, assign, body, hy, hR⟩ := HY.out _ ⟨os[k], List.getElem_mem hlt⟩ _ hJ2 (by simp; omega)
      simp only [rowArgs] at hy
      gi_region_with (first
        | (refine ⟨trivial, ?_⟩; gi_at_call 243; refine (callsIn_wide.2 (rowRank_is _ _)).mono ?_; rintro e w2 ⟨rfl, rfl⟩)
        | (refine hR.mono ?_; intro e W3 hq; obtain ⟨b, rfl, hq3⟩ := said_of hq; have HQ := Lib.hid hq3; clear hq hq3))
      all_goals
        clear hy hR m1 hJ2
        cases b
        · gi_wp2
          refine bodyPost_ret (results_none rfl _ _ _) rfl ?_
          rcases HQ.out with ⟨h, _⟩ | ⟨_, h⟩
          · cases h
          · exact ⟨⟨_, rfl⟩, .inr ⟨_, by rw [← take_attach_succ os k hlt]; exact List.take_prefix _ _, h⟩⟩
        · gi_wp2
          go_roundw
          case rel =>
            rcases HQ.out with ⟨_, h, hb⟩ | ⟨h, _⟩
            · exact ⟨k + 1, by omega, by go_num, by rw [take_attach_succ os k hlt]; exact h, (HN.out.trans ((((Below.refl _ _).alloc HN.out.size _).alloc (by have := HN.out.size; simp; omega) _).drew)).trans hb⟩
            · cases h
          case measure => simp [intOf]; omega
    · obtain rfl : k = os.length := by omega
      gi_wp2
      go_end0
      exact ⟨⟨_, rfl⟩, .inl ⟨_, by rw [List.take_of_length_le (by simp)], HS.out⟩⟩

theorem rowAll_stops (n : Nat) (hn : 1 ≤ n) (Bs : Nat) (a : Option Addr) (os : List RowD) (cap : Nat) (u0 : World) (hO : RowsIn u0 a os) (hlen : os.length ≤ maxLen) (w : World) (hBs : Bs < w.heap.size) (hu : Below u0.heap.size u0 w)
    (hc : w.cell? ⟨Bs, 0, none⟩ = some (.slice a os.length cap)) :
    SeqStopsK Fence.wide n Try.prog 188 #[.pointer (some ⟨Bs, 0, none⟩)] (fun x : {o // o ∈ os} => rowArgs x.1) (Below u0.heap.size) (fun ys => ys = os.attach) (fun pre => pre <+: os.attach) os.length w := fun l J Jx W hW hJ _ hY h0 =>
  rowAll1_in n hn l Bs a os cap u0 hO hlen J Jx (fun _ _ _ hs hb => abides_below hJ hs hb) hY W ((hW.cell (p := ⟨Bs, 0, none⟩) hBs).trans hc) (hu.trans (hW.mono hu.size)) h0
end Go.Proofs.Ytjijichgoodocaa
