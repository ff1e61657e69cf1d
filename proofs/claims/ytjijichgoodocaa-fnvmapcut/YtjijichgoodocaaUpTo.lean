/- Whether a map is valid, as the program asks it: a loop over the iterator of its objects; it says what the model says. -/
import Derived.RangeFuncNested
import Derived.RangeFuncBound
import Derived.RangeFuncCalls
import Derived.RangeFuncLeaves
import Derived.Shelf.Abstract
import Derived.Shelf.RegionOpen
import Derived.WalkKit
import Derived.OwnWalkIn
import Derived.TacticsInMore
import Derived.LoopNIn
import Derived.LoopIn
import Derived.Test.YtjijichgoodocaaValid
import Derived.Test.YtjijichgoodocaaIterV
namespace Go.Proofs.Ytjijichgoodocaa
open Go.RowKit Go.Shelf
attribute [local go_sem] Oper.semAt_some
attribute [local go_sem] wide_fn

set_option maxHeartbeats 400000 in
theorem objs_is (a : Option Addr) (n c : Nat) (w : World) :
    Calls Try.prog 85 #[.agg #[.slice a n c]] w fun e w' => e = .returned (.slice a n c) ∧ w' = w.alloc (.cells #[.slice a n c] 25) := by
  go_enter Try.func85, Try.ntmps85
  go_wp2
  go_ret
  exact ⟨rfl, rfl⟩

theorem ObjsIn.mem {u : World} {a : Option Addr} {os : List ObjD} (h : ObjsIn u a os) {o : ObjD} (ho : o ∈ os) : VersIn u o.at_ o.vers := by
  rcases h with h | ⟨b, off, e, hb, hc⟩
  · subst h; cases ho
  · obtain ⟨i, hi, rfl⟩ := List.getElem_of_mem ho
    exact (hc i hi).2.2

def ObjOk (o : ObjD) : Prop := keyOkB o.key = true ∧ 0 < o.vers.length ∧ VersOkTo o.vers o.vers.length
theorem mapOk_iff (os : List ObjD) : MapOkTo os os.length ↔ (∀ o ∈ os, ObjOk o) ∧ ObjsUp os os.length := by
  constructor
  · intro h
    refine ⟨fun x hx => ?_, fun i hi hk j hj e => (h i hi hk).2.1 j hj e⟩
    obtain ⟨i, hi, rfl⟩ := List.getElem_of_mem hx
    have := h i hi hi
    exact ⟨this.1, this.2.2.1, this.2.2.2⟩
  · intro ⟨h1, h2⟩ i hi hk
    have := h1 _ (List.getElem_mem hi)
    exact ⟨this.1, fun j hj e => h2 i hi hk j hj e, this.2.1, this.2.2⟩

set_option maxRecDepth 100000 in
set_option maxHeartbeats 2000000 in
theorem vmapOk_in (n : Nat) (hn : 6 ≤ n) (a : Option Addr) (os : List ObjD) (cap : Nat) (w : World) (hv : ObjsIn w a os) (hf : ∀ o ∈ os, o.fits) (hlen : os.length ≤ maxLen) :
    CallsIn Fence.wide n Try.prog 19 #[.agg #[.slice a os.length cap]] w (OkPost os w) := by
  have h1 : 1 ≤ n := by omega
  have h2 : 1 ≤ n - 1 - 1 := by omega
  have HV := Lib.hid hv
  have HF := Lib.hid hf
  have HL := Lib.hid hlen
  clear hv hf hlen
  refine callsIn_of_wp_marks Try.func19 rfl trivial ?_ rfl
  simp only [Try.ntmps19, List.size_toArray, List.length_cons, List.length_nil, Nat.reduceAdd, Nat.reduceSub, Array.replicate_succ, Array.replicate_zero, List.push_toArray, List.append_toArray, List.nil_append, List.cons_append]
  gi_wp2_with (first
    | (gi_at_call 85; refine (callsIn_wide.2 (objs_is _ _ _ _)).mono ?_; rintro e w' ⟨rfl, rfl⟩)
    | (gi_at_call 86; refine (callsIn_wide.2 (objAll_any _ _ _ _)).mono ?_; rintro e w' ⟨rfl, rfl⟩))
  obtain ⟨W0, hW0⟩ : ∃ W0, (((w.alloc (.cells #[.slice a os.length cap] 25)).alloc (.cells #[.bool false] 4)).alloc (.cells #[.slice a os.length cap] 25)).alloc (.cells #[.slice a os.length cap] 127) = W0 := ⟨_, rfl⟩
  have hsz : W0.heap.size = w.heap.size + 4 := by rw [← hW0]; simp
  have hB0 : Below w.heap.size w W0 := by rw [← hW0]; exact ((((Below.refl _ _).alloc (Nat.le_refl _) _).alloc (by simp) _).alloc (by simp; omega) _).alloc (by simp; omega) _
  have c0 : W0.cell? ⟨w.heap.size, 0, none⟩ = some (.slice a os.length cap) := by rw [← hW0]; simp [go_sem]
  have c2 : W0.cell? ⟨w.heap.size + 1, 0, none⟩ = some (.bool false) := by rw [← hW0]; simp [go_sem]
  have f2 : W0.frozen? ⟨w.heap.size + 1, 0, none⟩ = false := by rw [← hW0]; simp [go_sem]
  have c3 : W0.cell? ⟨w.heap.size + 1 + 1 + 1, 0, none⟩ = some (.slice a os.length cap) := by rw [← hW0]; simp [go_sem]
  rw [hW0]
  clear hW0
  refine wpIn_rangeFunc_ownH rfl h1 (gf := 140) (lb := #[.pointer (some ⟨w.heap.size + 1 + 1 + 1, 0, none⟩)]) rfl trivial (enters_of Try.func140 (by kernel_rfl) rfl)
    (objAll_stops (n - 1) (by omega) (w.heap.size + 1 + 1 + 1) a os cap w HV.out HL.out W0 (by omega) hB0 c3) belowK_t (belowK_b (by omega)) (Below.refl _ _) (fun _ => rfl)
    (fun pre W => ((∀ x ∈ pre, ObjOk x.1) ∧ W.cell? ⟨w.heap.size, 0, none⟩ = some (.slice a os.length cap) ∧ W.cell? ⟨w.heap.size + 1, 0, none⟩ = some (.bool false) ∧ W.frozen? ⟨w.heap.size + 1, 0, none⟩ = false) ∧ Below w.heap.size w W ∧ w.heap.size + 4 ≤ W.heap.size)
    (fun c pre W => (c = .ret ∧ (∃ x ∈ pre, ¬ ObjOk x.1) ∧ W.cell? ⟨w.heap.size + 1, 0, none⟩ = some (.bool false)) ∧ Below w.heap.size w W)
    (OwnFrom.and (Own.from (fun _ A B row hs hg hr => ⟨hs.1, cell_kept hs.2.1 hg hr, cell_kept hs.2.2.1 hg hr, (frozen_kept hs.2.2.1 hg hr).trans hs.2.2.2⟩) _) (OwnFrom.and (ownFrom_below (Nat.le_refl _) (by omega)) (fun _ _ _ _ h hg _ => Nat.le_trans h hg.size)))
    (fun c => OwnFrom.and (Own.from (fun _ A B row hs hg hr => ⟨hs.1, hs.2.1, cell_kept hs.2.2 hg hr⟩) _) (ownFrom_below (Nat.le_refl _) (by omega)))
    ⟨⟨by simp, c0, c2, f2⟩, hB0, by omega⟩
    (fun x a' W => ∃ Bx, w.heap.size + 4 ≤ Bx ∧ (W.cell? ⟨Bx, 0, none⟩ = some (.string x.1.key) ∧ W.cell? ⟨Bx, 1, none⟩ = some (.slice x.1.at_ x.1.vers.length x.1.cap)) ∧
      a' = { tmps := #[.agg #[.slice a os.length cap], .pointer (some ⟨w.heap.size, 0, none⟩), .pointer (some ⟨w.heap.size + 1, 0, none⟩), undef, .pointer (some ⟨Bx, 0, none⟩), .agg #[.slice a os.length cap], .slice a os.length cap, .func (.func 140) #[] #[.pointer (some ⟨w.heap.size + 1 + 1 + 1, 0, none⟩)], .string x.1.key, .agg #[.string x.1.key, .slice x.1.at_ x.1.vers.length x.1.cap], undef, undef, undef, undef, undef, undef], defers := [] })
    (fun x a' => Own.from (fun _ A B row hs hg hr => by obtain ⟨Bx, q1, ⟨q2, q3⟩, q5⟩ := hs; exact ⟨Bx, q1, ⟨cell_kept q2 hg hr, cell_kept q3 hg hr⟩, q5⟩) _)
    ?assign ?body ?done ?stop
  case assign =>
    rintro l pre x W K ⟨⟨g0, g1, g3, g4⟩, hB, hz⟩ hK
    simp only [objArgs]
    gi_wp2
    exact hK _ _ ((KeepsOthers.alloc _ _).from _) ((Below.refl _ W).alloc hB.size _) ⟨⟨g0, cell_alloc_l _ g1, cell_alloc_l _ g3, frozen_alloc_l _ g3 g4⟩, hB.alloc hB.size _, by simp; omega⟩ ⟨W.heap.size, by omega, ⟨by simp [go_sem], by simp [go_sem]⟩, rfl⟩
  case body =>
    rintro l pre x a' W hl hr ⟨⟨g0, g1, g3, g4⟩, hB, hz⟩ ⟨Bx, hBx, ⟨b0, b1⟩, rfl⟩ hlt
    obtain ⟨hx1, hx2, hx3⟩ := HF.out _ x.2
    have hxv : VersIn w x.1.at_ x.1.vers := HV.out.mem x.2
    have HX := Lib.hid (hxv.below hB)
    have HX3 := Lib.hid hx3
    have HBw := Lib.hid hB
    clear hxv hx3 hB
    gi_wp2_with (gi_at_call 87; refine (CallsIn.inRound l (callsIn_wide.2 (objValid_any _ _ _ _ _ HX.out hx1 hx2 HX3.out))).mono ?_; rintro e w2 ⟨b, rfl, hb, hb2⟩; have g3' := (hb2.cell (p := ⟨w.heap.size + 1, 0, none⟩) (by show w.heap.size + 1 < W.heap.size; omega)).trans g3; have g4' := (hb2.frozen (p := ⟨w.heap.size + 1, 0, none⟩) (by show w.heap.size + 1 < W.heap.size; omega)).trans g4; have HI := Lib.hid hb; have HE := Lib.hid hb2; clear hb hb2; cases b)
    · exact ⟨((keeps_of_below HE.out).trans (KeepsOthers.setCell _ _ _)).from _, ⟨rfl, ⟨x, by simp, fun h => absurd (HI.out.2 h) (by decide)⟩, World.cell?_setCell_same' _ _ _ (by rw [g3']; rfl)⟩, (HBw.out.trans (HE.out.mono HBw.out.size)).setCell (p := ⟨w.heap.size + 1, 0, none⟩) (by simp) _⟩
    · exact ⟨(keeps_of_below HE.out).from _, HE.out.mono HBw.out.size, ⟨fun y hy => (List.mem_append.1 hy).elim (g0 y) (fun e => by simp at e; subst e; exact HI.out.1 (by simp)), (HE.out.cell (p := ⟨w.heap.size, 0, none⟩) (by show w.heap.size < W.heap.size; omega)).trans g1, g3', g4'⟩, HBw.out.trans (HE.out.mono HBw.out.size), Nat.le_trans hz HE.out.size⟩
  case done =>
    rintro D ys W hD rfl ⟨⟨g0, g1, g3, g4⟩, hB, hz⟩ hK
    have hall : ∀ x ∈ os, ObjOk x := fun x hx => g0 ⟨x, hx⟩ (List.mem_attach _ _)
    have HA := Lib.hid hall
    have HK := Lib.hid hK
    have HB := Lib.hid hB
    clear hall g0 hK hB
    gi_wp2_with (first
      | (gi_at_call 85; refine (callsIn_wide.2 (objs_is _ _ _ _)).mono ?_; rintro e w' ⟨rfl, rfl⟩)
      | (gi_at_call 88; refine (callsIn_wide.2 (objAscends_any _ _ _ _ (HV.out.below (HB.out.alloc HB.out.size _)) HL.out)).mono ?_; rintro e w3 ⟨b, rfl, hb, hbel⟩; have HI := Lib.hid hb; have HE := Lib.hid hbel; clear hb hbel; have g3' := (HE.out.cell (p := ⟨w.heap.size + 1, 0, none⟩) (by simp; omega)).trans (cell_alloc_l _ g3); have g4' := (HE.out.frozen (p := ⟨w.heap.size + 1, 0, none⟩) (by simp; omega)).trans (frozen_alloc_l _ g3 g4)))
    have hK1 := (KeepsOthers.alloc W (.cells #[.slice a os.length cap] 25)).same D _ HK.out rfl
    have hK2 := (keeps_of_below HE.out).same D _ hK1 rfl
    have hK' := (KeepsOthers.setCell w3 ⟨w.heap.size + 1, 0, none⟩ (.bool b)).same D _ hK2 rfl
    refine ⟨by simp, .inl ⟨_, _, rfl, run_takeDeferred hK', ?_⟩⟩
    have hc5 := cell_kept (World.cell?_setCell_same' w3 ⟨w.heap.size + 1, 0, none⟩ (.bool b) (by rw [g3']; rfl)) (grownBy_putObj' _ D (.deferred none)) (fun r e => by cases e; exact ⟨_, hK', rfl⟩)
    have hB3 : Below w.heap.size w w3 := (HB.out.alloc HB.out.size _).trans (HE.out.mono (by have := HB.out.size; simp; omega))
    refine ⟨.bool b, ?_, b, rfl, ?_, (hB3.setCell (p := ⟨w.heap.size + 1, 0, none⟩) (by simp) _).trans (belowK_b (w := w) (Nat.le_refl _) _ D _ _ (by omega) hK' rfl rfl)⟩
    · simp [results, Try.f19, go_sem, hc5]
    · rw [HI.out, mapOk_iff]
      exact ⟨fun h => ⟨HA.out, h⟩, fun h => h.2⟩
  case stop =>
    rintro D c pre W hD hpre ⟨⟨rfl, ⟨x, hx, hin⟩, hcr⟩, hB⟩ hK
    gi_wp2
    refine ⟨by simp, .inl ⟨_, _, rfl, run_takeDeferred hK, ?_⟩⟩
    have hc5 := cell_kept hcr (grownBy_putObj' _ D (.deferred none)) (fun r e => by cases e; exact ⟨_, hK, rfl⟩)
    refine ⟨.bool false, ?_, false, rfl, ?_, hB.trans (belowK_b (w := w) (Nat.le_refl _) W D _ _ (by omega) hK rfl rfl)⟩
    · simp [results, Try.f19, go_sem, hc5]
    · simp only [Bool.false_eq_true, false_iff]
      exact fun h => hin (((mapOk_iff os).1 h).1 x.1 x.2)

theorem vmapOk_any (a : Option Addr) (os : List ObjD) (cap : Nat) (w : World) (hv : ObjsIn w a os) (hf : ∀ o ∈ os, o.fits) (hlen : os.length ≤ maxLen) :
    Calls Try.prog 19 #[.agg #[.slice a os.length cap]] w (OkPost os w) :=
  callsIn_wide.1 (vmapOk_in 6 (by omega) a os cap w hv hf hlen)

set_option maxHeartbeats 400000 in
theorem specVmapOk_any (a : Option Addr) (os : List ObjD) (cap : Nat) (w : World) (hv : ObjsIn w a os) (hf : ∀ o ∈ os, o.fits) (hlen : os.length ≤ maxLen) :
    Calls Try.prog 20 #[.agg #[.slice a os.length cap]] w (OkPost os w) := by
  have HV := Lib.hid hv
  have HF := Lib.hid hf
  clear hv hf
  go_enter Try.func20, Try.ntmps20
  go_wp2_with fail
  have hb0 : Below w.heap.size w (w.alloc (.cells #[.slice a os.length cap] 25)) := (Below.refl _ _).alloc (Nat.le_refl _) _
  refine (l2Ok_any a os cap _ (HV.out.below hb0) HF.out hlen).mono ?_
  rintro e w2 ⟨b, rfl, hb, hb2⟩
  have HI := Lib.hid hb
  clear hb
  go_wp2_with fail
  go_ret
  exact ⟨b, rfl, HI.out, hb0.trans (hb2.mono (by simp))⟩
end Go.Proofs.Ytjijichgoodocaa

/- The search for a place in an ordered map. -/
namespace Go.Proofs.Ytjijichgoodocaa
open Go.RowKit

/-- Where a search ends: what is ahead says no, what is there says yes. -/
def Cut (p : Nat → Bool) (n r : Nat) : Prop := r ≤ n ∧ (∀ k, k + 1 = r → p k = false) ∧ (r < n → p r = true)
def CutPost (p : Nat → Bool) (n : Nat) (w : World) (e : Ending) (w' : World) : Prop := ∃ r : Nat, e = .returned (.int .i64 r) ∧ Cut p n r ∧ Below w.heap.size w w'
/-- The closure answers so, in every later world. -/
def Says (c : Nat) (x y : Value) (p : Nat → Bool) (n : Nat) (w : World) : Prop :=
  ∀ i, i < n → ∀ u, Below w.heap.size w u → Calls Try.prog c #[.int .i64 (i : Int), x, y] u fun e u' => e = .returned (.bool (p i)) ∧ Below u.heap.size u u'

set_option maxHeartbeats 1000000 in
theorem searchVer_any (x y : Value) (p : Nat → Bool) (n : Nat) (w : World) (hn : n ≤ 1048576) (hf : Says 181 x y p n w) :
    Calls Try.prog 180 #[.int .i64 (n : Int), .func (.func 181) #[] #[x, y]] w (CutPost p n w) := by
  have HF := Lib.hid hf
  clear hf
  go_enter Try.func180, Try.ntmps180
  go_wp2_with fail
  go_loopw [5, 6] (fun a b wr => ∃ i j : Nat, i ≤ j ∧ j ≤ n ∧ a = .int .i64 i ∧ b = .int .i64 j ∧ (∀ k, k + 1 = i → p k = false) ∧ (j < n → p j = true) ∧ Below w.heap.size w wr) (fun a b _ => (intOf b).toNat - (intOf a).toNat)
  case atStart => exact ⟨0, n, Nat.zero_le _, Nat.le_refl _, rfl, rfl, fun k e => by omega, fun h => absurd h (by omega), Below.refl _ _⟩
  case round =>
    obtain ⟨i, j, hij, hj, rfl, rfl, h0, h1, hB⟩ := hrel
    have H0 := Lib.hid h0
    have H1 := Lib.hid h1
    have HB := Lib.hid hB
    clear h0 h1 hB
    by_cases hlt : i < j
    · go_wp2_with fail
      have e : ((i : Int) + (j : Int)) / 2 = (((i + j) / 2 : Nat) : Int) := by omega
      rw [e]
      clear e
      have hm1 : i ≤ (i + j) / 2 := by omega
      have hm2 : (i + j) / 2 < j := by omega
      generalize (i + j) / 2 = m at *
      refine (HF.out m (by omega) _ HB.out).mono ?_
      rintro e w2 ⟨rfl, hb2⟩
      have HB2 := Lib.hid (HB.out.trans (hb2.mono HB.out.size))
      clear hb2
      cases hp : p m
      · go_wp2_with fail
        go_roundw
        case rel => exact ⟨m + 1, j, by omega, hj, by go_num, rfl, fun k e => (by obtain rfl : k = m := (by omega); exact hp), H1.out, HB2.out⟩
        case measure => simp [intOf]; omega
      · go_wp2_with fail
        go_roundw
        case rel => exact ⟨i, m, hm1, by omega, rfl, rfl, H0.out, fun _ => hp, HB2.out⟩
        case measure => simp [intOf]; omega
    · go_wp2_with fail
      go_ret
      obtain rfl : i = j := by omega
      exact ⟨i, rfl, ⟨hj, H0.out, H1.out⟩, HB.out⟩

set_option maxHeartbeats 1000000 in
theorem searchObj_any (x y : Value) (p : Nat → Bool) (n : Nat) (w : World) (hn : n ≤ 1048576) (hf : Says 194 x y p n w) :
    Calls Try.prog 180 #[.int .i64 (n : Int), .func (.func 194) #[] #[x, y]] w (CutPost p n w) := by
  have HF := Lib.hid hf
  clear hf
  go_enter Try.func180, Try.ntmps180
  go_wp2_with fail
  go_loopw [5, 6] (fun a b wr => ∃ i j : Nat, i ≤ j ∧ j ≤ n ∧ a = .int .i64 i ∧ b = .int .i64 j ∧ (∀ k, k + 1 = i → p k = false) ∧ (j < n → p j = true) ∧ Below w.heap.size w wr) (fun a b _ => (intOf b).toNat - (intOf a).toNat)
  case atStart => exact ⟨0, n, Nat.zero_le _, Nat.le_refl _, rfl, rfl, fun k e => by omega, fun h => absurd h (by omega), Below.refl _ _⟩
  case round =>
    obtain ⟨i, j, hij, hj, rfl, rfl, h0, h1, hB⟩ := hrel
    have H0 := Lib.hid h0
    have H1 := Lib.hid h1
    have HB := Lib.hid hB
    clear h0 h1 hB
    by_cases hlt : i < j
    · go_wp2_with fail
      have e : ((i : Int) + (j : Int)) / 2 = (((i + j) / 2 : Nat) : Int) := by omega
      rw [e]
      clear e
      have hm1 : i ≤ (i + j) / 2 := by omega
      have hm2 : (i + j) / 2 < j := by omega
      generalize (i + j) / 2 = m at *
      refine (HF.out m (by omega) _ HB.out).mono ?_
      rintro e w2 ⟨rfl, hb2⟩
      have HB2 := Lib.hid (HB.out.trans (hb2.mono HB.out.size))
      clear hb2
      cases hp : p m
      · go_wp2_with fail
        go_roundw
        case rel => exact ⟨m + 1, j, by omega, hj, by go_num, rfl, fun k e => (by obtain rfl : k = m := (by omega); exact hp), H1.out, HB2.out⟩
        case measure => simp [intOf]; omega
      · go_wp2_with fail
        go_roundw
        case rel => exact ⟨i, m, hm1, by omega, rfl, rfl, H0.out, fun _ => hp, HB2.out⟩
        case measure => simp [intOf]; omega
    · go_wp2_with fail
      go_ret
      obtain rfl : i = j := by omega
      exact ⟨i, rfl, ⟨hj, H0.out, H1.out⟩, HB.out⟩
end Go.Proofs.Ytjijichgoodocaa

/- How many versions, or objects, have at most that rank. -/
namespace Go.Proofs.Ytjijichgoodocaa
open Go.RowKit

def verP (vs : List VerD) (id : Int) (i : Nat) : Bool := if h : i < vs.length then decide (id < vs[i].id) else true
theorem verP_at {vs : List VerD} {id : Int} {i : Nat} (h : i < vs.length) : verP vs id i = decide (id < vs[i].id) := by simp [verP, h]
def objP (os : List ObjD) (key : ByteArray) (i : Nat) : Bool := if h : i < os.length then Op.bytesLess key.toList os[i].key.toList else true
theorem objP_at {os : List ObjD} {key : ByteArray} {i : Nat} (h : i < os.length) : objP os key i = Op.bytesLess key.toList os[i].key.toList := by simp [objP, h]

set_option maxHeartbeats 1000000 in
theorem verUp1_any (i : Nat) (B1 B2 : Nat) (a : Option Addr) (vs : List VerD) (cap : Nat) (id : Int) (w : World) (hi : i < vs.length) (c1 : w.cell? ⟨B1, 0, none⟩ = some (.slice a vs.length cap)) (c2 : w.cell? ⟨B2, 0, none⟩ = some (.int .i64 id)) (hv : VersIn w a vs) :
    Calls Try.prog 181 #[.int .i64 (i : Int), .pointer (some ⟨B1, 0, none⟩), .pointer (some ⟨B2, 0, none⟩)] w fun e w' => e = .returned (.bool (verP vs id i)) ∧ Below w.heap.size w w' := by
  rw [verP_at hi]
  rcases hv with hnil | ⟨b, off, rfl, hb, hc⟩
  · rw [hnil] at hi; simp at hi
  obtain ⟨d0, d1, d2⟩ := hc i hi
  have y0 := cell_regrown d0
  have y1 := cell_regrown d1
  have y2 := cell_regrown d2
  have x1 := cell_regrown c1
  have x2 := cell_regrown c2
  have m1 := meth_rank_ver vs[i].id vs[i].text vs[i].gone
  clear hc
  go_enter Try.func181, Try.ntmps181
  go_wp2_with fail
  refine wp_region_quiet_below (by kernel_rfl) (by kernel_rfl) ?_
  repeat (go_big_quiet_step ((go_at_call 233; exact Calls.regrown_of (verRank_any _ _ _ _))))
  refine wpQuiet_nil ?_
  intro _ hw'
  obtain ⟨⟨dq, osq⟩, hw''⟩ := hw'
  subst hw''
  go_wp2_with fail
  go_ret
  exact ⟨rfl, below_regrown _ _ _⟩

set_option maxHeartbeats 1000000 in
theorem verUpTo_any (a : Option Addr) (vs : List VerD) (cap : Nat) (id : Int) (w : World) (hv : VersIn w a vs) (hn : vs.length ≤ 1048576) :
    Calls Try.prog 148 #[.slice a vs.length cap, .int .i64 id] w (CutPost (verP vs id) vs.length w) := by
  have HV := Lib.hid hv
  clear hv
  go_enter Try.func148, Try.ntmps148
  go_wp2_with fail
  have hb0 : Below w.heap.size w ((w.alloc (.cells #[.slice a vs.length cap] 170)).alloc (.cells #[.int .i64 id] 3)) := ((Below.refl _ _).alloc (Nat.le_refl _) _).alloc (by simp) _
  refine (searchVer_any _ _ (verP vs id) vs.length _ hn ?hf).mono ?_
  case hf =>
    intro i hi u hu
    have e1 := hu.cell (p := ⟨w.heap.size, 0, none⟩) (by simp; omega)
    have e2 := hu.cell (p := ⟨w.heap.size + 1, 0, none⟩) (by simp)
    simp [go_sem] at e1 e2
    exact verUp1_any i _ _ a vs cap id u hi e1 e2 ((HV.out.below hb0).below hu)
  rintro e w2 ⟨r, rfl, hr, hb2⟩
  have HR := Lib.hid hr
  clear hr
  go_wp2_with fail
  go_ret
  exact ⟨r, rfl, HR.out, hb0.trans (hb2.mono (by simp; omega))⟩

set_option maxHeartbeats 1000000 in
theorem objUp1_any (i : Nat) (B1 B2 : Nat) (a : Option Addr) (os : List ObjD) (cap : Nat) (key : ByteArray) (w : World) (hi : i < os.length) (c1 : w.cell? ⟨B1, 0, none⟩ = some (.slice a os.length cap)) (c2 : w.cell? ⟨B2, 0, none⟩ = some (.string key)) (hv : ObjsIn w a os) :
    Calls Try.prog 194 #[.int .i64 (i : Int), .pointer (some ⟨B1, 0, none⟩), .pointer (some ⟨B2, 0, none⟩)] w fun e w' => e = .returned (.bool (objP os key i)) ∧ Below w.heap.size w w' := by
  rw [objP_at hi]
  have hle := Lib.hid (bytesLess_le os[i].key.toList key.toList)
  rcases hv with hnil | ⟨b, off, rfl, hb, hc⟩
  · rw [hnil] at hi; simp at hi
  obtain ⟨d0, d1, d2⟩ := hc i hi
  have y0 := cell_regrown d0
  have y1 := cell_regrown d1
  have x1 := cell_regrown c1
  have x2 := cell_regrown c2
  have m1 := meth_rank_obj os[i].key os[i].at_ os[i].vers.length os[i].cap
  clear hc d2
  go_enter Try.func194, Try.ntmps194
  go_wp2_with fail
  refine wp_region_quiet_below (by kernel_rfl) (by kernel_rfl) ?_
  repeat (go_big_quiet_step ((go_at_call 234; exact Calls.regrown_of (objRank_any _ _ _ _ _))))
  refine wpQuiet_nil ?_
  intro _ hw'
  obtain ⟨⟨dq, osq⟩, hw''⟩ := hw'
  subst hw''
  go_wp2_with fail
  go_ret
  exact ⟨ret_bool (by rw [← Bool.not_or, hle.out]; simp), below_regrown _ _ _⟩

set_option maxHeartbeats 1000000 in
theorem objUpTo_any (a : Option Addr) (os : List ObjD) (cap : Nat) (key : ByteArray) (w : World) (hv : ObjsIn w a os) (hn : os.length ≤ 1048576) :
    Calls Try.prog 177 #[.slice a os.length cap, .string key] w (CutPost (objP os key) os.length w) := by
  have HV := Lib.hid hv
  clear hv
  go_enter Try.func177, Try.ntmps177
  go_wp2_with fail
  have hb0 : Below w.heap.size w ((w.alloc (.cells #[.slice a os.length cap] 127)).alloc (.cells #[.string key] 9)) := ((Below.refl _ _).alloc (Nat.le_refl _) _).alloc (by simp) _
  refine (searchObj_any _ _ (objP os key) os.length _ hn ?hf).mono ?_
  case hf =>
    intro i hi u hu
    have e1 := hu.cell (p := ⟨w.heap.size, 0, none⟩) (by simp; omega)
    have e2 := hu.cell (p := ⟨w.heap.size + 1, 0, none⟩) (by simp)
    simp [go_sem] at e1 e2
    exact objUp1_any i _ _ a os cap key u hi e1 e2 ((HV.out.below hb0).below hu)
  rintro e w2 ⟨r, rfl, hr, hb2⟩
  have HR := Lib.hid hr
  clear hr
  go_wp2_with fail
  go_ret
  exact ⟨r, rfl, HR.out, hb0.trans (hb2.mono (by simp; omega))⟩
end Go.Proofs.Ytjijichgoodocaa
