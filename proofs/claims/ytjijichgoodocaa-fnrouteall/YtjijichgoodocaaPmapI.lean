/- Whether a map is valid, as the program asks it: a loop over the iterator of its objects; it says what the model says. -/
import Derived.RangeFuncNested
import Derived.RangeFuncBound
import Derived.RangeFuncCalls
import Derived.RangeFuncLeaves
import Derived.Shelf.Abstract
import Derived.Shelf.RegionOpen
import Derived.WalkKit
import Derived.OwnWalkIn
import Derived.TacticsInMore
import Derived.LoopNIn
import Derived.LoopIn
import Derived.Test.YtjijichgoodocaaValid
import Derived.Test.YtjijichgoodocaaRowOrd
namespace Go.Proofs.Ytjijichgoodocaa
open Go.RowKit Go.Shelf
attribute [local go_sem] Oper.semAt_some
attribute [local go_sem] wide_fn

set_option maxHeartbeats 400000 in
theorem objs_is (a : Option Addr) (n c : Nat) (w : World) :
    Calls Try.prog 85 #[.agg #[.slice a n c]] w fun e w' => e = .returned (.slice a n c) ∧ w' = w.alloc (.cells #[.slice a n c] 25) := by
  go_enter Try.func85, Try.ntmps85
  go_wp2
  go_ret
  exact ⟨rfl, rfl⟩

theorem ObjsIn.mem {u : World} {a : Option Addr} {os : List ObjD} (h : ObjsIn u a os) {o : ObjD} (ho : o ∈ os) : VersIn u o.at_ o.vers := by
  rcases h with h | ⟨b, off, e, hb, hc⟩
  · subst h; cases ho
  · obtain ⟨i, hi, rfl⟩ := List.getElem_of_mem ho
    exact (hc i hi).2.2

def ObjOk (o : ObjD) : Prop := keyOkB o.key = true ∧ 0 < o.vers.length ∧ VersOkTo o.vers o.vers.length
theorem mapOk_iff (os : List ObjD) : MapOkTo os os.length ↔ (∀ o ∈ os, ObjOk o) ∧ ObjsUp os os.length := by
  constructor
  · intro h
    refine ⟨fun x hx => ?_, fun i hi hk j hj e => (h i hi hk).2.1 j hj e⟩
    obtain ⟨i, hi, rfl⟩ := List.getElem_of_mem hx
    have := h i hi hi
    exact ⟨this.1, this.2.2.1, this.2.2.2⟩
  · intro ⟨h1, h2⟩ i hi hk
    have := h1 _ (List.getElem_mem hi)
    exact ⟨this.1, fun j hj e => h2 i hi hk j hj e, this.2.1, this.2.2⟩

set_option maxRecDepth 100000 in
set_option maxHeartbeats 2000000 in
theorem vmapOk_in (n : Nat) (hn : 6 ≤ n) (a : Option Addr) (os : List ObjD) (cap : Nat) (w : World) (hv : ObjsIn w a os) (hf : ∀ o ∈ os, o.fits) (hlen : os.length ≤ maxLen) :
    CallsIn Fence.wide n Try.prog 19 #[.agg #[.slice a os.length cap]] w (OkPost os w) := by
  have h1 : 1 ≤ n := by omega
  have h2 : 1 ≤ n - 1 - 1 := by omega
  have HV := Lib.hid hv
  have HF := Lib.hid hf
  have HL := Lib.hid hlen
  clear hv hf hlen
  refine callsIn_of_wp_marks Try.func19 rfl trivial ?_ rfl
  simp only [Try.ntmps19, List.size_toArray, List.length_cons, List.length_nil, Nat.reduceAdd, Nat.reduceSub, Array.replicate_succ, Array.replicate_zero, List.push_toArray, List.append_toArray, List.nil_append, List.cons_append]
  gi_wp2_with (first
    | (gi_at_call 85; refine (callsIn_wide.2 (objs_is _ _ _ _)).mono ?_; rintro e w' ⟨rfl, rfl⟩)
    | (gi_at_call 86; refine (callsIn_wide.2 (objAll_any _ _ _ _)).mono ?_; rintro e w' ⟨rfl, rfl⟩))
  obtain ⟨W0, hW0⟩ : ∃ W0, (((w.alloc (.cells #[.slice a os.length cap] 25)).alloc (.cells #[.bool false] 4)).alloc (.cells #[.slice a os.length cap] 25)).alloc (.cells #[.slice a os.length cap] 127) = W0 := ⟨_, rfl⟩
  have hsz : W0.heap.size = w.heap.size + 4 := by rw [← hW0]; simp
  have hB0 : Below w.heap.size w W0 := by rw [← hW0]; exact ((((Below.refl _ _).alloc (Nat.le_refl _) _).alloc (by simp) _).alloc (by simp; omega) _).alloc (by simp; omega) _
  have c0 : W0.cell? ⟨w.heap.size, 0, none⟩ = some (.slice a os.length cap) := by rw [← hW0]; simp [go_sem]
  have c2 : W0.cell? ⟨w.heap.size + 1, 0, none⟩ = some (.bool false) := by rw [← hW0]; simp [go_sem]
  have f2 : W0.frozen? ⟨w.heap.size + 1, 0, none⟩ = false := by rw [← hW0]; simp [go_sem]
  have c3 : W0.cell? ⟨w.heap.size + 1 + 1 + 1, 0, none⟩ = some (.slice a os.length cap) := by rw [← hW0]; simp [go_sem]
  rw [hW0]
  clear hW0
  refine wpIn_rangeFunc_ownH rfl h1 (gf := 140) (lb := #[.pointer (some ⟨w.heap.size + 1 + 1 + 1, 0, none⟩)]) rfl trivial (enters_of Try.func140 (by kernel_rfl) rfl)
    (objAll_stops (n - 1) (by omega) (w.heap.size + 1 + 1 + 1) a os cap w HV.out HL.out W0 (by omega) hB0 c3) belowK_t (belowK_b (by omega)) (Below.refl _ _) (fun _ => rfl)
    (fun pre W => ((∀ x ∈ pre, ObjOk x.1) ∧ W.cell? ⟨w.heap.size, 0, none⟩ = some (.slice a os.length cap) ∧ W.cell? ⟨w.heap.size + 1, 0, none⟩ = some (.bool false) ∧ W.frozen? ⟨w.heap.size + 1, 0, none⟩ = false) ∧ Below w.heap.size w W ∧ w.heap.size + 4 ≤ W.heap.size)
    (fun c pre W => (c = .ret ∧ (∃ x ∈ pre, ¬ ObjOk x.1) ∧ W.cell? ⟨w.heap.size + 1, 0, none⟩ = some (.bool false)) ∧ Below w.heap.size w W)
    (OwnFrom.and (Own.from (fun _ A B row hs hg hr => ⟨hs.1, cell_kept hs.2.1 hg hr, cell_kept hs.2.2.1 hg hr, (frozen_kept hs.2.2.1 hg hr).trans hs.2.2.2⟩) _) (OwnFrom.and (ownFrom_below (Nat.le_refl _) (by omega)) (fun _ _ _ _ h hg _ => Nat.le_trans h hg.size)))
    (fun c => OwnFrom.and (Own.from (fun _ A B row hs hg hr => ⟨hs.1, hs.2.1, cell_kept hs.2.2 hg hr⟩) _) (ownFrom_below (Nat.le_refl _) (by omega)))
    ⟨⟨by simp, c0, c2, f2⟩, hB0, by omega⟩
    (fun x a' W => ∃ Bx, w.heap.size + 4 ≤ Bx ∧ (W.cell? ⟨Bx, 0, none⟩ = some (.string x.1.key) ∧ W.cell? ⟨Bx, 1, none⟩ = some (.slice x.1.at_ x.1.vers.length x.1.cap)) ∧
      a' = { tmps := #[.agg #[.slice a os.length cap], .pointer (some ⟨w.heap.size, 0, none⟩), .pointer (some ⟨w.heap.size + 1, 0, none⟩), undef, .pointer (some ⟨Bx, 0, none⟩), .agg #[.slice a os.length cap], .slice a os.length cap, .func (.func 140) #[] #[.pointer (some ⟨w.heap.size + 1 + 1 + 1, 0, none⟩)], .string x.1.key, .agg #[.string x.1.key, .slice x.1.at_ x.1.vers.length x.1.cap], undef, undef, undef, undef, undef, undef], defers := [] })
    (fun x a' => Own.from (fun _ A B row hs hg hr => by obtain ⟨Bx, q1, ⟨q2, q3⟩, q5⟩ := hs; exact ⟨Bx, q1, ⟨cell_kept q2 hg hr, cell_kept q3 hg hr⟩, q5⟩) _)
    ?assign ?body ?done ?stop
  case assign =>
    rintro l pre x W K ⟨⟨g0, g1, g3, g4⟩, hB, hz⟩ hK
    simp only [objArgs]
    gi_wp2
    exact hK _ _ ((KeepsOthers.alloc _ _).from _) ((Below.refl _ W).alloc hB.size _) ⟨⟨g0, cell_alloc_l _ g1, cell_alloc_l _ g3, frozen_alloc_l _ g3 g4⟩, hB.alloc hB.size _, by simp; omega⟩ ⟨W.heap.size, by omega, ⟨by simp [go_sem], by simp [go_sem]⟩, rfl⟩
  case body =>
    rintro l pre x a' W hl hr ⟨⟨g0, g1, g3, g4⟩, hB, hz⟩ ⟨Bx, hBx, ⟨b0, b1⟩, rfl⟩ hlt
    obtain ⟨hx1, hx2, hx3⟩ := HF.out _ x.2
    have hxv : VersIn w x.1.at_ x.1.vers := HV.out.mem x.2
    have HX := Lib.hid (hxv.below hB)
    have HX3 := Lib.hid hx3
    have HBw := Lib.hid hB
    clear hxv hx3 hB
    gi_wp2_with (gi_at_call 87; refine (CallsIn.inRound l (callsIn_wide.2 (objValid_any _ _ _ _ _ HX.out hx1 hx2 HX3.out))).mono ?_; rintro e w2 ⟨b, rfl, hb, hb2⟩; have g3' := (hb2.cell (p := ⟨w.heap.size + 1, 0, none⟩) (by show w.heap.size + 1 < W.heap.size; omega)).trans g3; have g4' := (hb2.frozen (p := ⟨w.heap.size + 1, 0, none⟩) (by show w.heap.size + 1 < W.heap.size; omega)).trans g4; have HI := Lib.hid hb; have HE := Lib.hid hb2; clear hb hb2; cases b)
    · exact ⟨((keeps_of_below HE.out).trans (KeepsOthers.setCell _ _ _)).from _, ⟨rfl, ⟨x, by simp, fun h => absurd (HI.out.2 h) (by decide)⟩, World.cell?_setCell_same' _ _ _ (by rw [g3']; rfl)⟩, (HBw.out.trans (HE.out.mono HBw.out.size)).setCell (p := ⟨w.heap.size + 1, 0, none⟩) (by simp) _⟩
    · exact ⟨(keeps_of_below HE.out).from _, HE.out.mono HBw.out.size, ⟨fun y hy => (List.mem_append.1 hy).elim (g0 y) (fun e => by simp at e; subst e; exact HI.out.1 (by simp)), (HE.out.cell (p := ⟨w.heap.size, 0, none⟩) (by show w.heap.size < W.heap.size; omega)).trans g1, g3', g4'⟩, HBw.out.trans (HE.out.mono HBw.out.size), Nat.le_trans hz HE.out.size⟩
  case done =>
    rintro D ys W hD rfl ⟨⟨g0, g1, g3, g4⟩, hB, hz⟩ hK
    have hall : ∀ x ∈ os, ObjOk x := fun x hx => g0 ⟨x, hx⟩ (List.mem_attach _ _)
    have HA := Lib.hid hall
    have HK := Lib.hid hK
    have HB := Lib.hid hB
    clear hall g0 hK hB
    gi_wp2_with (first
      | (gi_at_call 85; refine (callsIn_wide.2 (objs_is _ _ _ _)).mono ?_; rintro e w' ⟨rfl, rfl⟩)
      | (gi_at_call 88; refine (callsIn_wide.2 (objAscends_any _ _ _ _ (HV.out.below (HB.out.alloc HB.out.size _)) HL.out)).mono ?_; rintro e w3 ⟨b, rfl, hb, hbel⟩; have HI := Lib.hid hb; have HE := Lib.hid hbel; clear hb hbel; have g3' := (HE.out.cell (p := ⟨w.heap.size + 1, 0, none⟩) (by simp; omega)).trans (cell_alloc_l _ g3); have g4' := (HE.out.frozen (p := ⟨w.heap.size + 1, 0, none⟩) (by simp; omega)).trans (frozen_alloc_l _ g3 g4)))
    have hK1 := (KeepsOthers.alloc W (.cells #[.slice a os.length cap] 25)).same D _ HK.out rfl
    have hK2 := (keeps_of_below HE.out).same D _ hK1 rfl
    have hK' := (KeepsOthers.setCell w3 ⟨w.heap.size + 1, 0, none⟩ (.bool b)).same D _ hK2 rfl
    refine ⟨by simp, .inl ⟨_, _, rfl, run_takeDeferred hK', ?_⟩⟩
    have hc5 := cell_kept (World.cell?_setCell_same' w3 ⟨w.heap.size + 1, 0, none⟩ (.bool b) (by rw [g3']; rfl)) (grownBy_putObj' _ D (.deferred none)) (fun r e => by cases e; exact ⟨_, hK', rfl⟩)
    have hB3 : Below w.heap.size w w3 := (HB.out.alloc HB.out.size _).trans (HE.out.mono (by have := HB.out.size; simp; omega))
    refine ⟨.bool b, ?_, b, rfl, ?_, (hB3.setCell (p := ⟨w.heap.size + 1, 0, none⟩) (by simp) _).trans (belowK_b (w := w) (Nat.le_refl _) _ D _ _ (by omega) hK' rfl rfl)⟩
    · simp [results, Try.f19, go_sem, hc5]
    · rw [HI.out, mapOk_iff]
      exact ⟨fun h => ⟨HA.out, h⟩, fun h => h.2⟩
  case stop =>
    rintro D c pre W hD hpre ⟨⟨rfl, ⟨x, hx, hin⟩, hcr⟩, hB⟩ hK
    gi_wp2
    refine ⟨by simp, .inl ⟨_, _, rfl, run_takeDeferred hK, ?_⟩⟩
    have hc5 := cell_kept hcr (grownBy_putObj' _ D (.deferred none)) (fun r e => by cases e; exact ⟨_, hK, rfl⟩)
    refine ⟨.bool false, ?_, false, rfl, ?_, hB.trans (belowK_b (w := w) (Nat.le_refl _) W D _ _ (by omega) hK rfl rfl)⟩
    · simp [results, Try.f19, go_sem, hc5]
    · simp only [Bool.false_eq_true, false_iff]
      exact fun h => hin (((mapOk_iff os).1 h).1 x.1 x.2)

theorem vmapOk_any (a : Option Addr) (os : List ObjD) (cap : Nat) (w : World) (hv : ObjsIn w a os) (hf : ∀ o ∈ os, o.fits) (hlen : os.length ≤ maxLen) :
    Calls Try.prog 19 #[.agg #[.slice a os.length cap]] w (OkPost os w) :=
  callsIn_wide.1 (vmapOk_in 6 (by omega) a os cap w hv hf hlen)

set_option maxHeartbeats 400000 in
theorem specVmapOk_any (a : Option Addr) (os : List ObjD) (cap : Nat) (w : World) (hv : ObjsIn w a os) (hf : ∀ o ∈ os, o.fits) (hlen : os.length ≤ maxLen) :
    Calls Try.prog 20 #[.agg #[.slice a os.length cap]] w (OkPost os w) := by
  have HV := Lib.hid hv
  have HF := Lib.hid hf
  clear hv hf
  go_enter Try.func20, Try.ntmps20
  go_wp2_with fail
  have hb0 : Below w.heap.size w (w.alloc (.cells #[.slice a os.length cap] 25)) := (Below.refl _ _).alloc (Nat.le_refl _) _
  refine (l2Ok_any a os cap _ (HV.out.below hb0) HF.out hlen).mono ?_
  rintro e w2 ⟨b, rfl, hb, hb2⟩
  have HI := Lib.hid hb
  clear hb
  go_wp2_with fail
  go_ret
  exact ⟨b, rfl, HI.out, hb0.trans (hb2.mono (by simp))⟩
end Go.Proofs.Ytjijichgoodocaa

/- Whether a map of parts is ok, as the program asks it. -/
namespace Go.Proofs.Ytjijichgoodocaa
open Go.RowKit Go.Shelf
attribute [local go_sem] Oper.semAt_some
attribute [local go_sem] wide_fn

set_option maxHeartbeats 400000 in
theorem rows_is (ep : Int) (a : Option Addr) (n c : Nat) (w : World) :
    Calls Try.prog 162 #[.agg #[.int .i64 ep, .slice a n c]] w fun e w' => e = .returned (.slice a n c) ∧ w' = w.alloc (.cells #[.int .i64 ep, .slice a n c] 90) := by
  go_enter Try.func162, Try.ntmps162
  go_wp2
  go_ret
  exact ⟨rfl, rfl⟩

theorem pmapOk_iff (ep : Int) (vs : List RowD) (h0 : 0 < vs.length) : PmapOkP ep vs ↔ ((∀ v ∈ vs, rowOkB v = true) ∧ RowsUp vs vs.length) ∧ vs[0].f0.toList.isEmpty = true ∧ vs.length ≤ 5 ∧ inB ep 1 99 = true := by
  constructor
  · rintro ⟨h, hl, he⟩
    refine ⟨⟨fun v hv => ?_, fun i hi hk j hj e => (h i hi hk).2.2.1 j hj e⟩, (h 0 h0 h0).2.1 rfl, by simp [inB] at hl; omega, he⟩
    obtain ⟨i, hi, rfl⟩ := List.getElem_of_mem hv
    have := h i hi hi
    simp [rowOkB, this.1, this.2.2.2]
  · rintro ⟨⟨h1, h2⟩, h3, h4, h5⟩
    refine ⟨fun i hi hk => ?_, by simp [inB]; omega, h5⟩
    have := h1 _ (List.getElem_mem hi)
    simp [rowOkB] at this
    exact ⟨this.1, fun e => by subst e; exact h3, fun j hj e => h2 i hi hk j hj e, this.2⟩

set_option maxRecDepth 100000 in
set_option maxHeartbeats 1000000 in
theorem pmapOk_early (ep : Int) (a : Option Addr) (vs : List RowD) (cap : Nat) (w : World) (hv : RowsIn w a vs) (hlen : vs.length ≤ maxLen)
    (h : vs.length = 0 ∨ 5 < vs.length ∨ (∃ h : 0 < vs.length, vs[0].f0.toList.isEmpty = false) ∨ inB ep 1 99 = false) :
    Calls Try.prog 120 #[.agg #[.int .i64 ep, .slice a vs.length cap]] w fun e w' => e = .returned (.bool false) ∧ Below w.heap.size w w' := by
  unfold maxLen at hlen
  have HV := Lib.hid hv
  clear hv
  by_cases h1 : vs.length = 0
  · have h1' : (vs.length : Int) < 1 := by omega
    clear h h1
    go_enter Try.func120, Try.ntmps120
    go_wp2_with fail
    exact bodyPost_ret (v := .bool false) (by simp [results, Try.results120, go_sem]) rfl ⟨rfl, ((Below.refl _ _).alloc (Nat.le_refl _) _).alloc (by simp) _⟩
  have h1' : ¬ (vs.length : Int) < 1 := by omega
  by_cases h2 : 5 < vs.length
  · clear h h1
    go_enter Try.func120, Try.ntmps120
    go_wp2_with fail
    exact bodyPost_ret (v := .bool false) (by simp [results, Try.results120, go_sem]) rfl ⟨rfl, ((Below.refl _ _).alloc (Nat.le_refl _) _).alloc (by simp) _⟩
  rcases HV.out with hnil | ⟨b1, o1, rfl, hb1, hc1⟩
  · rw [hnil] at h1; simp at h1
  have h0 : 0 < vs.length := by omega
  obtain ⟨c0, c1⟩ := hc1 0 h0
  simp only [Nat.zero_mul, Nat.add_zero] at c0 c1
  clear hc1
  cases hE : vs[0].f0.toList.isEmpty
  · clear h h1
    go_enter Try.func120, Try.ntmps120
    go_wp2_with fail
    exact bodyPost_ret (v := .bool false) (by simp [results, Try.results120, go_sem]) rfl ⟨rfl, ((Below.refl _ _).alloc (Nat.le_refl _) _).alloc (by simp) _⟩
  have hI : inB ep 1 99 = false := by
    rcases h with h | h | ⟨_, h⟩ | h
    · exact absurd h h1
    · exact absurd h h2
    · rw [hE] at h; cases h
    · exact h
  clear h h1
  go_enter Try.func120, Try.ntmps120
  go_wp2_with (go_at_call 160; refine (epochOk_any _ _).mono ?_; rintro e w' ⟨rfl, rfl⟩; rw [hI])
  exact bodyPost_ret (v := .bool false) (by simp [results, Try.results120, go_sem]) rfl ⟨rfl, ((Below.refl _ _).alloc (Nat.le_refl _) _).alloc (by simp) _⟩

set_option maxRecDepth 100000 in
set_option maxHeartbeats 2000000 in
theorem pmapOk_in (n : Nat) (hn : 6 ≤ n) (ep : Int) (a : Option Addr) (vs : List RowD) (cap : Nat) (w : World) (hv : RowsIn w a vs) (hf : ∀ v ∈ vs, v.fits) (hlen : vs.length ≤ maxLen)
    (h0 : 0 < vs.length) (h5 : ¬ 5 < vs.length) (hE : vs[0].f0.toList.isEmpty = true) (hI : inB ep 1 99 = true) :
    CallsIn Fence.wide n Try.prog 120 #[.agg #[.int .i64 ep, .slice a vs.length cap]] w (PmOkPost ep vs w) := by
  have h1 : 1 ≤ n := by omega
  have h2 : 1 ≤ n - 1 - 1 := by omega
  have HV := Lib.hid hv
  have HF := Lib.hid hf
  have HL := Lib.hid hlen
  have h1' : ¬ (vs.length : Int) < 1 := by omega
  rcases hv with hnil | ⟨b1, o1, rfl, hb1, hc1⟩
  · rw [hnil] at h0; simp at h0
  obtain ⟨c0, c1⟩ := hc1 0 h0
  simp only [Nat.zero_mul, Nat.add_zero] at c0 c1
  clear hf hlen hc1 c1
  refine callsIn_of_wp_marks Try.func120 rfl trivial ?_ rfl
  simp only [Try.ntmps120, List.size_toArray, List.length_cons, List.length_nil, Nat.reduceAdd, Nat.reduceSub, Array.replicate_succ, Array.replicate_zero, List.push_toArray, List.append_toArray, List.nil_append, List.cons_append]
  gi_wp2_with (first
    | (gi_at_call 160; refine (callsIn_wide.2 (epochOk_any _ _)).mono ?_; rintro e w' ⟨rfl, rfl⟩; rw [hI])
    | (gi_at_call 162; refine (callsIn_wide.2 (rows_is _ _ _ _ _)).mono ?_; rintro e w' ⟨rfl, rfl⟩)
    | (gi_at_call 163; refine (callsIn_wide.2 (rowAll_any _ _ _ _)).mono ?_; rintro e w' ⟨rfl, rfl⟩))
  obtain ⟨W0, hW0⟩ : ∃ W0, (((w.alloc (.cells #[.int .i64 ep, .slice (some ⟨b1, o1, none⟩) vs.length cap] 90)).alloc (.cells #[.bool false] 4)).alloc (.cells #[.int .i64 ep, .slice (some ⟨b1, o1, none⟩) vs.length cap] 90)).alloc (.cells #[.slice (some ⟨b1, o1, none⟩) vs.length cap] 197) = W0 := ⟨_, rfl⟩
  have hsz : W0.heap.size = w.heap.size + 4 := by rw [← hW0]; simp
  have hB0 : Below w.heap.size w W0 := by rw [← hW0]; exact ((((Below.refl _ _).alloc (Nat.le_refl _) _).alloc (by simp) _).alloc (by simp; omega) _).alloc (by simp; omega) _
  have e0 : W0.cell? ⟨w.heap.size, 0, none⟩ = some (.int .i64 ep) := by rw [← hW0]; simp [go_sem]
  have e1 : W0.cell? ⟨w.heap.size, 1, none⟩ = some (.slice (some ⟨b1, o1, none⟩) vs.length cap) := by rw [← hW0]; simp [go_sem]
  have c2 : W0.cell? ⟨w.heap.size + 1, 0, none⟩ = some (.bool false) := by rw [← hW0]; simp [go_sem]
  have f2 : W0.frozen? ⟨w.heap.size + 1, 0, none⟩ = false := by rw [← hW0]; simp [go_sem]
  have c3 : W0.cell? ⟨w.heap.size + 1 + 1 + 1, 0, none⟩ = some (.slice (some ⟨b1, o1, none⟩) vs.length cap) := by rw [← hW0]; simp [go_sem]
  rw [hW0]
  clear hW0
  refine wpIn_rangeFunc_ownH rfl h1 (gf := 188) (lb := #[.pointer (some ⟨w.heap.size + 1 + 1 + 1, 0, none⟩)]) rfl trivial (enters_of Try.func188 (by kernel_rfl) rfl)
    (rowAll_stops (n - 1) (by omega) (w.heap.size + 1 + 1 + 1) (some ⟨b1, o1, none⟩) vs cap w HV.out HL.out W0 (by omega) hB0 c3) belowK_t (belowK_b (by omega)) (Below.refl _ _) (fun _ => rfl)
    (fun pre W => ((∀ x ∈ pre, rowOkB x.1 = true) ∧ (W.cell? ⟨w.heap.size, 0, none⟩ = some (.int .i64 ep) ∧ W.cell? ⟨w.heap.size, 1, none⟩ = some (.slice (some ⟨b1, o1, none⟩) vs.length cap)) ∧ W.cell? ⟨w.heap.size + 1, 0, none⟩ = some (.bool false) ∧ W.frozen? ⟨w.heap.size + 1, 0, none⟩ = false) ∧ Below w.heap.size w W ∧ w.heap.size + 4 ≤ W.heap.size)
    (fun c pre W => (c = .ret ∧ (∃ x ∈ pre, ¬ rowOkB x.1 = true) ∧ W.cell? ⟨w.heap.size + 1, 0, none⟩ = some (.bool false)) ∧ Below w.heap.size w W)
    (OwnFrom.and (Own.from (fun _ A B row hs hg hr => ⟨hs.1, ⟨cell_kept hs.2.1.1 hg hr, cell_kept hs.2.1.2 hg hr⟩, cell_kept hs.2.2.1 hg hr, (frozen_kept hs.2.2.1 hg hr).trans hs.2.2.2⟩) _) (OwnFrom.and (ownFrom_below (Nat.le_refl _) (by omega)) (fun _ _ _ _ h hg _ => Nat.le_trans h hg.size)))
    (fun c => OwnFrom.and (Own.from (fun _ A B row hs hg hr => ⟨hs.1, hs.2.1, cell_kept hs.2.2 hg hr⟩) _) (ownFrom_below (Nat.le_refl _) (by omega)))
    ⟨⟨by simp, ⟨e0, e1⟩, c2, f2⟩, hB0, by omega⟩
    (fun x a' W => ∃ Bx, w.heap.size + 4 ≤ Bx ∧ (W.cell? ⟨Bx, 0, none⟩ = some (.string x.1.f0) ∧ W.cell? ⟨Bx, 1, none⟩ = some (.int .i64 x.1.f1)) ∧
      a' = { tmps := #[.agg #[.int .i64 ep, .slice (some ⟨b1, o1, none⟩) vs.length cap], .pointer (some ⟨w.heap.size, 0, none⟩), .pointer (some ⟨w.heap.size + 1, 0, none⟩), undef, .pointer (some ⟨Bx, 0, none⟩), .pointer (some ⟨w.heap.size, 1, none⟩), .slice (some ⟨b1, o1, none⟩) vs.length cap, .int .i64 (vs.length : Int), .bool false, .bool false, .pointer (some ⟨w.heap.size, 1, none⟩), .slice (some ⟨b1, o1, none⟩) vs.length cap, .int .i64 (vs.length : Int), .bool (decide (5 < (vs.length : Int))), .bool (decide (5 < (vs.length : Int))), .bool (decide (5 < (vs.length : Int))), .pointer (some ⟨w.heap.size, 1, none⟩), .slice (some ⟨b1, o1, none⟩) vs.length cap, .pointer (some ⟨b1, o1, none⟩), .pointer (some ⟨b1, o1, none⟩), .string vs[0].f0, .bool false, .bool (decide (5 < (vs.length : Int))), .bool (decide (5 < (vs.length : Int))), .pointer (some ⟨w.heap.size, 0, none⟩), .int .i64 ep, .bool true, .bool false, .bool (decide (5 < (vs.length : Int))), .agg #[.int .i64 ep, .slice (some ⟨b1, o1, none⟩) vs.length cap], .slice (some ⟨b1, o1, none⟩) vs.length cap, .func (.func 188) #[] #[.pointer (some ⟨w.heap.size + 1 + 1 + 1, 0, none⟩)], .string x.1.f0, .agg #[.string x.1.f0, .int .i64 x.1.f1], undef, undef, undef, undef, undef, undef], defers := [] })
    (fun x a' => Own.from (fun _ A B row hs hg hr => by obtain ⟨Bx, q1, ⟨q2, q3⟩, q5⟩ := hs; exact ⟨Bx, q1, ⟨cell_kept q2 hg hr, cell_kept q3 hg hr⟩, q5⟩) _)
    ?assign ?body ?done ?stop
  case assign =>
    rintro l pre x W K ⟨⟨g0, ⟨g1, g2⟩, g3, g4⟩, hB, hz⟩ hK
    simp only [rowArgs]
    gi_wp2
    exact hK _ _ ((KeepsOthers.alloc _ _).from _) ((Below.refl _ W).alloc hB.size _) ⟨⟨g0, ⟨cell_alloc_l _ g1, cell_alloc_l _ g2⟩, cell_alloc_l _ g3, frozen_alloc_l _ g3 g4⟩, hB.alloc hB.size _, by simp; omega⟩ ⟨W.heap.size, by omega, ⟨by simp [go_sem], by simp [go_sem]⟩, rfl⟩
  case body =>
    rintro l pre x a' W hl hr ⟨⟨g0, ⟨g1, g2⟩, g3, g4⟩, hB, hz⟩ ⟨Bx, hBx, ⟨b0, b1'⟩, rfl⟩ hlt
    have hx1 : x.1.f0.size ≤ maxLen := HF.out _ x.2
    have HBw := Lib.hid hB
    clear hB
    gi_wp2_with (gi_at_call 164; refine (CallsIn.inRound l (callsIn_wide.2 (rowValid_any _ _ hx1))).mono ?_; rintro e w2 ⟨rfl, hb2⟩; have g3' := (hb2.cell (p := ⟨w.heap.size + 1, 0, none⟩) (by show w.heap.size + 1 < W.heap.size; omega)).trans g3; have g4' := (hb2.frozen (p := ⟨w.heap.size + 1, 0, none⟩) (by show w.heap.size + 1 < W.heap.size; omega)).trans g4; have HE := Lib.hid hb2; clear hb2; cases hRow : rowOkB x.1)
    · exact ⟨((keeps_of_below HE.out).trans (KeepsOthers.setCell _ _ _)).from _, ⟨rfl, ⟨x, by simp, by rw [hRow]; decide⟩, World.cell?_setCell_same' _ _ _ (by rw [g3']; rfl)⟩, (HBw.out.trans (HE.out.mono HBw.out.size)).setCell (p := ⟨w.heap.size + 1, 0, none⟩) (by simp) _⟩
    · exact ⟨(keeps_of_below HE.out).from _, HE.out.mono HBw.out.size, ⟨fun y hy => (List.mem_append.1 hy).elim (g0 y) (fun e => by simp at e; subst e; exact hRow), ⟨(HE.out.cell (p := ⟨w.heap.size, 0, none⟩) (by show w.heap.size < W.heap.size; omega)).trans g1, (HE.out.cell (p := ⟨w.heap.size, 1, none⟩) (by show w.heap.size < W.heap.size; omega)).trans g2⟩, g3', g4'⟩, HBw.out.trans (HE.out.mono HBw.out.size), Nat.le_trans hz HE.out.size⟩
  case done =>
    rintro D ys W hD rfl ⟨⟨g0, ⟨g1, g2⟩, g3, g4⟩, hB, hz⟩ hK
    have hall : ∀ x ∈ vs, rowOkB x = true := fun x hx => g0 ⟨x, hx⟩ (List.mem_attach _ _)
    have HA := Lib.hid hall
    have HK := Lib.hid hK
    have HB := Lib.hid hB
    clear hall g0 hK hB
    gi_wp2_with (first
      | (gi_at_call 162; refine (callsIn_wide.2 (rows_is _ _ _ _ _)).mono ?_; rintro e w' ⟨rfl, rfl⟩)
      | (gi_at_call 165; refine (callsIn_wide.2 (rowAscends_any _ _ _ _ (HV.out.below (HB.out.alloc HB.out.size _)) HL.out)).mono ?_; rintro e w3 ⟨b, rfl, hb, hbel⟩; have HI := Lib.hid hb; have HE := Lib.hid hbel; clear hb hbel; have g3' := (HE.out.cell (p := ⟨w.heap.size + 1, 0, none⟩) (by simp; omega)).trans (cell_alloc_l _ g3); have g4' := (HE.out.frozen (p := ⟨w.heap.size + 1, 0, none⟩) (by simp; omega)).trans (frozen_alloc_l _ g3 g4)))
    have hK1 := (KeepsOthers.alloc W (.cells #[.int .i64 ep, .slice (some ⟨b1, o1, none⟩) vs.length cap] 90)).same D _ HK.out rfl
    have hK2 := (keeps_of_below HE.out).same D _ hK1 rfl
    have hK' := (KeepsOthers.setCell w3 ⟨w.heap.size + 1, 0, none⟩ (.bool b)).same D _ hK2 rfl
    refine ⟨by simp, .inl ⟨_, _, rfl, run_takeDeferred hK', ?_⟩⟩
    have hc5 := cell_kept (World.cell?_setCell_same' w3 ⟨w.heap.size + 1, 0, none⟩ (.bool b) (by rw [g3']; rfl)) (grownBy_putObj' _ D (.deferred none)) (fun r e => by cases e; exact ⟨_, hK', rfl⟩)
    have hB3 : Below w.heap.size w w3 := (HB.out.alloc HB.out.size _).trans (HE.out.mono (by have := HB.out.size; simp; omega))
    refine ⟨.bool b, ?_, b, rfl, ?_, (hB3.setCell (p := ⟨w.heap.size + 1, 0, none⟩) (by simp) _).trans (belowK_b (w := w) (Nat.le_refl _) _ D _ _ (by omega) hK' rfl rfl)⟩
    · simp [results, Try.f120, go_sem, hc5]
    · rw [HI.out, pmapOk_iff ep vs h0]
      exact ⟨fun h => ⟨⟨HA.out, h⟩, hE, by omega, hI⟩, fun h => h.1.2⟩
  case stop =>
    rintro D c pre W hD hpre ⟨⟨rfl, ⟨x, hx, hin⟩, hcr⟩, hB⟩ hK
    gi_wp2
    refine ⟨by simp, .inl ⟨_, _, rfl, run_takeDeferred hK, ?_⟩⟩
    have hc5 := cell_kept hcr (grownBy_putObj' _ D (.deferred none)) (fun r e => by cases e; exact ⟨_, hK, rfl⟩)
    refine ⟨.bool false, ?_, false, rfl, ?_, hB.trans (belowK_b (w := w) (Nat.le_refl _) W D _ _ (by omega) hK rfl rfl)⟩
    · simp [results, Try.f120, go_sem, hc5]
    · simp only [Bool.false_eq_true, false_iff]
      exact fun h => hin (((pmapOk_iff ep vs h0).1 h).1.1 x.1 x.2)

theorem pmapOk_any (ep : Int) (a : Option Addr) (vs : List RowD) (cap : Nat) (w : World) (hv : RowsIn w a vs) (hf : ∀ v ∈ vs, v.fits) (hlen : vs.length ≤ maxLen) :
    Calls Try.prog 120 #[.agg #[.int .i64 ep, .slice a vs.length cap]] w (PmOkPost ep vs w) := by
  by_cases he : vs.length = 0 ∨ 5 < vs.length ∨ (∃ h : 0 < vs.length, vs[0].f0.toList.isEmpty = false) ∨ inB ep 1 99 = false
  · refine (pmapOk_early ep a vs cap w hv hlen he).mono ?_
    rintro e w' ⟨rfl, hb⟩
    refine ⟨false, rfl, ?_, hb⟩
    simp only [Bool.false_eq_true, false_iff]
    intro h
    have h0 : 0 < vs.length := by have := h.2.1; simp [inB] at this; omega
    obtain ⟨_, q1, q2, q3⟩ := (pmapOk_iff ep vs h0).1 h
    rcases he with he | he | ⟨_, he⟩ | he
    · omega
    · omega
    · rw [q1] at he; cases he
    · rw [q3] at he; cases he
  · have h0 : 0 < vs.length := by
      rcases Nat.eq_zero_or_pos vs.length with h | h
      · exact absurd (.inl h) he
      · exact h
    exact callsIn_wide.1 (pmapOk_in 6 (by omega) ep a vs cap w hv hf hlen h0 (fun h => he (.inr (.inl h))) (by
      cases q : vs[0].f0.toList.isEmpty
      · exact absurd (.inr (.inr (.inl ⟨h0, q⟩))) he
      · rfl) (by
      cases q : inB ep 1 99
      · exact absurd (.inr (.inr (.inr q))) he
      · rfl))
end Go.Proofs.Ytjijichgoodocaa
