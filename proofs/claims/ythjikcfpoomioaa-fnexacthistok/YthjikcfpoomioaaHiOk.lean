/- When what was decided is ok, as the program tells it. -/
import Derived.Test.YthjikcfpoomioaaHiI
namespace Go.Proofs.Ythjikcfpoomioaa
open Go.RowKit Go.Shelf
attribute [local go_sem] Oper.semAt_some
attribute [local go_sem] wide_fn

theorem hist_placed {es : List EntD} {ps : List EntP} (h : ps.map (fun p => p.e) = es) (h60 : es.length ≤ 60) : HistOkP es ↔ (∀ p ∈ ps, EntOk p.e) ∧ PUp ps ps.length := by
  subst h
  constructor
  · rintro ⟨⟨h1, h2⟩, _⟩
    refine ⟨fun p hp => ?_, fun i hi hk j hj e => ?_⟩
    · obtain ⟨i, hi, rfl⟩ := List.getElem_of_mem hp
      have := h1 i (by simpa using hi) (by simpa using hi)
      simpa using this
    · have := h2 i (by simpa using hi) (by simpa using hi) j (by simpa using hj) e
      simpa using this
  · rintro ⟨h1, h2⟩
    refine ⟨⟨fun i hi hk => ?_, fun i hi hk j hj e => ?_⟩, h60⟩
    · have hi' : i < ps.length := by simpa using hi
      have := h1 _ (List.getElem_mem hi')
      simpa using this
    · have hi' : i < ps.length := by simpa using hi
      have := h2 i hi' hi' j (by simpa using hj) e
      simpa using this

set_option maxRecDepth 100000 in
set_option maxHeartbeats 2000000 in
theorem histOk_in (n : Nat) (hn : 6 ≤ n) (a : Option Addr) (es : List EntD) (ps : List EntP) (cap : Nat) (w : World) (hm : ps.map (fun p => p.e) = es) (hv : PlacedIn w a ps) (hf : ∀ p ∈ ps, p.e.fits) (hs : ∀ p ∈ ps, p.e.ws.length ≤ 1048576 ∧ p.e.us.length ≤ 1048576) (h60 : ¬ 60 < ps.length) :
    CallsIn Fence.wide n Try.prog 54 #[.slice a ps.length cap] w (BoolPost (HistOkP es) w) := by
  have h1 : 1 ≤ n := by omega
  have h2 : 1 ≤ n - 1 - 1 := by omega
  have hlen : ps.length ≤ maxLen := by unfold maxLen; omega
  have hel : es.length ≤ 60 := by rw [← hm, List.length_map]; omega
  have HV := Lib.hid hv
  have HF := Lib.hid hf
  have HS := Lib.hid hs
  have HL := Lib.hid hlen
  have HP := Lib.hid (hist_placed hm hel)
  clear hv hf hs hlen hm hel
  refine callsIn_of_wp_marks Try.func54 rfl trivial ?_ rfl
  simp only [Try.ntmps54, List.size_toArray, List.length_cons, List.length_nil, Nat.reduceAdd, Nat.reduceSub, Array.replicate_succ, Array.replicate_zero, List.push_toArray, List.append_toArray, List.nil_append, List.cons_append]
  gi_wp2_with (gi_at_call 114; refine (callsIn_wide.2 (entAll_any _ _ _ _)).mono ?_; rintro e w' ⟨rfl, rfl⟩)
  obtain ⟨W0, hW0⟩ : ∃ W0, (w.alloc (.cells #[.bool false] 4)).alloc (.cells #[.slice a ps.length cap] 159) = W0 := ⟨_, rfl⟩
  have hsz : W0.heap.size = w.heap.size + 2 := by rw [← hW0]; simp
  have hB0 : Below w.heap.size w W0 := by rw [← hW0]; exact ((Below.refl _ _).alloc (Nat.le_refl _) _).alloc (by simp) _
  have c2 : W0.cell? ⟨w.heap.size, 0, none⟩ = some (.bool false) := by rw [← hW0]; simp [go_sem]
  have f2 : W0.frozen? ⟨w.heap.size, 0, none⟩ = false := by rw [← hW0]; simp [go_sem]
  have c3 : W0.cell? ⟨w.heap.size + 1, 0, none⟩ = some (.slice a ps.length cap) := by rw [← hW0]; simp [go_sem]
  rw [hW0]
  clear hW0
  refine wpIn_rangeFunc_ownH rfl h1 (gf := 159) (lb := #[.pointer (some ⟨w.heap.size + 1, 0, none⟩)]) rfl trivial (enters_of Try.func159 (by kernel_rfl) rfl)
    (entAll_stops (n - 1) (by omega) (w.heap.size + 1) a ps cap w HV.out HL.out W0 (by omega) hB0 c3) belowK_t (belowK_b (by omega)) (Below.refl _ _) (fun _ => rfl)
    (fun pre W => ((∀ x ∈ pre, EntOk x.1.e) ∧ W.cell? ⟨w.heap.size, 0, none⟩ = some (.bool false) ∧ W.frozen? ⟨w.heap.size, 0, none⟩ = false) ∧ Below w.heap.size w W ∧ w.heap.size + 2 ≤ W.heap.size)
    (fun c pre W => (c = .ret ∧ (∃ x ∈ pre, ¬ EntOk x.1.e) ∧ W.cell? ⟨w.heap.size, 0, none⟩ = some (.bool false)) ∧ Below w.heap.size w W)
    (OwnFrom.and (Own.from (fun _ A B row hs hg hr => ⟨hs.1, cell_kept hs.2.1 hg hr, (frozen_kept hs.2.1 hg hr).trans hs.2.2⟩) _) (OwnFrom.and (ownFrom_below (Nat.le_refl _) (by omega)) (fun _ _ _ _ h hg _ => Nat.le_trans h hg.size)))
    (fun c => OwnFrom.and (Own.from (fun _ A B row hs hg hr => ⟨hs.1, hs.2.1, cell_kept hs.2.2 hg hr⟩) _) (ownFrom_below (Nat.le_refl _) (by omega)))
    ⟨⟨by simp, c2, f2⟩, hB0, by omega⟩
    (fun x a' W => ∃ Bx, w.heap.size + 2 ≤ Bx ∧ (W.cell? ⟨Bx, 0, none⟩ = some (.int .i64 x.1.e.id) ∧ W.cell? ⟨Bx, 1, none⟩ = some (.int .i64 x.1.e.tid) ∧ W.cell? ⟨Bx, 2, none⟩ = some (.slice x.1.a1 x.1.e.ws.length x.1.k1) ∧ W.cell? ⟨Bx, 3, none⟩ = some (.slice x.1.a2 x.1.e.us.length x.1.k2)) ∧
      a' = { tmps := #[.slice a ps.length cap, undef, .pointer (some ⟨w.heap.size, 0, none⟩), .slice a ps.length cap, undef, .pointer (some ⟨Bx, 0, none⟩), .slice a ps.length cap, .int .i64 (ps.length : Int), .bool (decide (60 < (ps.length : Int))), .slice a ps.length cap, .slice a ps.length cap, .func (.func 159) #[] #[.pointer (some ⟨w.heap.size + 1, 0, none⟩)], .int .i64 x.1.e.id, .agg #[.int .i64 x.1.e.id, .int .i64 x.1.e.tid, .slice x.1.a1 x.1.e.ws.length x.1.k1, .slice x.1.a2 x.1.e.us.length x.1.k2], undef, undef, undef, undef, undef], defers := [] })
    (fun x a' => Own.from (fun _ A B row hs hg hr => by obtain ⟨Bx, q1, ⟨q2, q3, q4, q5⟩, q6⟩ := hs; exact ⟨Bx, q1, ⟨cell_kept q2 hg hr, cell_kept q3 hg hr, cell_kept q4 hg hr, cell_kept q5 hg hr⟩, q6⟩) _)
    ?assign ?body ?done ?stop
  case assign =>
    rintro l pre x W K ⟨⟨g0, g3, g4⟩, hB, hz⟩ hK
    simp only [entArgs]
    gi_wp2
    exact hK _ _ ((KeepsOthers.alloc _ _).from _) ((Below.refl _ W).alloc hB.size _) ⟨⟨g0, cell_alloc_l _ g3, frozen_alloc_l _ g3 g4⟩, hB.alloc hB.size _, by simp; omega⟩ ⟨W.heap.size, by omega, ⟨by simp [go_sem], by simp [go_sem], by simp [go_sem], by simp [go_sem]⟩, rfl⟩
  case body =>
    rintro l pre x a' W hl hr ⟨⟨g0, g3, g4⟩, hB, hz⟩ ⟨Bx, hBx, ⟨b0, b1, b2, b3⟩, rfl⟩ hlt
    obtain ⟨hx1, hx2⟩ := HV.out.mem x.2
    obtain ⟨hs1, hs2⟩ := HS.out _ x.2
    have HX1 := Lib.hid (hx1.below hB)
    have HX2 := Lib.hid (hx2.below hB)
    have HXF := Lib.hid (HF.out _ x.2)
    have HBw := Lib.hid hB
    clear hx1 hx2 hB
    gi_wp2_with (gi_at_call 115; refine (CallsIn.inRound l (callsIn_wide.2 (entValid_any x.1 _ HX1.out HX2.out HXF.out hs1 hs2))).mono ?_; rintro e w2 ⟨b, rfl, hb, hb2⟩; have g3' := (hb2.cell (p := ⟨w.heap.size, 0, none⟩) (by show w.heap.size < W.heap.size; omega)).trans g3; have g4' := (hb2.frozen (p := ⟨w.heap.size, 0, none⟩) (by show w.heap.size < W.heap.size; omega)).trans g4; have HI := Lib.hid hb; have HE := Lib.hid hb2; clear hb hb2; cases b)
    · exact ⟨((keeps_of_below HE.out).trans (KeepsOthers.setCell _ _ _)).from _, ⟨rfl, ⟨x, by simp, fun h => absurd (HI.out.2 h) (by decide)⟩, World.cell?_setCell_same' _ _ _ (by rw [g3']; rfl)⟩, (HBw.out.trans (HE.out.mono HBw.out.size)).setCell (p := ⟨w.heap.size, 0, none⟩) (by simp) _⟩
    · exact ⟨(keeps_of_below HE.out).from _, HE.out.mono HBw.out.size, ⟨fun y hy => (List.mem_append.1 hy).elim (g0 y) (fun e => by simp at e; subst e; exact HI.out.1 (by simp)), g3', g4'⟩, HBw.out.trans (HE.out.mono HBw.out.size), Nat.le_trans hz HE.out.size⟩
  case done =>
    rintro D ys W hD rfl ⟨⟨g0, g3, g4⟩, hB, hz⟩ hK
    have hall : ∀ x ∈ ps, EntOk x.e := fun x hx => g0 ⟨x, hx⟩ (List.mem_attach _ _)
    have HA := Lib.hid hall
    have HK := Lib.hid hK
    have HB := Lib.hid hB
    clear hall g0 hK hB
    gi_wp2_with (gi_at_call 116; refine (callsIn_wide.2 (entAscends_any _ _ _ _ (HV.out.below HB.out) HL.out)).mono ?_; rintro e w3 ⟨b, rfl, hb, hbel⟩; have HI := Lib.hid hb; have HE := Lib.hid hbel; clear hb hbel; have g3' := (HE.out.cell (p := ⟨w.heap.size, 0, none⟩) (by show w.heap.size < W.heap.size; omega)).trans g3; have g4' := (HE.out.frozen (p := ⟨w.heap.size, 0, none⟩) (by show w.heap.size < W.heap.size; omega)).trans g4)
    have hK2 := (keeps_of_below HE.out).same D _ HK.out rfl
    have hK' := (KeepsOthers.setCell w3 ⟨w.heap.size, 0, none⟩ (.bool b)).same D _ hK2 rfl
    refine ⟨by simp, .inl ⟨_, _, rfl, run_takeDeferred hK', ?_⟩⟩
    have hc5 := cell_kept (World.cell?_setCell_same' w3 ⟨w.heap.size, 0, none⟩ (.bool b) (by rw [g3']; rfl)) (grownBy_putObj' _ D (.deferred none)) (fun r e => by cases e; exact ⟨_, hK', rfl⟩)
    have hB3 : Below w.heap.size w w3 := HB.out.trans (HE.out.mono HB.out.size)
    refine ⟨.bool b, ?_, b, rfl, ?_, (hB3.setCell (p := ⟨w.heap.size, 0, none⟩) (by simp) _).trans (belowK_b (w := w) (Nat.le_refl _) _ D _ _ (by omega) hK' rfl rfl)⟩
    · simp [results, Try.f54, go_sem, hc5]
    · rw [HI.out, HP.out]
      exact ⟨fun h => ⟨HA.out, h⟩, fun h => h.2⟩
  case stop =>
    rintro D c pre W hD hpre ⟨⟨rfl, ⟨x, hx, hin⟩, hcr⟩, hB⟩ hK
    gi_wp2
    refine ⟨by simp, .inl ⟨_, _, rfl, run_takeDeferred hK, ?_⟩⟩
    have hc5 := cell_kept hcr (grownBy_putObj' _ D (.deferred none)) (fun r e => by cases e; exact ⟨_, hK, rfl⟩)
    refine ⟨.bool false, ?_, false, rfl, ?_, hB.trans (belowK_b (w := w) (Nat.le_refl _) W D _ _ (by omega) hK rfl rfl)⟩
    · simp [results, Try.f54, go_sem, hc5]
    · simp only [Bool.false_eq_true, false_iff]
      exact fun h => hin ((HP.out.1 h).1 x.1 x.2)

set_option maxRecDepth 100000 in
set_option maxHeartbeats 1000000 in
theorem histOk_any (a : Option Addr) (es : List EntD) (cap : Nat) (w : World) (hv : EntriesIn w a es) (hf : ∀ e ∈ es, e.fits) (hs : ∀ e ∈ es, e.ws.length ≤ 1048576 ∧ e.us.length ≤ 1048576) (hn : es.length ≤ maxLen) :
    Calls Try.prog 54 #[.slice a es.length cap] w (BoolPost (HistOkP es) w) := by
  by_cases h60 : 60 < es.length
  · unfold maxLen at hn
    clear hv hf hs
    go_enter Try.func54, Try.ntmps54
    go_wp2_with fail
    exact bodyPost_ret (v := .bool false) (by simp [results, Try.results54, go_sem]) rfl (BoolPost.no (fun h => absurd h.2 (by omega)) ((Below.refl _ _).alloc (Nat.le_refl _) _))
  · obtain ⟨ps, hm, hp⟩ := hv.placed
    have hl : ps.length = es.length := by rw [← hm, List.length_map]
    have := histOk_in 6 (by omega) a es ps cap w hm hp (fun p hpm => hf _ (by rw [← hm]; exact List.mem_map_of_mem hpm)) (fun p hpm => hs _ (by rw [← hm]; exact List.mem_map_of_mem hpm)) (by omega)
    rw [hl] at this
    exact callsIn_wide.1 this
end Go.Proofs.Ythjikcfpoomioaa
