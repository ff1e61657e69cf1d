/- The keys of a span, as the program gathers them: the loop over the iterator. -/
import Derived.Test.YtjijichgoodocaaWithin
import Derived.RangeFuncBox
namespace Go.Proofs.Ytjijichgoodocaa
open Go.RowKit Go.Shelf
attribute [local go_sem] Oper.semAt_some
attribute [local go_sem] wide_fn

theorem keepsOthers_putBelow {W W' : World} (h : Below W.heap.size W W') : KeepsOthers W W' := ⟨h.size, fun k _ hk _ => (h.block k (Array.getElem?_eq_some_iff.1 hk).1).trans hk⟩
theorem grown_of_belowW {W W' : World} (h : Below W.heap.size W W') : W.grownBy W' none := ⟨h.os, h.tape, h.output, h.size, fun k hk _ => h.block k hk⟩
theorem block_of_cell {w : World} {b o : Nat} {v : Value} (h : w.cell? ⟨b, o, none⟩ = some v) : b < w.heap.size := World.block_lt_of_cell? w _ h
def kvIn (lo hi : ByteArray) (os : List ObjD) : List Kv := (os.map ObjD.kv).filter fun p => hasB lo hi p.1
theorem kvIn_yes {lo hi : ByteArray} {pre : List ObjD} {o : ObjD} (h : hasB lo hi o.key = true) : kvIn lo hi (pre ++ [o]) = kvIn lo hi pre ++ [o.kv] := by
  simp [kvIn, ObjD.kv, h]
theorem kvIn_no {lo hi : ByteArray} {pre : List ObjD} {o : ObjD} (h : hasB lo hi o.key = false) : kvIn lo hi (pre ++ [o]) = kvIn lo hi pre := by
  simp [kvIn, ObjD.kv, h]

theorem gv_append {bo base : Nat} {wC : World} {cs : List ObjD} {v : Value} (hG : Gv bo base wC cs v) (key : ByteArray) (p : Option Addr) (m c : Nat) (hcl : cs.length ≤ 1048576) (hbase : base ≤ wC.heap.size) :
    ∃ gg cq wD, (Builtin.append_ #[23, 23] 23 #[v, .slice (some ⟨wC.heap.size, 0, none⟩) 1 1]).run Try.prog (wC.alloc (.cells #[.string key, .slice p m c] 45)) = .ok (.slice (some ⟨gg, 0, none⟩) (cs.length + 1) cq) wD ∧ wD.ownsRow base 45 2 (.slice (some ⟨gg, 0, none⟩) (cs.length + 1) cq) (cs.length + 1) (cs.flatMap objCells ++ [.string key, .slice p m c]) ∧ (wC.alloc (.cells #[.string key, .slice p m c] 45)).grownBy wD v.ownBlock ∧ Boxed wD bo 25 v := by
  obtain ⟨i0, hi0, hz0, hz1, hz2⟩ := info_parts infoObj
  obtain ⟨v', wD, hrun, hown, hgrow, hnil, _⟩ := run_append_own_at (P := Try.prog) (w := wC.alloc (.cells #[.string key, .slice p m c] 45)) base 23 23 45 i0 (.agg #[.string ⟨#[]⟩, .slice none 0 0]) 2 40 Try.underlying23 hi0 hz0 hz1 hz2 rfl (by omega) v cs.length (cs.flatMap objCells) (hG.own.alloc _) ⟨wC.heap.size, 0, none⟩ 1 1 [.string key, .slice p m c] rfl (World.news_of_block (heap_alloc_new wC _)) (fun u hu => by simp at hu; rcases hu with rfl | rfl <;> rfl) (by unfold maxLen; omega) (by omega) (by simp; omega)
  obtain ⟨gg, cq, rfl⟩ := ownsRow_succ hown
  exact ⟨gg, cq, wD, hrun, hown, hgrow, (hG.box.alloc (.cells #[.string key, .slice p m c] 45)).kept hgrow hG.ne⟩

set_option maxRecDepth 100000 in
set_option maxHeartbeats 8000000 in
theorem within_in (n : Nat) (hn : 6 ≤ n) (a : Option Addr) (os : List ObjD) (cap : Nat) (lo hi : ByteArray) (w : World) (hv : ObjsIn w a os) (hp : ∀ o ∈ os, o.plain) (hlen : os.length ≤ 1048576) (hl : ∀ o ∈ os, o.vers.length ≤ 1048576) :
    CallsIn Fence.wide n Try.prog 93 #[.agg #[.slice a os.length cap], .agg #[.string lo, .string hi]] w (VmOut (kvIn lo hi os) w) := by
  have h1 : 1 ≤ n := by omega
  have h2 : 1 ≤ n - 1 - 1 := by omega
  have hlen2 : os.length ≤ maxLen := by unfold maxLen; omega
  have HV := Lib.hid hv
  have HP := Lib.hid hp
  have HL := Lib.hid hl
  clear hv hp hl
  obtain ⟨i0, hi0, hz0, hz1, hz2⟩ := info_parts infoObj
  refine callsIn_of_wp_marks Try.func93 rfl trivial ?_ rfl
  simp only [Try.ntmps93, List.size_toArray, List.length_cons, List.length_nil, Nat.reduceAdd, Nat.reduceSub, Array.replicate_succ, Array.replicate_zero, List.push_toArray, List.append_toArray, List.nil_append, List.cons_append]
  gi_wp2_with (first
    | (gi_at_call 85; refine (callsIn_wide.2 (objs_is _ _ _ _)).mono ?_; rintro e w' ⟨rfl, rfl⟩)
    | (gi_at_call 86; refine (callsIn_wide.2 (objAll_any _ _ _ _)).mono ?_; rintro e w' ⟨rfl, rfl⟩))
  obtain ⟨W0, hW0⟩ : ∃ W0, (((((w.alloc (.cells #[.slice a os.length cap] 25)).alloc (.cells #[.string lo, .string hi] 47)).alloc (.cells #[.slice none 0 0] 25)).alloc (.cells #[.slice none 0 0] 25)).alloc (.cells #[.slice a os.length cap] 25)).alloc (.cells #[.slice a os.length cap] 127) = W0 := ⟨_, rfl⟩
  have hsz : W0.heap.size = w.heap.size + 6 := by rw [← hW0]; simp
  have hB0 : Below w.heap.size w W0 := by rw [← hW0]; exact ((((((Below.refl _ _).alloc (Nat.le_refl _) _).alloc (by simp) _).alloc (by simp; omega) _).alloc (by simp; omega) _).alloc (by simp; omega) _).alloc (by simp; omega) _
  have c0 : W0.cell? ⟨w.heap.size, 0, none⟩ = some (.slice a os.length cap) := by rw [← hW0]; simp [go_sem]
  have s0 : W0.cell? ⟨w.heap.size + 1, 0, none⟩ = some (.string lo) := by rw [← hW0]; simp [go_sem]
  have s1 : W0.cell? ⟨w.heap.size + 1, 1, none⟩ = some (.string hi) := by rw [← hW0]; simp [go_sem]
  have rB : Boxed W0 (w.heap.size + 1 + 1) 25 (.slice none 0 0) := by
    have := (((Boxed.new ((w.alloc (.cells #[.slice a os.length cap] 25)).alloc (.cells #[.string lo, .string hi] 47)) 25 (.slice none 0 0)).alloc (.cells #[.slice none 0 0] 25)).alloc (.cells #[.slice a os.length cap] 25)).alloc (.cells #[.slice a os.length cap] 127)
    rw [hW0] at this
    simpa using this
  have oB : Boxed W0 (w.heap.size + 1 + 1 + 1) 25 (.slice none 0 0) := by
    have := ((Boxed.new (((w.alloc (.cells #[.slice a os.length cap] 25)).alloc (.cells #[.string lo, .string hi] 47)).alloc (.cells #[.slice none 0 0] 25)) 25 (.slice none 0 0)).alloc (.cells #[.slice a os.length cap] 25)).alloc (.cells #[.slice a os.length cap] 127)
    rw [hW0] at this
    simpa using this
  have c5 : W0.cell? ⟨w.heap.size + 1 + 1 + 1 + 1 + 1, 0, none⟩ = some (.slice a os.length cap) := by rw [← hW0]; simp [go_sem]
  rw [hW0]
  clear hW0
  have G0 : Gv (w.heap.size + 1 + 1 + 1) (w.heap.size + 4) W0 [] (.slice none 0 0) := Gv.start oB
  refine wpIn_rangeFunc_ownH rfl h1 (gf := 140) (lb := #[.pointer (some ⟨w.heap.size + 1 + 1 + 1 + 1 + 1, 0, none⟩)]) rfl trivial (enters_of Try.func140 (by kernel_rfl) rfl)
    (objAll_stops (n - 1) (by omega) (w.heap.size + 1 + 1 + 1 + 1 + 1) a os cap w HV.out hlen2 W0 (by omega) hB0 c5) belowK_t (belowK_b (by omega)) (Below.refl _ _) (fun _ => rfl)
    (fun pre W => (((W.cell? ⟨w.heap.size, 0, none⟩ = some (.slice a os.length cap) ∧ W.cell? ⟨w.heap.size + 1, 0, none⟩ = some (.string lo) ∧ W.cell? ⟨w.heap.size + 1, 1, none⟩ = some (.string hi)) ∧ Boxed W (w.heap.size + 1 + 1) 25 (.slice none 0 0)) ∧ ∃ cs v, Gv (w.heap.size + 1 + 1 + 1) (w.heap.size + 4) W cs v ∧ cs.map ObjD.kv = kvIn lo hi (pre.map (·.1))) ∧ Below w.heap.size w W ∧ w.heap.size + 6 ≤ W.heap.size)
    (fun _ _ _ => False)
    (OwnFrom.and (Own.from (fun _ A B row hs hg hr => by
      obtain ⟨⟨⟨q0, q1, q2⟩, q3⟩, cs, v, q4, q5⟩ := hs
      refine ⟨⟨⟨cell_kept q0 hg hr, cell_kept q1 hg hr, cell_kept q2 hg hr⟩, q3.kept hg (fun e' => ?_)⟩, cs, v, q4.kept hg hr, q5⟩
      obtain ⟨o, ho, hc⟩ := hr _ e'.symm
      rw [show A.heap[_]? = _ from q3] at ho; cases ho; cases hc) _) (OwnFrom.and (ownFrom_below (Nat.le_refl _) (by omega)) (fun _ _ _ _ h hg _ => Nat.le_trans h hg.size)))
    (fun _ _ _ _ _ hs _ _ => hs)
    ⟨⟨⟨⟨c0, s0, s1⟩, rB⟩, [], _, G0, by simp [kvIn]⟩, hB0, by omega⟩
    (fun x a' W => ∃ Bx, w.heap.size + 6 ≤ Bx ∧ (W.cell? ⟨Bx, 0, none⟩ = some (.string x.1.key) ∧ W.cell? ⟨Bx, 1, none⟩ = some (.slice x.1.at_ x.1.vers.length x.1.cap)) ∧
      a' = { tmps := #[.agg #[.slice a os.length cap], .agg #[.string lo, .string hi], .pointer (some ⟨w.heap.size, 0, none⟩), .pointer (some ⟨w.heap.size + 1, 0, none⟩), .pointer (some ⟨w.heap.size + 1 + 1, 0, none⟩), .pointer (some ⟨w.heap.size + 1 + 1 + 1, 0, none⟩), .string x.1.key, .pointer (some ⟨Bx, 0, none⟩), .agg #[.slice a os.length cap], .slice a os.length cap, .func (.func 140) #[] #[.pointer (some ⟨w.heap.size + 1 + 1 + 1 + 1 + 1, 0, none⟩)], .string x.1.key, .agg #[.string x.1.key, .slice x.1.at_ x.1.vers.length x.1.cap], undef, undef, undef, undef, undef, undef, undef, undef, undef, undef, undef], defers := [] })
    (fun x a' => Own.from (fun _ A B row hs hg hr => by obtain ⟨Bx, q1, ⟨q2, q3⟩, q5⟩ := hs; exact ⟨Bx, q1, ⟨cell_kept q2 hg hr, cell_kept q3 hg hr⟩, q5⟩) _)
    ?assign ?body ?done ?stop
  case assign =>
    rintro l pre x W K ⟨⟨⟨⟨g0, g1, g2⟩, gB⟩, cs, v, hG, hkv⟩, hB, hz⟩ hK
    simp only [objArgs]
    gi_wp2
    exact hK _ _ ((KeepsOthers.alloc _ _).from _) ((Below.refl _ W).alloc hB.size _) ⟨⟨⟨⟨cell_alloc_l _ g0, cell_alloc_l _ g1, cell_alloc_l _ g2⟩, gB.alloc _⟩, cs, v, hG.below ((Below.refl _ _).alloc (Nat.le_refl _) _), hkv⟩, hB.alloc hB.size _, by simp; omega⟩ ⟨W.heap.size, by omega, ⟨by simp [go_sem], by simp [go_sem]⟩, rfl⟩
  case body =>
    rintro l pre x a' W hl hr ⟨⟨⟨⟨g0, g1, g2⟩, gB⟩, cs, v, hG, hkv⟩, hB, hz⟩ ⟨Bx, hBx, ⟨b0, b1⟩, rfl⟩ hlt
    have hx := HP.out _ x.2
    have hxl := HL.out _ x.2
    have hxv : VersIn w x.1.at_ x.1.vers := HV.out.mem x.2
    have HX := Lib.hid (hxv.below hB)
    have HPx := Lib.hid hx
    have HB := Lib.hid hB
    have HG := Lib.hid hG
    have HK := Lib.hid hkv
    have hcl : cs.length ≤ 1048576 := by
      have e1 := congrArg List.length hkv
      have e2 := List.length_filter_le (fun p : Kv => hasB lo hi p.1) ((pre.map (·.1)).map ObjD.kv)
      simp [kvIn] at e1 e2
      omega
    have lbx : Bx < W.heap.size := block_of_cell b0
    clear hx hxv hB hG hkv
    gi_wp2_with (gi_at_call 98; refine (CallsIn.inRound l (callsIn_wide.2 (has_any lo hi x.1.key _))).mono ?_; rintro e w1 ⟨rfl, hb1⟩; have hbxx := (HG.out.below hb1).box; have hx1 := hbxx.cell; have e0 := (hb1.cell (p := ⟨Bx, 0, none⟩) lbx).trans b0; have e1 := (hb1.cell (p := ⟨Bx, 1, none⟩) lbx).trans b1; have HE := Lib.hid hb1; have lbx1 : Bx < w1.heap.size := Nat.lt_of_lt_of_le lbx hb1.size; clear hb1; cases hH : hasB lo hi x.1.key)
    · exact ⟨(keepsOthers_putBelow HE.out).from _, HE.out.mono HB.out.size, ⟨⟨⟨(HE.out.cell (p := ⟨w.heap.size, 0, none⟩) (by show w.heap.size < W.heap.size; omega)).trans g0, (HE.out.cell (p := ⟨w.heap.size + 1, 0, none⟩) (by show w.heap.size + 1 < W.heap.size; omega)).trans g1, (HE.out.cell (p := ⟨w.heap.size + 1, 1, none⟩) (by show w.heap.size + 1 < W.heap.size; omega)).trans g2⟩, gB.kept (grown_of_belowW HE.out) (by simp)⟩, cs, v, HG.out.below HE.out, by rw [HK.out, List.map_append, List.map_cons, List.map_nil, kvIn_no hH]⟩, HB.out.trans (HE.out.mono HB.out.size), Nat.le_trans hz HE.out.size⟩
    · gi_region_with (gi_at_call 103; refine (CallsIn.inRound l (callsIn_wide.2 (from0_any x.1 _ ((HX.out.below HE.out).below ((Below.refl _ _).drew)) HPx.out hxl))).mono ?_; rintro e wC ⟨p, c, rfl, p1, p2, p3, p4, p5, hbC⟩; have hGC := (HG.out.below HE.out).below (((Below.refl _ _).drew).trans hbC); obtain ⟨gg, cq, wD, hrun, hown, hgrow, hbyD⟩ := gv_append hGC x.1.key p x.1.vers.length c hcl (by have := hGC.box.lt; omega); have hr2 := hrun; (simp [go_sem] at hr2); have hbyC := hGC.box; have hxC := hbyC.cell; have hxT := (hbyC.alloc (.cells #[.string x.1.key, .slice p x.1.vers.length c] 45)).cell; have hxD := hbyD.cell; have hfD := hbyD.frozen; have X := Lib.hid (And.intro hown hgrow); have Y := Lib.hid (And.intro p1 (And.intro p2 (And.intro p3 (And.intro p4 p5)))); have HC := Lib.hid hbC; clear hown hgrow p1 p2 p3 p4 p5 hbC)
      all_goals
        clear hr2 hrun
        obtain ⟨hown, hgrow⟩ := X.out
        obtain ⟨p1, p2, p3, p4, p5⟩ := Y.out
        have hG1 := HG.out.below HE.out
        have hz1 : w.heap.size + 6 ≤ w1.heap.size := Nat.le_trans hz HE.out.size
        have hb1C : Below w1.heap.size w1 wC := ((Below.refl _ _).drew).trans HC.out
        have hzC : w1.heap.size ≤ wC.heap.size := hb1C.size
        obtain ⟨-, hG2⟩ := Gv.push (o := ⟨x.1.key, p, c, x.1.vers⟩) hG1 hb1C (by omega) p1 p2 p3 p4 p5 hown hgrow
        obtain ⟨-, -, -, hk2, hbl⟩ := hbyC.appended (n₀ := w.heap.size + 3) (by decide) (Joins.ownsRow_le hGC.own (by omega)) (by omega) (by omega) (Joins.ownsRow_le hown (by omega)) hgrow
        have T3 := ((HE.out.trans (hb1C.mono HE.out.size)).mono (show w.heap.size + 3 ≤ W.heap.size by omega)).trans hbl
        exact ⟨(((keepsOthers_putBelow HE.out).trans (keepsOthers_putBelow hb1C)).trans hk2).from _, T3.mono (by omega), ⟨⟨⟨(T3.cell (p := ⟨w.heap.size, 0, none⟩) (by show w.heap.size < w.heap.size + 3; omega)).trans g0, (T3.cell (p := ⟨w.heap.size + 1, 0, none⟩) (by show w.heap.size + 1 < w.heap.size + 3; omega)).trans g1, (T3.cell (p := ⟨w.heap.size + 1, 1, none⟩) (by show w.heap.size + 1 < w.heap.size + 3; omega)).trans g2⟩, (T3.block (w.heap.size + 1 + 1) (by omega)).trans gB⟩, _, _, hG2, by simp only [List.map_append, List.map_cons, List.map_nil]; rw [HK.out, kvIn_yes hH]; rfl⟩, HB.out.trans (T3.mono (by omega)), Nat.le_trans hz T3.size⟩
  case done =>
    rintro D ys W hD rfl ⟨⟨⟨⟨g0, g1, g2⟩, gB⟩, cs, v, hG, hkv⟩, hB, hz⟩ hK
    obtain ⟨va, vc, rfl, hA⟩ := hG.out (lo := w.heap.size) (by omega)
    have hxb := hG.box.cell
    have hrc := gB.cell
    have hrf := gB.frozen
    have HG := Lib.hid hG
    have HK := Lib.hid hK
    have HB := Lib.hid hB
    have HKV := Lib.hid hkv
    clear hG hK hB hA hkv
    gi_wp2
    have hK' := (KeepsOthers.setCell W ⟨w.heap.size + 1 + 1, 0, none⟩ (.slice va cs.length vc)).same D _ HK.out rfl
    refine ⟨by simp, .inl ⟨_, _, rfl, run_takeDeferred hK', ?_⟩⟩
    have hc5 := cell_kept (World.cell?_setCell_same' W ⟨w.heap.size + 1 + 1, 0, none⟩ (.slice va cs.length vc) (by rw [hrc]; rfl)) (grownBy_putObj' _ D (.deferred none)) (fun r e => by cases e; exact ⟨_, hK', rfl⟩)
    have hG2 := (HG.out.setOther gB (by omega) (.slice va cs.length vc)).kept (grownBy_putObj' _ D (.deferred none)) (fun r e => by cases e; exact ⟨_, hK', rfl⟩)
    obtain ⟨va', vc', e2, hA2⟩ := hG2.out (lo := w.heap.size) (by omega)
    injection e2 with e21 e22 e23
    subst e21 e23
    refine ⟨.agg #[.slice va cs.length vc], ?_, va, cs, vc, ?_, rfl, hA2, (HB.out.setCell (p := ⟨w.heap.size + 1 + 1, 0, none⟩) (by simp <;> omega) _).trans (belowK_b (w := w) (Nat.le_refl _) _ D _ _ (by omega) hK' rfl rfl)⟩
    · simp [results, Try.f93, go_sem, hc5]
    · rw [HKV.out]; simp
  case stop =>
    rintro D c pre W _ _ h _
    exact h.elim

theorem within_any (a : Option Addr) (os : List ObjD) (cap : Nat) (lo hi : ByteArray) (w : World) (hv : ObjsIn w a os) (hp : ∀ o ∈ os, o.plain) (hn : os.length ≤ 1048576) (hl : ∀ o ∈ os, o.vers.length ≤ 1048576) :
    Calls Try.prog 93 #[.agg #[.slice a os.length cap], .agg #[.string lo, .string hi]] w (VmOut ((os.map ObjD.kv).filter fun p => hasB lo hi p.1) w) :=
  callsIn_wide.1 (within_in 6 (by omega) a os cap lo hi w hv hp hn hl)
end Go.Proofs.Ytjijichgoodocaa
