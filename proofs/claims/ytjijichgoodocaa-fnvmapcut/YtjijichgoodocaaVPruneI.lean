/- Maps without old versions, the program's function. -/
import Derived.Test.YtjijichgoodocaaWithin2
import Derived.Test.YtjijichgoodocaaVPr
namespace Go.Proofs.Ytjijichgoodocaa
open Go.RowKit Go.Shelf
attribute [local go_sem] Oper.semAt_some
attribute [local go_sem] wide_fn

theorem unread_of_cut {vs : List VerD} {id : Int} {r : Nat} (hu : VersUp vs vs.length) (hc : Cut (verP vs id) vs.length r) : unreadN id vs = (match lastAt vs r with | none => 0 | some v => if v.gone then r else r - 1) := by
  unfold unreadN
  rw [← cut_up hu hc, ← cut_upN hu hc]
  cases lastAt vs r <;> rfl

set_option maxHeartbeats 1000000 in
theorem unread_any (s : ByteArray) (a : Option Addr) (vs : List VerD) (cap : Nat) (id : Int) (w : World) (hv : VersIn w a vs) (hu : VersUp vs vs.length) (hn : vs.length ≤ 1048576) :
    Calls Try.prog 102 #[.agg #[.string s, .slice a vs.length cap], .int .i64 id] w (fun e w' => e = .returned (.int .i64 (unreadN id vs : Int)) ∧ Below w.heap.size w w') := by
  have HV := Lib.hid hv
  have HU := Lib.hid hu
  clear hv hu
  go_enter Try.func102, Try.ntmps102
  go_wp2_with fail
  have hb0 : Below w.heap.size w (w.alloc (.cells #[.string s, .slice a vs.length cap] 45)) := (Below.refl _ _).alloc (Nat.le_refl _) _
  refine (vers_is _ _ _ _ _).mono ?_
  rintro e w1 ⟨rfl, rfl⟩
  go_wp2_with fail
  refine (verUpTo_any a vs cap id _ (HV.out.below (hb0.alloc (by simp) _)) hn).mono ?_
  rintro e w2 ⟨r, rfl, hr, hb2⟩
  have c1 := hb2.cell (p := ⟨w.heap.size, 1, none⟩) (by simp; omega)
  simp [go_sem] at c1
  have HR := Lib.hid hr
  have B2 := Lib.hid ((hb0.alloc (by simp) (.cells #[.string s, .slice a vs.length cap] 45)).trans (hb2.mono (by simp; omega)))
  have hre := unread_of_cut HU.out hr
  clear hb0 hb2
  cases r with
  | zero =>
    clear hr
    rw [lastAt_zero] at hre
    have HE := Lib.hid hre
    clear hre
    go_wp2_with fail
    go_ret
    exact ⟨by rw [HE.out]; rfl, B2.out⟩
  | succ q =>
    have hq : q < vs.length := by have := hr.1; omega
    clear hr
    rw [lastAt_succ vs q hq] at hre
    have HE := Lib.hid hre
    clear hre
    rcases HV.out.below B2.out with hnil | ⟨b, off, rfl, hb, hc⟩
    · rw [hnil] at hq; simp at hq
    obtain ⟨d0, d1, d2⟩ := hc q hq
    clear hc d0 d1
    have hwq : IntKind.i64.wrap (q : Int) = (q : Int) := by rw [IntKind.wrap_i64]; omega
    have h9 : (0 : Int) ≤ (q : Int) := by omega
    have h8 : (q : Int) < (vs.length : Int) := by omega
    cases hg : vs[q].gone
    all_goals
      rw [hg] at d2
      go_wp2_with fail
      go_ret
      exact ⟨by rw [HE.out]; simp [hg], B2.out⟩
set_option maxRecDepth 100000 in
set_option maxHeartbeats 8000000 in
theorem vmapPrune_in (n : Nat) (hn : 6 ≤ n) (a : Option Addr) (os : List ObjD) (cap : Nat) (id : Int) (w : World) (hv : ObjsIn w a os) (hf : ∀ o ∈ os, o.fits) (hp : ∀ o ∈ os, o.plain) (hlen : os.length ≤ 1048576) (hl : ∀ o ∈ os, o.vers.length ≤ 1048576) (hok : MapOkTo os os.length) :
    CallsIn Fence.wide n Try.prog 38 #[.agg #[.slice a os.length cap], .int .i64 id] w (VmOut (pruneIn id os) w) := by
  have h1 : 1 ≤ n := by omega
  have h2 : 1 ≤ n - 1 - 1 := by omega
  have hlen2 : os.length ≤ maxLen := by unfold maxLen; omega
  have HV := Lib.hid hv
  have HF := Lib.hid hf
  have HP := Lib.hid hp
  have HL := Lib.hid hl
  have HOK := Lib.hid hok
  clear hv hf hp hl hok
  obtain ⟨i0, hi0, hz0, hz1, hz2⟩ := info_parts infoObj
  obtain ⟨W1, hW1⟩ : ∃ W1, ((w.alloc (.cells #[.slice a os.length cap] 25)).alloc (.cells #[.int .i64 id] 3)).alloc (.cells #[.slice none 0 0] 25) = W1 := ⟨_, rfl⟩
  have B1 : Below w.heap.size w W1 := by rw [← hW1]; exact (((Below.refl _ _).alloc (Nat.le_refl _) _).alloc (by simp) _).alloc (by simp <;> omega) _
  have z0 : w.heap.size + 3 ≤ W1.heap.size := by rw [← hW1]; simp
  have c0 : W1.cell? ⟨w.heap.size, 0, none⟩ = some (.slice a os.length cap) := by rw [← hW1]; simp [go_sem]
  have s0 : W1.cell? ⟨w.heap.size + 1, 0, none⟩ = some (.int .i64 id) := by rw [← hW1]; simp [go_sem]
  have rB : Boxed W1 (w.heap.size + 1 + 1) 25 (.slice none 0 0) := by
    have := Boxed.new ((w.alloc (.cells #[.slice a os.length cap] 25)).alloc (.cells #[.int .i64 id] 3)) 25 (.slice none 0 0)
    rw [hW1] at this
    simpa using this
  have HB1 := Lib.hid B1
  clear B1
  refine callsIn_of_wp_marks Try.func38 rfl trivial ?_ rfl
  simp only [Try.ntmps38, List.size_toArray, List.length_cons, List.length_nil, Nat.reduceAdd, Nat.reduceSub, Array.replicate_succ, Array.replicate_zero, List.push_toArray, List.append_toArray, List.nil_append, List.cons_append]
  gi_wp2_with (first
    | (gi_at_call 19; refine (callsIn_wide.2 (vmapOk_any a os cap _ (HV.out.below HB1.out) HF.out hlen2)).mono ?_; rintro e w1 ⟨b, rfl, hb, hb1⟩; obtain rfl : b = true := hb.2 HOK.out; have c0 := (hb1.cell (p := ⟨w.heap.size, 0, none⟩) (show w.heap.size < W1.heap.size by omega)).trans c0; have s0 := (hb1.cell (p := ⟨w.heap.size + 1, 0, none⟩) (show w.heap.size + 1 < W1.heap.size by omega)).trans s0; have HX1 := Lib.hid hb1; have y0 : w.heap.size < w1.heap.size := Nat.lt_of_lt_of_le (show w.heap.size < W1.heap.size by omega) hb1.size; have y1 : w.heap.size + 1 < w1.heap.size := Nat.lt_of_lt_of_le (show w.heap.size + 1 < W1.heap.size by omega) hb1.size; clear hb hb1 hW1)
    | (gi_at_call 85; refine (callsIn_wide.2 (objs_is _ _ _ _)).mono ?_; rintro e w' ⟨rfl, rfl⟩)
    | (gi_at_call 86; refine (callsIn_wide.2 (objAll_any _ _ _ _)).mono ?_; rintro e w' ⟨rfl, rfl⟩))
  have hw1 := HX1.out
  have zN : w.heap.size + 3 ≤ w1.heap.size := Nat.le_trans z0 hw1.size
  have rB1 : Boxed w1 (w.heap.size + 1 + 1) 25 (.slice none 0 0) := rB.kept (grown_of_belowW hw1) (by simp)
  have HBa : Below w.heap.size w w1 := HB1.out.trans (hw1.mono HB1.out.size)
  obtain ⟨N, hN⟩ : ∃ N, w1.heap.size = N := ⟨_, rfl⟩
  obtain ⟨W0, hW0⟩ : ∃ W0, ((w1.alloc (.cells #[.slice none 0 0] 25)).alloc (.cells #[.slice a os.length cap] 25)).alloc (.cells #[.slice a os.length cap] 127) = W0 := ⟨_, rfl⟩
  have hsz : W0.heap.size = N + 3 := by rw [← hW0, ← hN]; simp
  have hb10 : Below w1.heap.size w1 W0 := by rw [← hW0]; exact ((((Below.refl _ _).alloc (Nat.le_refl _) _).alloc (by simp) _).alloc (by simp; omega) _)
  have hB0 : Below w.heap.size w W0 := HBa.trans (hb10.mono HBa.size)
  have c0 := (hb10.cell (p := ⟨w.heap.size, 0, none⟩) (show w.heap.size < w1.heap.size by omega)).trans c0
  have s0 := (hb10.cell (p := ⟨w.heap.size + 1, 0, none⟩) (show w.heap.size + 1 < w1.heap.size by omega)).trans s0
  have rB : Boxed W0 (w.heap.size + 1 + 1) 25 (.slice none 0 0) := (hb10.block (w.heap.size + 1 + 1) (by omega)).trans rB1
  have oB : Boxed W0 N 25 (.slice none 0 0) := by
    have := ((Boxed.new w1 25 (.slice none 0 0)).alloc (.cells #[.slice a os.length cap] 25)).alloc (.cells #[.slice a os.length cap] 127)
    rw [hW0, hN] at this
    exact this
  have c5 : W0.cell? ⟨N + 1 + 1, 0, none⟩ = some (.slice a os.length cap) := by rw [← hW0, ← hN]; simp [go_sem]
  rw [hW0, hN]
  rw [hN] at zN y0 y1
  clear hW0 hN hw1 hb10 HBa rB1
  have G0 : Gv N (N + 1) W0 [] (.slice none 0 0) := Gv.start oB
  refine wpIn_rangeFunc_ownH rfl h1 (gf := 140) (lb := #[.pointer (some ⟨N + 1 + 1, 0, none⟩)]) rfl trivial (enters_of Try.func140 (by kernel_rfl) rfl)
    (objAll_stops (n - 1) (by omega) (N + 1 + 1) a os cap w HV.out hlen2 W0 (by omega) hB0 c5) belowK_t (belowK_b (by omega)) (Below.refl _ _) (fun _ => rfl)
    (fun pre W => (((W.cell? ⟨w.heap.size, 0, none⟩ = some (.slice a os.length cap) ∧ W.cell? ⟨w.heap.size + 1, 0, none⟩ = some (.int .i64 id)) ∧ Boxed W (w.heap.size + 1 + 1) 25 (.slice none 0 0)) ∧ ∃ cs v, Gv N (N + 1) W cs v ∧ cs.map ObjD.kv = pruneIn id (pre.map (·.1))) ∧ Below w.heap.size w W ∧ N + 3 ≤ W.heap.size)
    (fun _ _ _ => False)
    (OwnFrom.and (Own.from (fun _ A B row hs hg hr => by
      obtain ⟨⟨⟨q0, q1⟩, q3⟩, cs, v, q4, q5⟩ := hs
      refine ⟨⟨⟨cell_kept q0 hg hr, cell_kept q1 hg hr⟩, q3.kept hg (fun e' => ?_)⟩, cs, v, q4.kept hg hr, q5⟩
      obtain ⟨o, ho, hc⟩ := hr _ e'.symm
      rw [show A.heap[_]? = _ from q3] at ho; cases ho; cases hc) _) (OwnFrom.and (ownFrom_below (Nat.le_refl _) (by omega)) (fun _ _ _ _ h hg _ => Nat.le_trans h hg.size)))
    (fun _ _ _ _ _ hs _ _ => hs)
    ⟨⟨⟨⟨c0, s0⟩, rB⟩, [], _, G0, by simp [pruneIn]⟩, hB0, by omega⟩
    (fun x a' W => ∃ Bx, N + 3 ≤ Bx ∧ (W.cell? ⟨Bx, 0, none⟩ = some (.string x.1.key) ∧ W.cell? ⟨Bx, 1, none⟩ = some (.slice x.1.at_ x.1.vers.length x.1.cap)) ∧
      a' = { tmps := #[.agg #[.slice a os.length cap], .int .i64 id, .pointer (some ⟨w.heap.size, 0, none⟩), .pointer (some ⟨w.heap.size + 1, 0, none⟩), .pointer (some ⟨w.heap.size + 1 + 1, 0, none⟩), .pointer (some ⟨N, 0, none⟩), undef, .pointer (some ⟨Bx, 0, none⟩), undef, .agg #[.slice a os.length cap], .bool true, .bool false, undef, .agg #[.slice a os.length cap], .slice a os.length cap, .func (.func 140) #[] #[.pointer (some ⟨N + 1 + 1, 0, none⟩)], .string x.1.key, .agg #[.string x.1.key, .slice x.1.at_ x.1.vers.length x.1.cap], undef, undef, undef, undef, undef, undef, undef, undef, undef, undef, undef, undef, undef, undef, undef, undef, undef], defers := [] })
    (fun x a' => Own.from (fun _ A B row hs hg hr => by obtain ⟨Bx, q1, ⟨q2, q3⟩, q5⟩ := hs; exact ⟨Bx, q1, ⟨cell_kept q2 hg hr, cell_kept q3 hg hr⟩, q5⟩) _)
    ?assign ?body ?done ?stop
  case assign =>
    rintro l pre x W K ⟨⟨⟨⟨g0, g1⟩, gB⟩, cs, v, hG, hkv⟩, hB, hz⟩ hK
    simp only [objArgs]
    gi_wp2
    exact hK _ _ ((KeepsOthers.alloc _ _).from _) ((Below.refl _ W).alloc hB.size _) ⟨⟨⟨⟨cell_alloc_l _ g0, cell_alloc_l _ g1⟩, gB.alloc _⟩, cs, v, hG.below ((Below.refl _ _).alloc (Nat.le_refl _) _), hkv⟩, hB.alloc hB.size _, by simp; omega⟩ ⟨W.heap.size, by omega, ⟨by simp [go_sem], by simp [go_sem]⟩, rfl⟩
  case body =>
    rintro l pre x a' W hl hr ⟨⟨⟨⟨g0, g1⟩, gB⟩, cs, v, hG, hkv⟩, hB, hz⟩ ⟨Bx, hBx, ⟨b0, b1⟩, rfl⟩ hlt
    have hx := HP.out _ x.2
    have hxl := HL.out _ x.2
    have hxv : VersIn w x.1.at_ x.1.vers := HV.out.mem x.2
    have hxu : VersUp x.1.vers x.1.vers.length := by
      have h := ((mapOk_kv os).1 HOK.out).vers (p := x.1.kv) (List.mem_map_of_mem x.2)
      exact versUp_of h.2.2
    have HX := Lib.hid (hxv.below hB)
    have HXU := Lib.hid hxu
    have HPx := Lib.hid hx
    have HB := Lib.hid hB
    have HG := Lib.hid hG
    have HK := Lib.hid hkv
    have hcl : cs.length ≤ 1048576 := by
      have e1 := congrArg List.length hkv
      have e2 := pruneIn_len id (pre.map (·.1))
      simp at e1 e2
      omega
    have lbx : Bx < W.heap.size := block_of_cell b0
    have lb1 : w.heap.size + 1 < W.heap.size := by omega
    obtain ⟨r, hur⟩ : ∃ r, unreadN id x.1.vers = r := ⟨_, rfl⟩
    have HUR := Lib.hid hur
    clear hx hxv hB hG hkv hxu hur
    gi_wp2_with (gi_at_call 102; refine (CallsIn.inRound l (callsIn_wide.2 (unread_any x.1.key x.1.at_ x.1.vers x.1.cap id _ HX.out HXU.out hxl))).mono ?_; rintro e w2 ⟨rfl, hb1⟩; rw [HUR.out]; have hbxx := (HG.out.below hb1).box; have hx1 := hbxx.cell; have e0 := (hb1.cell (p := ⟨Bx, 0, none⟩) lbx).trans b0; have e1 := (hb1.cell (p := ⟨Bx, 1, none⟩) lbx).trans b1; have HE := Lib.hid hb1; have lbx1 : Bx < w2.heap.size := Nat.lt_of_lt_of_le lbx hb1.size; clear hb1; by_cases q1 : (r : Int) < (x.1.vers.length : Int))
    · have hrn : r ≤ x.1.vers.length := by omega
      have hFR := fun u hu => from_any x.1.key x.1.at_ x.1.vers x.1.cap r u hu HPx.out hrn hxl
      obtain ⟨ds, hds⟩ : ∃ ds, x.1.vers.drop r = ds := ⟨_, rfl⟩
      simp only [hds] at hFR
      have HFR := Lib.hid hFR
      have HDS := Lib.hid hds
      clear hFR hds
      gi_region_with (gi_at_call 103; refine (CallsIn.inRound l (callsIn_wide.2 (HFR.out _ ((HX.out.below HE.out).below ((Below.refl _ _).drew))))).mono ?_; rintro e wC ⟨p, c, rfl, p1, p2, p3, p4, p5, hbC⟩; have hGC := (HG.out.below HE.out).below (((Below.refl _ _).drew).trans hbC); obtain ⟨gg, cq, wD, hrun, hown, hgrow, hbyD⟩ := gv_append hGC x.1.key p ds.length c hcl (by have := hGC.box.lt; omega); have hr2 := hrun; (simp [go_sem] at hr2); have hbyC := hGC.box; have hxC := hbyC.cell; have hxT := (hbyC.alloc (.cells #[.string x.1.key, .slice p ds.length c] 45)).cell; have hxD := hbyD.cell; have hfD := hbyD.frozen; have X := Lib.hid (And.intro hown hgrow); have Y := Lib.hid (And.intro p1 (And.intro p2 (And.intro p3 (And.intro p4 p5)))); have HC := Lib.hid hbC; clear hown hgrow p1 p2 p3 p4 p5 hbC)
      all_goals
        clear hr2 hrun
        obtain ⟨hown, hgrow⟩ := X.out
        obtain ⟨p1, p2, p3, p4, p5⟩ := Y.out
        have hG1 := HG.out.below HE.out
        have hz1 : N + 3 ≤ w2.heap.size := Nat.le_trans hz HE.out.size
        have hb1C : Below w2.heap.size w2 wC := ((Below.refl _ _).drew).trans HC.out
        have hzC : w2.heap.size ≤ wC.heap.size := hb1C.size
        obtain ⟨-, hG2⟩ := Gv.push (o := ⟨x.1.key, p, c, ds⟩) hG1 hb1C (by omega) p1 p2 p3 p4 p5 hown hgrow
        obtain ⟨-, -, -, hk2, hbl⟩ := hbyC.appended (n₀ := N) (by decide) (Joins.ownsRow_le hGC.own (by omega)) (by omega) (by omega) (Joins.ownsRow_le hown (by omega)) hgrow
        have T3 := ((HE.out.trans (hb1C.mono HE.out.size)).mono (show N ≤ W.heap.size by omega)).trans hbl
        exact ⟨(((keepsOthers_putBelow HE.out).trans (keepsOthers_putBelow hb1C)).trans hk2).from _, T3.mono (by omega), ⟨⟨⟨(T3.cell (p := ⟨w.heap.size, 0, none⟩) (by show w.heap.size < N; omega)).trans g0, (T3.cell (p := ⟨w.heap.size + 1, 0, none⟩) (by show w.heap.size + 1 < N; omega)).trans g1⟩, (T3.block (w.heap.size + 1 + 1) (by omega)).trans gB⟩, _, _, hG2, by simp only [List.map_append, List.map_cons, List.map_nil]; rw [HK.out, pruneIn_yes (by rw [HUR.out]; omega), HUR.out, HDS.out]; rfl⟩, HB.out.trans (T3.mono (by omega)), Nat.le_trans hz T3.size⟩
    · exact ⟨(keepsOthers_putBelow HE.out).from _, HE.out.mono HB.out.size, ⟨⟨⟨(HE.out.cell (p := ⟨w.heap.size, 0, none⟩) (by show w.heap.size < W.heap.size; omega)).trans g0, (HE.out.cell (p := ⟨w.heap.size + 1, 0, none⟩) (by show w.heap.size + 1 < W.heap.size; omega)).trans g1⟩, gB.kept (grown_of_belowW HE.out) (by simp)⟩, cs, v, HG.out.below HE.out, by rw [HK.out, List.map_append, List.map_cons, List.map_nil, pruneIn_no (by rw [HUR.out]; omega)]⟩, HB.out.trans (HE.out.mono HB.out.size), Nat.le_trans hz HE.out.size⟩
  case done =>
    rintro D ys W hD rfl ⟨⟨⟨⟨g0, g1⟩, gB⟩, cs, v, hG, hkv⟩, hB, hz⟩ hK
    obtain ⟨va, vc, rfl, hA⟩ := hG.out (lo := w.heap.size) (by omega)
    have hxb := hG.box.cell
    have hrc := gB.cell
    have hrf := gB.frozen
    have HG := Lib.hid hG
    have HK := Lib.hid hK
    have HB := Lib.hid hB
    have HKV := Lib.hid hkv
    clear hG hK hB hA hkv
    gi_wp2
    have hK' := (KeepsOthers.setCell W ⟨w.heap.size + 1 + 1, 0, none⟩ (.slice va cs.length vc)).same D _ HK.out rfl
    refine ⟨by simp, .inl ⟨_, _, rfl, run_takeDeferred hK', ?_⟩⟩
    have hc5 := cell_kept (World.cell?_setCell_same' W ⟨w.heap.size + 1 + 1, 0, none⟩ (.slice va cs.length vc) (by rw [hrc]; rfl)) (grownBy_putObj' _ D (.deferred none)) (fun r e => by cases e; exact ⟨_, hK', rfl⟩)
    have hG2 := (HG.out.setOther gB (by omega) (.slice va cs.length vc)).kept (grownBy_putObj' _ D (.deferred none)) (fun r e => by cases e; exact ⟨_, hK', rfl⟩)
    obtain ⟨va', vc', e2, hA2⟩ := hG2.out (lo := w.heap.size) (by omega)
    injection e2 with e21 e22 e23
    subst e21 e23
    refine ⟨.agg #[.slice va cs.length vc], ?_, va, cs, vc, ?_, rfl, hA2, (HB.out.setCell (p := ⟨w.heap.size + 1 + 1, 0, none⟩) (by simp <;> omega) _).trans (belowK_b (w := w) (Nat.le_refl _) _ D _ _ (by omega) hK' rfl rfl)⟩
    · simp [results, Try.f38, go_sem, hc5]
    · rw [HKV.out]; simp
  case stop =>
    rintro D c pre W _ _ h _
    exact h.elim

theorem vmapPrune_any (a : Option Addr) (os : List ObjD) (cap : Nat) (id : Int) (w : World) (hv : ObjsIn w a os) (hf : ∀ o ∈ os, o.fits) (hp : ∀ o ∈ os, o.plain) (hn : os.length ≤ 1048576) (hl : ∀ o ∈ os, o.vers.length ≤ 1048576) :
    Calls Try.prog 38 #[.agg #[.slice a os.length cap], .int .i64 id] w (VmOut (pruneF id (os.map ObjD.kv)) w) := by
  by_cases hok : MapOkTo os os.length
  · rw [pruneF, if_pos ((mapOk_kv os).1 hok)]
    exact callsIn_wide.1 (vmapPrune_in 6 (by omega) a os cap id w hv hf hp hn hl hok)
  · rw [pruneF, if_neg (fun h => hok ((mapOk_kv os).2 h))]
    have HV := Lib.hid hv
    have HF := Lib.hid hf
    have HN := Lib.hid hok
    have hn2 : os.length ≤ maxLen := by unfold maxLen; omega
    clear hv hf hp hl hok
    obtain ⟨W1, hW1⟩ : ∃ W1, ((w.alloc (.cells #[.slice a os.length cap] 25)).alloc (.cells #[.int .i64 id] 3)).alloc (.cells #[.slice none 0 0] 25) = W1 := ⟨_, rfl⟩
    have B1 : Below w.heap.size w W1 := by rw [← hW1]; exact (((Below.refl _ _).alloc (Nat.le_refl _) _).alloc (by simp) _).alloc (by simp <;> omega) _
    have z0 : w.heap.size + 3 ≤ W1.heap.size := by rw [← hW1]; simp
    have c0 : W1.cell? ⟨w.heap.size, 0, none⟩ = some (.slice a os.length cap) := by rw [← hW1]; simp [go_sem]
    have r0 : W1.cell? ⟨w.heap.size + 1 + 1, 0, none⟩ = some (.slice none 0 0) := by rw [← hW1]; simp [go_sem]
    have fr0 : W1.frozen? ⟨w.heap.size + 1 + 1, 0, none⟩ = false := by rw [← hW1]; simp [go_sem]
    have HB1 := Lib.hid B1
    clear B1
    go_enter Try.func38, Try.ntmps38
    go_wp2_with fail
    clear hW1
    refine (vmapOk_any a os cap _ (HV.out.below HB1.out) HF.out hn2).mono ?_
    rintro e w1 ⟨b, rfl, hb, hb1⟩
    obtain rfl : b = false := by cases b; rfl; exact absurd (hb.1 rfl) HN.out
    have r0 := (hb1.cell (p := ⟨w.heap.size + 1 + 1, 0, none⟩) (show w.heap.size + 1 + 1 < W1.heap.size by omega)).trans r0
    have fr0 := (hb1.frozen (p := ⟨w.heap.size + 1 + 1, 0, none⟩) (show w.heap.size + 1 + 1 < W1.heap.size by omega)).trans fr0
    have y2 : w.heap.size + 1 + 1 < w1.heap.size := by have := hb1.size; omega
    have HBa := Lib.hid (HB1.out.trans (hb1.mono HB1.out.size))
    clear hb hb1
    go_wp2_with fail
    refine bodyPost_ret (v := .agg #[.slice none 0 0]) (by simp [results, Try.results38, go_sem, *]) rfl ?_
    exact ⟨none, [], 0, rfl, rfl, VmAt.nil _ _ _ (by simp), HBa.out.setCell (p := ⟨w.heap.size + 1 + 1, 0, none⟩) (by simp <;> omega) _⟩

end Go.Proofs.Ytjijichgoodocaa
