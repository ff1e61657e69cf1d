/- Copies of maps, and the keys of a span, as the model makes them. -/
import Derived.Test.YtmabffdocofijaaVApp
import Derived.Test.YtmabffdocofijaaSpan

import Derived.Deep.RegionHeld3
import Derived.Lib.QuietBelow
namespace Go.Proofs.Ytmabffdocofijaa
open Go.RowKit Go.Sort

theorem below_appD {u w2 : World} {t : TypeId} (h : ((u.alloc (.cells #[] t)).drew).grownBy w2 (some u.heap.size)) : Below u.heap.size u w2 :=
  Below.grown (((Below.refl _ _).alloc (Nat.le_refl _) _).drew) h (by simp) (fun j hj => by cases hj; exact Nat.le_refl _)
theorem grown_of_belowV {W W' : World} (h : Below W.heap.size W W') : W.grownBy W' none := ⟨h.os, h.tape, h.output, h.size, fun k hk _ => h.block k hk⟩
theorem turned_grown {S : Nat → Prop} {a w w' : World} {row : Option Nat} (h : Turned S a w) (hg : w.grownBy w' row) (hr : ∀ k, row = some k → a.heap.size ≤ k) : Turned S a w' :=
  ⟨hg.os.trans h.os, hg.tape.trans h.tape, hg.output.trans h.output, Nat.le_trans h.size hg.size, fun k hk hn => (hg.block k (Nat.lt_of_lt_of_le hk h.size) (fun e => by have := hr k e.symm; omega)).trans (h.block k hk hn)⟩

set_option maxRecDepth 100000 in
set_option maxHeartbeats 8000000 in
theorem l2Copy_any (a : Option Addr) (os : List ObjD) (cap : Nat) (w : World) (hv : ObjsIn w a os) (hp : ∀ o ∈ os, o.plain) (hn : os.length ≤ 1048576) (hl : ∀ o ∈ os, o.vers.length ≤ 1048576) :
    Calls Try.prog 94 #[.agg #[.slice a os.length cap]] w (VmOut (os.map ObjD.kv) w) := by
  have HV := Lib.hid hv
  have HP := Lib.hid hp
  have HL := Lib.hid hl
  clear hv hp hl
  obtain ⟨i0, hi0, hz0, hz1, hz2⟩ := info_parts infoObj
  obtain ⟨W1, hW1⟩ : ∃ W1, (w.alloc (.cells #[.slice a os.length cap] 31)).alloc (.cells #[.slice none 0 0] 31) = W1 := ⟨_, rfl⟩
  have B1 : Below w.heap.size w W1 := by rw [← hW1]; exact ((Below.refl _ _).alloc (Nat.le_refl _) _).alloc (by simp <;> omega) _
  have z1 : w.heap.size + 2 ≤ W1.heap.size := by rw [← hW1]; simp
  have c0 : W1.cell? ⟨w.heap.size, 0, none⟩ = some (.slice a os.length cap) := by rw [← hW1]; simp [go_sem]
  have r0 : W1.cell? ⟨w.heap.size + 1, 0, none⟩ = some (.slice none 0 0) := by rw [← hW1]; simp [go_sem]
  have fr0 : W1.frozen? ⟨w.heap.size + 1, 0, none⟩ = false := by rw [← hW1]; simp [go_sem]
  have HB1 := Lib.hid B1
  clear B1
  go_enter Try.func94, Try.ntmps94
  go_wp2_with fail
  clear hW1
  obtain ⟨W2, hW2⟩ : ∃ W2, W1.alloc (.cells #[.slice none 0 0] 31) = W2 := ⟨_, rfl⟩
  rw [hW2]
  have hb : Below W1.heap.size W1 W2 := by rw [← hW2]; exact (Below.refl _ _).alloc (Nat.le_refl _) _
  have z2 : W1.heap.size < W2.heap.size := by rw [← hW2]; simp
  have G0 : Gv W1.heap.size W2.heap.size W2 [] (.slice none 0 0) := Gv.start (by rw [← hW2]; exact Boxed.new _ _ _)
  have c0 := (hb.cell (p := ⟨w.heap.size, 0, none⟩) (show w.heap.size < W1.heap.size by omega)).trans c0
  have r0 := (hb.cell (p := ⟨w.heap.size + 1, 0, none⟩) (show w.heap.size + 1 < W1.heap.size by omega)).trans r0
  have fr0 := (hb.frozen (p := ⟨w.heap.size + 1, 0, none⟩) (show w.heap.size + 1 < W1.heap.size by omega)).trans fr0
  have HB2 := Lib.hid (HB1.out.trans (hb.mono HB1.out.size))
  clear hW2 hb HB1
  go_loopw [4] (fun i wr => ∃ (k : Nat) (cs : List ObjD) (v : Value), k ≤ os.length ∧ i = .int .i64 (k : Int) ∧ Turned (fun b => b = W1.heap.size) W2 wr ∧ Gv W1.heap.size W2.heap.size wr cs v ∧ cs.map ObjD.kv = ((os.take k).map ObjD.kv)) (fun i _ => os.length - (intOf i).toNat)
  case atStart => exact ⟨0, [], _, Nat.zero_le _, rfl, Turned.refl _ _, G0, by simp⟩
  case round =>
    obtain ⟨k, cs, v, hk, rfl, hT, hG, hkv⟩ := hrel
    have c0 := (hT.cell (p := ⟨w.heap.size, 0, none⟩) (show w.heap.size < W2.heap.size by omega) (show ¬ (w.heap.size = W1.heap.size) by omega)).trans c0
    have hsz : W2.heap.size ≤ wr.heap.size := hT.size
    have hBw : Below w.heap.size w wr := HB2.out.trans (hT.below (fun b e => by omega) HB2.out.size)
    have HBw := Lib.hid hBw
    have HT := Lib.hid hT
    have HG := Lib.hid hG
    have HK := Lib.hid hkv
    clear hBw hT hG hkv
    by_cases hlt : k < os.length
    · rcases HV.out.below HBw.out with hnil | ⟨b1, o1, rfl, hb1, hc1⟩
      · rw [hnil] at hlt; simp at hlt
      have hbw : b1 < w.heap.size := by
        rcases HV.out with hnil | ⟨b2, o2, e2, hb2, _⟩
        · rw [hnil] at hlt; simp at hlt
        · injection e2 with e2; injection e2 with e2 _; rw [e2]; exact hb2
      obtain ⟨d0, d1, d2⟩ := hc1 k hlt
      have HX := Lib.hid d2
      clear hc1 d2
      have q1 : (0 : Int) ≤ (k : Int) := by omega
      have q2 : (k : Int) < (os.length : Int) := by omega
      obtain ⟨V, rfl⟩ : ∃ V, V = wr := ⟨_, rfl⟩
      skip
      have hx := HG.out.box.cell
      have hfx := HG.out.box.frozen
      have hne := HG.out.ne
      have hxl := HG.out.box.lt
      have nc : some w.heap.size ≠ v.ownBlock := own_neV HG.out.own (.inl (by omega))
      have nd : some b1 ≠ v.ownBlock := own_neV HG.out.own (.inl (by omega))
      have hcl : cs.length ≤ k := by have := congrArg List.length HK.out; simp at this; omega
      have hol : os[k].vers.length ≤ 1048576 := HL.out _ (List.getElem_mem hlt)
      have hop : os[k].plain := HP.out _ (List.getElem_mem hlt)
      have q : V.drew.cell? ⟨w.heap.size, 0, none⟩ = some (.slice (some ⟨b1, o1, none⟩) os.length cap) ∧ V.drew.cell? ⟨b1, o1 + k * 2, none⟩ = some (.string os[k].key) ∧ V.drew.cell? ⟨b1, o1 + k * 2 + 1, none⟩ = some (.slice os[k].at_ os[k].vers.length os[k].cap) ∧ w.heap.size < V.drew.heap.size ∧ b1 < V.drew.heap.size := ⟨c0, d0, d1, (by show w.heap.size < V.heap.size; omega), hb1⟩
      have HO := Lib.hid HG.out.own
      have hxA : (V.alloc (.cells #[] 48)).drew.cell? ⟨W1.heap.size, 0, none⟩ = some v := (HG.out.box.alloc _).cell
      have mc : w.heap.size ≠ W1.heap.size := by omega
      have md : b1 ≠ W1.heap.size := by omega
      have q0 : V.cell? ⟨w.heap.size, 0, none⟩ = some (.slice (some ⟨b1, o1, none⟩) os.length cap) ∧ V.cell? ⟨b1, o1 + k * 2, none⟩ = some (.string os[k].key) ∧ V.cell? ⟨b1, o1 + k * 2 + 1, none⟩ = some (.slice os[k].at_ os[k].vers.length os[k].cap) ∧ w.heap.size < V.heap.size ∧ b1 < V.heap.size := q
      have HOP := Lib.hid hop
      have hzz : W2.heap.size ≤ V.heap.size := hsz
      clear hop
      go_wp2_with fail
      clear c0 d0 d1
      go_region_held3 (fun u => u.cell? ⟨w.heap.size, 0, none⟩ = some (.slice (some ⟨b1, o1, none⟩) os.length cap) ∧ u.cell? ⟨b1, o1 + k * 2, none⟩ = some (.string os[k].key) ∧ u.cell? ⟨b1, o1 + k * 2 + 1, none⟩ = some (.slice os[k].at_ os[k].vers.length os[k].cap) ∧ w.heap.size < u.heap.size ∧ b1 < u.heap.size)
        (first | with_reducible exact q | with_reducible exact keepV2_allocD q | with_reducible exact keepV2_alloc q | with_reducible exact keepV2_set mc md q | fail)
        (first
          | (refine step_append_ver (by rfl) _ _ 115 (by rfl) Try.underlying115 V.heap.size (.slice (some ⟨V.heap.size, 0, none⟩) 0 0) 0 [] (by rfl) (emptyVers (heap_alloc_new _ _) (Nat.le_refl _)) os[k].at_ os[k].vers os[k].cap (by rfl) HOP.out.1 (HX.out.below (((Below.refl _ _).alloc (Nat.le_refl _) _).drew)) (by omega) (by simp) (by simp) ?_; intro g cp wC hown hgrow; have hbC := below_appD hgrow; have q := keepV2 hbC q0; have hbxC := HG.out.box.kept (grown_of_belowV hbC) (by simp); have hxC := hbxC.cell; have hxT := fun o => (hbxC.alloc o).cell; have HI := Lib.hid hown; have HO := Lib.hid (Go.Proofs.Ytmabffdocofijaa.ownsRow_of_below HO.out hbC); have hzz := Nat.le_trans hzz hbC.size; have HC := Lib.hid hbC; clear hown hgrow hbC)
          | (refine step_append_lies _ (by rfl) _ _ 29 (by rfl) W2.heap.size 117 i0 (.agg #[.string ⟨#[]⟩, .slice none 0 0]) 2 40 Try.underlying29 hi0 hz0 hz1 hz2 rfl (by omega) v cs.length (cs.flatMap objCells) (by rfl) (HO.out.alloc _) ⟨wC.heap.size, 0, none⟩ 1 1 [.string os[k].key, .slice (some ⟨g, 0, none⟩) os[k].vers.length cp] (by rfl) (by rfl) (World.news_of_block (heap_alloc_new wC _)) (fun u hu => (by simp at hu; rcases hu with rfl | rfl <;> rfl)) (by omega) (by unfold maxLen; omega) (by omega) (by simp; omega) _ rfl ?_; intro gg cq wD hown hgrow hat hlt2; have q := keepV2_far hgrow nc nd (keepV2_alloc q); have hbxD := (hbxC.alloc _).kept hgrow hne; have hxD := hbxD.cell; have hfD := hbxD.frozen; have X := Lib.hid (And.intro hown hgrow); clear hown hgrow hat hlt2)
          | fail)
      all_goals
        obtain ⟨hown, hgrow⟩ := X.out
        have hI := HI.out
        simp only [Nat.zero_add, List.nil_append] at hI hown hgrow
        obtain ⟨pa, pc, pe, p1, p2, p3, p4, p5⟩ := own_versH hI
        injection pe with pe1 pe2 pe3
        subst pe1 pe3
        have HPush := Gv.push (o := ⟨os[k].key, some ⟨g, 0, none⟩, cp, os[k].vers⟩) HG.out HC.out hsz p1 p2 p3 p4 p5 hown hgrow
        obtain ⟨hbx, hG2⟩ := HPush
        have y0 := hbx.cell
        have yf := hbx.frozen
        have hTD := Lib.hid ((turned_grown (HT.out.trans (Turned.of_below (HC.out.alloc HC.out.size _))) hgrow (fun j hj => (HO.out.lt j hj).1)).setCell (p := ⟨W1.heap.size, 0, none⟩) rfl (.slice (some ⟨gg, 0, none⟩) (cs.length + 1) cq))
        have hG2 := Lib.hid hG2
        clear hown hgrow hI p1 p2 p3 p4 p5 hbx X HI
        go_wp2_with fail
        go_roundw
        case rel => exact ⟨k + 1, cs ++ [⟨os[k].key, some ⟨g, 0, none⟩, cp, os[k].vers⟩], _, by omega, by go_num, hTD.out, hG2.out, by rw [List.map_append, HK.out, List.take_succ_eq_append_getElem hlt, List.map_append]; simp [ObjD.kv]⟩
        case measure => simp [intOf]; omega
    · obtain rfl : k = os.length := by omega
      obtain ⟨va, vc, rfl, hA⟩ := HG.out.out (lo := W2.heap.size) (Nat.le_refl _)
      have hx := HG.out.box.cell
      have r0 := (HT.out.cell (p := ⟨w.heap.size + 1, 0, none⟩) (show w.heap.size + 1 < W2.heap.size by omega) (show ¬ (w.heap.size + 1 = W1.heap.size) by omega)).trans r0
      have fr0 := (HT.out.frozen (p := ⟨w.heap.size + 1, 0, none⟩) (show w.heap.size + 1 < W2.heap.size by omega) (show ¬ (w.heap.size + 1 = W1.heap.size) by omega)).trans fr0
      have HA := Lib.hid hA
      have hrl : w.heap.size + 1 < wr.heap.size := by omega
      clear hA
      go_wp2_with fail
      refine bodyPost_ret (v := .agg #[.slice va cs.length vc]) (by simp [results, Try.results94, go_sem, *]) rfl ?_
      refine ⟨va, cs, vc, by rw [HK.out, List.take_length], rfl, ?_, HBw.out.setCell (p := ⟨w.heap.size + 1, 0, none⟩) (show w.heap.size ≤ w.heap.size + 1 by omega) _⟩
      exact (HA.out.turned (S := fun b => b = w.heap.size + 1) (fun b h1 h2 e => by omega) ((Turned.refl (fun b => b = w.heap.size + 1) _).setCell (p := ⟨w.heap.size + 1, 0, none⟩) rfl _)).lower (by omega)

set_option maxRecDepth 100000 in
set_option maxHeartbeats 8000000 in
theorem l2Cut_any (a : Option Addr) (os : List ObjD) (cap : Nat) (lo hi : ByteArray) (w : World) (hv : ObjsIn w a os) (hp : ∀ o ∈ os, o.plain) (hn : os.length ≤ 1048576) (hl : ∀ o ∈ os, o.vers.length ≤ 1048576) :
    Calls Try.prog 77 #[.agg #[.slice a os.length cap], .agg #[.string lo, .string hi]] w (VmOut ((os.map ObjD.kv).filter (fun p => hasB lo hi p.1)) w) := by
  have HV := Lib.hid hv
  have HP := Lib.hid hp
  have HL := Lib.hid hl
  clear hv hp hl
  obtain ⟨i0, hi0, hz0, hz1, hz2⟩ := info_parts infoObj
  obtain ⟨W1, hW1⟩ : ∃ W1, ((w.alloc (.cells #[.slice a os.length cap] 31)).alloc (.cells #[.string lo, .string hi] 34)).alloc (.cells #[.slice none 0 0] 31) = W1 := ⟨_, rfl⟩
  have B1 : Below w.heap.size w W1 := by rw [← hW1]; exact (((Below.refl _ _).alloc (Nat.le_refl _) _).alloc (by simp) _).alloc (by simp <;> omega) _
  have z1 : w.heap.size + 3 ≤ W1.heap.size := by rw [← hW1]; simp
  have c0 : W1.cell? ⟨w.heap.size, 0, none⟩ = some (.slice a os.length cap) := by rw [← hW1]; simp [go_sem]
  have s0 : W1.cell? ⟨w.heap.size + 1, 0, none⟩ = some (.string lo) := by rw [← hW1]; simp [go_sem]
  have s1 : W1.cell? ⟨w.heap.size + 1, 1, none⟩ = some (.string hi) := by rw [← hW1]; simp [go_sem]
  have r0 : W1.cell? ⟨w.heap.size + 1 + 1, 0, none⟩ = some (.slice none 0 0) := by rw [← hW1]; simp [go_sem]
  have fr0 : W1.frozen? ⟨w.heap.size + 1 + 1, 0, none⟩ = false := by rw [← hW1]; simp [go_sem]
  have HB1 := Lib.hid B1
  clear B1
  go_enter Try.func77, Try.ntmps77
  go_wp2_with fail
  clear hW1
  obtain ⟨W2, hW2⟩ : ∃ W2, W1.alloc (.cells #[.slice none 0 0] 31) = W2 := ⟨_, rfl⟩
  rw [hW2]
  have hb : Below W1.heap.size W1 W2 := by rw [← hW2]; exact (Below.refl _ _).alloc (Nat.le_refl _) _
  have z2 : W1.heap.size < W2.heap.size := by rw [← hW2]; simp
  have G0 : Gv W1.heap.size W2.heap.size W2 [] (.slice none 0 0) := Gv.start (by rw [← hW2]; exact Boxed.new _ _ _)
  have c0 := (hb.cell (p := ⟨w.heap.size, 0, none⟩) (show w.heap.size < W1.heap.size by omega)).trans c0
  have s0 := (hb.cell (p := ⟨w.heap.size + 1, 0, none⟩) (show w.heap.size + 1 < W1.heap.size by omega)).trans s0
  have s1 := (hb.cell (p := ⟨w.heap.size + 1, 1, none⟩) (show w.heap.size + 1 < W1.heap.size by omega)).trans s1
  have r0 := (hb.cell (p := ⟨w.heap.size + 1 + 1, 0, none⟩) (show w.heap.size + 1 + 1 < W1.heap.size by omega)).trans r0
  have fr0 := (hb.frozen (p := ⟨w.heap.size + 1 + 1, 0, none⟩) (show w.heap.size + 1 + 1 < W1.heap.size by omega)).trans fr0
  have HB2 := Lib.hid (HB1.out.trans (hb.mono HB1.out.size))
  clear hW2 hb HB1
  go_loopw [6] (fun i wr => ∃ (k : Nat) (cs : List ObjD) (v : Value), k ≤ os.length ∧ i = .int .i64 (k : Int) ∧ Turned (fun b => b = W1.heap.size) W2 wr ∧ Gv W1.heap.size W2.heap.size wr cs v ∧ cs.map ObjD.kv = (((os.take k).map ObjD.kv).filter (fun p => hasB lo hi p.1))) (fun i _ => os.length - (intOf i).toNat)
  case atStart => exact ⟨0, [], _, Nat.zero_le _, rfl, Turned.refl _ _, G0, by simp⟩
  case round =>
    obtain ⟨k, cs, v, hk, rfl, hT, hG, hkv⟩ := hrel
    have c0 := (hT.cell (p := ⟨w.heap.size, 0, none⟩) (show w.heap.size < W2.heap.size by omega) (show ¬ (w.heap.size = W1.heap.size) by omega)).trans c0
    have s0 := (hT.cell (p := ⟨w.heap.size + 1, 0, none⟩) (show w.heap.size + 1 < W2.heap.size by omega) (show ¬ (w.heap.size + 1 = W1.heap.size) by omega)).trans s0
    have s1 := (hT.cell (p := ⟨w.heap.size + 1, 1, none⟩) (show w.heap.size + 1 < W2.heap.size by omega) (show ¬ (w.heap.size + 1 = W1.heap.size) by omega)).trans s1
    have hsz : W2.heap.size ≤ wr.heap.size := hT.size
    have hBw : Below w.heap.size w wr := HB2.out.trans (hT.below (fun b e => by omega) HB2.out.size)
    have HBw := Lib.hid hBw
    have HT := Lib.hid hT
    have HG := Lib.hid hG
    have HK := Lib.hid hkv
    clear hBw hT hG hkv
    by_cases hlt : k < os.length
    · rcases HV.out.below HBw.out with hnil | ⟨b1, o1, rfl, hb1, hc1⟩
      · rw [hnil] at hlt; simp at hlt
      have hbw : b1 < w.heap.size := by
        rcases HV.out with hnil | ⟨b2, o2, e2, hb2, _⟩
        · rw [hnil] at hlt; simp at hlt
        · injection e2 with e2; injection e2 with e2 _; rw [e2]; exact hb2
      obtain ⟨d0, d1, d2⟩ := hc1 k hlt
      have HX := Lib.hid d2
      clear hc1 d2
      have q1 : (0 : Int) ≤ (k : Int) := by omega
      have q2 : (k : Int) < (os.length : Int) := by omega
      have g1 := cell_regrown c0
      have g2 := cell_regrown s0
      have g3 := cell_regrown s1
      have g4 := cell_regrown d0
      go_wp2_with fail
      refine wp_region_quiet_below (by kernel_rfl) (by kernel_rfl) ?_
      repeat (go_big_quiet_step ((go_at_call 154; exact Calls.regrown_of (l1Has_any lo hi _ _))))
      refine wpQuiet_nil ?_
      intro _ hw'
      obtain ⟨⟨dq, osq⟩, hw''⟩ := hw'
      subst hw''
      obtain ⟨V, hV⟩ : ∃ V, grow (redrawn wr dq) osq = V := ⟨_, rfl⟩
      have hbV : Below wr.heap.size wr V := by rw [← hV]; exact below_regrown _ _ _
      rw [show grow (redrawn wr (Regrown.mk dq osq).d) (Regrown.mk dq osq).os = V from hV]
      have HG := Lib.hid (HG.out.below hbV)
      have HT := Lib.hid (HT.out.trans (Turned.of_below hbV))
      have HX := Lib.hid (HX.out.below hbV)
      have c0 := (hbV.cell (p := ⟨w.heap.size, 0, none⟩) (show w.heap.size < wr.heap.size by omega)).trans c0
      have d0 := (hbV.cell (p := ⟨b1, o1 + k * 2, none⟩) hb1).trans d0
      have d1 := (hbV.cell (p := ⟨b1, o1 + k * 2 + 1, none⟩) hb1).trans d1
      have hsz : W2.heap.size ≤ V.heap.size := Nat.le_trans hsz hbV.size
      have hb1 : b1 < V.heap.size := Nat.lt_of_lt_of_le hb1 hbV.size
      clear hV hbV g1 g2 g3 g4
      cases hH : hasB lo hi os[k].key
      · go_wp2_with fail
        go_roundw
        case rel => exact ⟨k + 1, cs, v, by omega, by go_num, HT.out, HG.out, by rw [HK.out, List.take_succ_eq_append_getElem hlt, List.map_append, List.filter_append]; simp [ObjD.kv, hH]⟩
        case measure => simp [intOf]; omega
      · have hx := HG.out.box.cell
        have hfx := HG.out.box.frozen
        have hne := HG.out.ne
        have hxl := HG.out.box.lt
        have nc : some w.heap.size ≠ v.ownBlock := own_neV HG.out.own (.inl (by omega))
        have nd : some b1 ≠ v.ownBlock := own_neV HG.out.own (.inl (by omega))
        have hcl : cs.length ≤ k := by have := congrArg List.length HK.out; have h2 := List.length_filter_le (fun p : Kv => hasB lo hi p.1) ((os.take k).map ObjD.kv); rw [← this] at h2; simp at h2; omega
        have hol : os[k].vers.length ≤ 1048576 := HL.out _ (List.getElem_mem hlt)
        have hop : os[k].plain := HP.out _ (List.getElem_mem hlt)
        have q : V.drew.cell? ⟨w.heap.size, 0, none⟩ = some (.slice (some ⟨b1, o1, none⟩) os.length cap) ∧ V.drew.cell? ⟨b1, o1 + k * 2, none⟩ = some (.string os[k].key) ∧ V.drew.cell? ⟨b1, o1 + k * 2 + 1, none⟩ = some (.slice os[k].at_ os[k].vers.length os[k].cap) ∧ w.heap.size < V.drew.heap.size ∧ b1 < V.drew.heap.size := ⟨c0, d0, d1, (by show w.heap.size < V.heap.size; omega), hb1⟩
        have HO := Lib.hid HG.out.own
        have hxA : (V.alloc (.cells #[] 48)).drew.cell? ⟨W1.heap.size, 0, none⟩ = some v := (HG.out.box.alloc _).cell
        have mc : w.heap.size ≠ W1.heap.size := by omega
        have md : b1 ≠ W1.heap.size := by omega
        have q0 : V.cell? ⟨w.heap.size, 0, none⟩ = some (.slice (some ⟨b1, o1, none⟩) os.length cap) ∧ V.cell? ⟨b1, o1 + k * 2, none⟩ = some (.string os[k].key) ∧ V.cell? ⟨b1, o1 + k * 2 + 1, none⟩ = some (.slice os[k].at_ os[k].vers.length os[k].cap) ∧ w.heap.size < V.heap.size ∧ b1 < V.heap.size := q
        have HOP := Lib.hid hop
        have hzz : W2.heap.size ≤ V.heap.size := hsz
        clear hop
        go_wp2_with fail
        clear c0 d0 d1
        go_region_held3 (fun u => u.cell? ⟨w.heap.size, 0, none⟩ = some (.slice (some ⟨b1, o1, none⟩) os.length cap) ∧ u.cell? ⟨b1, o1 + k * 2, none⟩ = some (.string os[k].key) ∧ u.cell? ⟨b1, o1 + k * 2 + 1, none⟩ = some (.slice os[k].at_ os[k].vers.length os[k].cap) ∧ w.heap.size < u.heap.size ∧ b1 < u.heap.size)
          (first | with_reducible exact q | with_reducible exact keepV2_allocD q | with_reducible exact keepV2_alloc q | with_reducible exact keepV2_set mc md q | fail)
          (first
            | (refine step_append_ver (by rfl) _ _ 115 (by rfl) Try.underlying115 V.heap.size (.slice (some ⟨V.heap.size, 0, none⟩) 0 0) 0 [] (by rfl) (emptyVers (heap_alloc_new _ _) (Nat.le_refl _)) os[k].at_ os[k].vers os[k].cap (by rfl) HOP.out.1 (HX.out.below (((Below.refl _ _).alloc (Nat.le_refl _) _).drew)) (by omega) (by simp) (by simp) ?_; intro g cp wC hown hgrow; have hbC := below_appD hgrow; have q := keepV2 hbC q0; have hbxC := HG.out.box.kept (grown_of_belowV hbC) (by simp); have hxC := hbxC.cell; have hxT := fun o => (hbxC.alloc o).cell; have HI := Lib.hid hown; have HO := Lib.hid (Go.Proofs.Ytmabffdocofijaa.ownsRow_of_below HO.out hbC); have hzz := Nat.le_trans hzz hbC.size; have HC := Lib.hid hbC; clear hown hgrow hbC)
            | (refine step_append_lies _ (by rfl) _ _ 29 (by rfl) W2.heap.size 117 i0 (.agg #[.string ⟨#[]⟩, .slice none 0 0]) 2 40 Try.underlying29 hi0 hz0 hz1 hz2 rfl (by omega) v cs.length (cs.flatMap objCells) (by rfl) (HO.out.alloc _) ⟨wC.heap.size, 0, none⟩ 1 1 [.string os[k].key, .slice (some ⟨g, 0, none⟩) os[k].vers.length cp] (by rfl) (by rfl) (World.news_of_block (heap_alloc_new wC _)) (fun u hu => (by simp at hu; rcases hu with rfl | rfl <;> rfl)) (by omega) (by unfold maxLen; omega) (by omega) (by simp; omega) _ rfl ?_; intro gg cq wD hown hgrow hat hlt2; have q := keepV2_far hgrow nc nd (keepV2_alloc q); have hbxD := (hbxC.alloc _).kept hgrow hne; have hxD := hbxD.cell; have hfD := hbxD.frozen; have X := Lib.hid (And.intro hown hgrow); clear hown hgrow hat hlt2)
            | fail)
        all_goals
          obtain ⟨hown, hgrow⟩ := X.out
          have hI := HI.out
          simp only [Nat.zero_add, List.nil_append] at hI hown hgrow
          obtain ⟨pa, pc, pe, p1, p2, p3, p4, p5⟩ := own_versH hI
          injection pe with pe1 pe2 pe3
          subst pe1 pe3
          have HPush := Gv.push (o := ⟨os[k].key, some ⟨g, 0, none⟩, cp, os[k].vers⟩) HG.out HC.out hsz p1 p2 p3 p4 p5 hown hgrow
          obtain ⟨hbx, hG2⟩ := HPush
          have y0 := hbx.cell
          have yf := hbx.frozen
          have hTD := Lib.hid ((turned_grown (HT.out.trans (Turned.of_below (HC.out.alloc HC.out.size _))) hgrow (fun j hj => (HO.out.lt j hj).1)).setCell (p := ⟨W1.heap.size, 0, none⟩) rfl (.slice (some ⟨gg, 0, none⟩) (cs.length + 1) cq))
          have hG2 := Lib.hid hG2
          clear hown hgrow hI p1 p2 p3 p4 p5 hbx X HI
          go_wp2_with fail
          go_roundw
          case rel => exact ⟨k + 1, cs ++ [⟨os[k].key, some ⟨g, 0, none⟩, cp, os[k].vers⟩], _, by omega, by go_num, hTD.out, hG2.out, by rw [List.map_append, HK.out, List.take_succ_eq_append_getElem hlt, List.map_append, List.filter_append]; simp [ObjD.kv, hH]⟩
          case measure => simp [intOf]; omega
    · obtain rfl : k = os.length := by omega
      obtain ⟨va, vc, rfl, hA⟩ := HG.out.out (lo := W2.heap.size) (Nat.le_refl _)
      have hx := HG.out.box.cell
      have r0 := (HT.out.cell (p := ⟨w.heap.size + 1 + 1, 0, none⟩) (show w.heap.size + 1 + 1 < W2.heap.size by omega) (show ¬ (w.heap.size + 1 + 1 = W1.heap.size) by omega)).trans r0
      have fr0 := (HT.out.frozen (p := ⟨w.heap.size + 1 + 1, 0, none⟩) (show w.heap.size + 1 + 1 < W2.heap.size by omega) (show ¬ (w.heap.size + 1 + 1 = W1.heap.size) by omega)).trans fr0
      have HA := Lib.hid hA
      have hrl : w.heap.size + 1 + 1 < wr.heap.size := by omega
      clear hA
      go_wp2_with fail
      refine bodyPost_ret (v := .agg #[.slice va cs.length vc]) (by simp [results, Try.results77, go_sem, *]) rfl ?_
      refine ⟨va, cs, vc, by rw [HK.out, List.take_length], rfl, ?_, HBw.out.setCell (p := ⟨w.heap.size + 1 + 1, 0, none⟩) (show w.heap.size ≤ w.heap.size + 1 + 1 by omega) _⟩
      exact (HA.out.turned (S := fun b => b = w.heap.size + 1 + 1) (fun b h1 h2 e => by omega) ((Turned.refl (fun b => b = w.heap.size + 1 + 1) _).setCell (p := ⟨w.heap.size + 1 + 1, 0, none⟩) rfl _)).lower (by omega)
end Go.Proofs.Ytmabffdocofijaa
