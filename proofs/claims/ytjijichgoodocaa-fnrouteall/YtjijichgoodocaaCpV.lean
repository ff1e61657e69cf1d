/- Copies of maps, and the keys of a span, as the model makes them. -/
import Derived.Test.YtjijichgoodocaaVApp
import Derived.Test.YtjijichgoodocaaOrdB
import Derived.Deep.RegionHeld3
import Derived.Lib.QuietBelow
namespace Go.Proofs.Ytjijichgoodocaa
open Go.RowKit Go.Sort

theorem below_appD {u w2 : World} {t : TypeId} (h : ((u.alloc (.cells #[] t)).drew).grownBy w2 (some u.heap.size)) : Below u.heap.size u w2 :=
  Below.grown (((Below.refl _ _).alloc (Nat.le_refl _) _).drew) h (by simp) (fun j hj => by cases hj; exact Nat.le_refl _)
theorem grown_of_belowV {W W' : World} (h : Below W.heap.size W W') : W.grownBy W' none := ⟨h.os, h.tape, h.output, h.size, fun k hk _ => h.block k hk⟩
theorem turned_grown {S : Nat → Prop} {a w w' : World} {row : Option Nat} (h : Turned S a w) (hg : w.grownBy w' row) (hr : ∀ k, row = some k → a.heap.size ≤ k) : Turned S a w' :=
  ⟨hg.os.trans h.os, hg.tape.trans h.tape, hg.output.trans h.output, Nat.le_trans h.size hg.size, fun k hk hn => (hg.block k (Nat.lt_of_lt_of_le hk h.size) (fun e => by have := hr k e.symm; omega)).trans (h.block k hk hn)⟩

set_option maxRecDepth 100000 in
set_option maxHeartbeats 8000000 in
theorem l2Copy_any (a : Option Addr) (os : List ObjD) (cap : Nat) (w : World) (hv : ObjsIn w a os) (hp : ∀ o ∈ os, o.plain) (hn : os.length ≤ 1048576) (hl : ∀ o ∈ os, o.vers.length ≤ 1048576) :
    Calls Try.prog 82 #[.agg #[.slice a os.length cap]] w (VmOut (os.map ObjD.kv) w) := by
  have HV := Lib.hid hv
  have HP := Lib.hid hp
  have HL := Lib.hid hl
  clear hv hp hl
  obtain ⟨i0, hi0, hz0, hz1, hz2⟩ := info_parts infoObj
  obtain ⟨W1, hW1⟩ : ∃ W1, (w.alloc (.cells #[.slice a os.length cap] 25)).alloc (.cells #[.slice none 0 0] 25) = W1 := ⟨_, rfl⟩
  have B1 : Below w.heap.size w W1 := by rw [← hW1]; exact ((Below.refl _ _).alloc (Nat.le_refl _) _).alloc (by simp <;> omega) _
  have z1 : w.heap.size + 2 ≤ W1.heap.size := by rw [← hW1]; simp
  have c0 : W1.cell? ⟨w.heap.size, 0, none⟩ = some (.slice a os.length cap) := by rw [← hW1]; simp [go_sem]
  have r0 : W1.cell? ⟨w.heap.size + 1, 0, none⟩ = some (.slice none 0 0) := by rw [← hW1]; simp [go_sem]
  have fr0 : W1.frozen? ⟨w.heap.size + 1, 0, none⟩ = false := by rw [← hW1]; simp [go_sem]
  have HB1 := Lib.hid B1
  clear B1
  go_enter Try.func82, Try.ntmps82
  go_wp2_with fail
  clear hW1
  obtain ⟨W2, hW2⟩ : ∃ W2, W1.alloc (.cells #[.slice none 0 0] 25) = W2 := ⟨_, rfl⟩
  rw [hW2]
  have hb : Below W1.heap.size W1 W2 := by rw [← hW2]; exact (Below.refl _ _).alloc (Nat.le_refl _) _
  have z2 : W1.heap.size < W2.heap.size := by rw [← hW2]; simp
  have G0 : Gv W1.heap.size W2.heap.size W2 [] (.slice none 0 0) := Gv.start (by rw [← hW2]; exact Boxed.new _ _ _)
  have c0 := (hb.cell (p := ⟨w.heap.size, 0, none⟩) (show w.heap.size < W1.heap.size by omega)).trans c0
  have r0 := (hb.cell (p := ⟨w.heap.size + 1, 0, none⟩) (show w.heap.size + 1 < W1.heap.size by omega)).trans r0
  have fr0 := (hb.frozen (p := ⟨w.heap.size + 1, 0, none⟩) (show w.heap.size + 1 < W1.heap.size by omega)).trans fr0
  have HB2 := Lib.hid (HB1.out.trans (hb.mono HB1.out.size))
  clear hW2 hb HB1
  go_loopw [4] (fun i wr => ∃ (k : Nat) (cs : List ObjD) (v : Value), k ≤ os.length ∧ i = .int .i64 (k : Int) ∧ Turned (fun b => b = W1.heap.size) W2 wr ∧ Gv W1.heap.size W2.heap.size wr cs v ∧ cs.map ObjD.kv = ((os.take k).map ObjD.kv)) (fun i _ => os.length - (intOf i).toNat)
  case atStart => exact ⟨0, [], _, Nat.zero_le _, rfl, Turned.refl _ _, G0, by simp⟩
  case round =>
    obtain ⟨k, cs, v, hk, rfl, hT, hG, hkv⟩ := hrel
    have c0 := (hT.cell (p := ⟨w.heap.size, 0, none⟩) (show w.heap.size < W2.heap.size by omega) (show ¬ (w.heap.size = W1.heap.size) by omega)).trans c0
    have hsz : W2.heap.size ≤ wr.heap.size := hT.size
    have hBw : Below w.heap.size w wr := HB2.out.trans (hT.below (fun b e => by omega) HB2.out.size)
    have HBw := Lib.hid hBw
    have HT := Lib.hid hT
    have HG := Lib.hid hG
    have HK := Lib.hid hkv
    clear hBw hT hG hkv
    by_cases hlt : k < os.length
    · rcases HV.out.below HBw.out with hnil | ⟨b1, o1, rfl, hb1, hc1⟩
      · rw [hnil] at hlt; simp at hlt
      have hbw : b1 < w.heap.size := by
        rcases HV.out with hnil | ⟨b2, o2, e2, hb2, _⟩
        · rw [hnil] at hlt; simp at hlt
        · injection e2 with e2; injection e2 with e2 _; rw [e2]; exact hb2
      obtain ⟨d0, d1, d2⟩ := hc1 k hlt
      have HX := Lib.hid d2
      clear hc1 d2
      have q1 : (0 : Int) ≤ (k : Int) := by omega
      have q2 : (k : Int) < (os.length : Int) := by omega
      obtain ⟨V, rfl⟩ : ∃ V, V = wr := ⟨_, rfl⟩
      skip
      have hx := HG.out.box.cell
      have hfx := HG.out.box.frozen
      have hne := HG.out.ne
      have hxl := HG.out.box.lt
      have nc : some w.heap.size ≠ v.ownBlock := own_neV HG.out.own (.inl (by omega))
      have nd : some b1 ≠ v.ownBlock := own_neV HG.out.own (.inl (by omega))
      have hcl : cs.length ≤ k := by have := congrArg List.length HK.out; simp at this; omega
      have hol : os[k].vers.length ≤ 1048576 := HL.out _ (List.getElem_mem hlt)
      have hop : os[k].plain := HP.out _ (List.getElem_mem hlt)
      have q : V.drew.cell? ⟨w.heap.size, 0, none⟩ = some (.slice (some ⟨b1, o1, none⟩) os.length cap) ∧ V.drew.cell? ⟨b1, o1 + k * 2, none⟩ = some (.string os[k].key) ∧ V.drew.cell? ⟨b1, o1 + k * 2 + 1, none⟩ = some (.slice os[k].at_ os[k].vers.length os[k].cap) ∧ w.heap.size < V.drew.heap.size ∧ b1 < V.drew.heap.size := ⟨c0, d0, d1, (by show w.heap.size < V.heap.size; omega), hb1⟩
      have HO := Lib.hid HG.out.own
      have hxA : (V.alloc (.cells #[] 27)).drew.cell? ⟨W1.heap.size, 0, none⟩ = some v := (HG.out.box.alloc _).cell
      have mc : w.heap.size ≠ W1.heap.size := by omega
      have md : b1 ≠ W1.heap.size := by omega
      have q0 : V.cell? ⟨w.heap.size, 0, none⟩ = some (.slice (some ⟨b1, o1, none⟩) os.length cap) ∧ V.cell? ⟨b1, o1 + k * 2, none⟩ = some (.string os[k].key) ∧ V.cell? ⟨b1, o1 + k * 2 + 1, none⟩ = some (.slice os[k].at_ os[k].vers.length os[k].cap) ∧ w.heap.size < V.heap.size ∧ b1 < V.heap.size := q
      have HOP := Lib.hid hop
      have hzz : W2.heap.size ≤ V.heap.size := hsz
      clear hop
      go_wp2_with fail
      clear c0 d0 d1
      refine wp_region_held_drew (S := (fun u => u.cell? ⟨w.heap.size, 0, none⟩ = some (.slice (some ⟨b1, o1, none⟩) os.length cap) ∧ u.cell? ⟨b1, o1 + k * 2, none⟩ = some (.string os[k].key) ∧ u.cell? ⟨b1, o1 + k * 2 + 1, none⟩ = some (.slice os[k].at_ os[k].vers.length os[k].cap) ∧ w.heap.size < u.heap.size ∧ b1 < u.heap.size)) (by kernel_rfl) q (fun hH0 => ?_)
      refine wpAnyH_take (i := 0) (oi := { dst := some 13, op := Go.Op.fieldAddr 25 (Go.Operand.tmp 3) 0, type := 0, pos := "l2_ver.go:32", after := #[], guard := none }) (v := ?v1) rfl (by kernel_rfl) (by kernel_rfl) (by kernel_rfl) (fun _ _ _ h => h) (Or.inl ⟨by rfl, ?y1⟩) hH0 ?r1
      case y1 => (intro w hSw; (try dsimp only at hSw); go_simp; (try with_reducible rfl))
      (try simp only [Act.put, List.setIfInBounds_toArray, List.set_cons_zero, List.set_cons_succ])
      refine wpAnyH_take (i := 2) (oi := { dst := some 15, op := Go.Op.fieldAddr 25 (Go.Operand.tmp 1) 0, type := 0, pos := "l2_ver.go:32", after := #[], guard := none }) (v := ?v2) rfl (by kernel_rfl) (by kernel_rfl) (by kernel_rfl) (fun _ _ _ h => h) (Or.inl ⟨by rfl, ?y2⟩) hH0 ?r2
      case y2 => (intro w hSw; (try dsimp only at hSw); go_simp; (try with_reducible rfl))
      (try simp only [Act.put, List.setIfInBounds_toArray, List.set_cons_zero, List.set_cons_succ])
      refine wpAnyH_take (i := 3) (oi := { dst := some 16, op := Go.Op.load 23 (Go.Operand.tmp 15), type := 23, pos := "l2_ver.go:32", after := #[{ on := 2, ground := Go.Ground.data }], guard := none }) (v := ?v3) rfl (by kernel_rfl) (by kernel_rfl) (by kernel_rfl) (fun _ _ _ h => h) (Or.inl ⟨by rfl, ?y3⟩) hH0 ?r3
      case y3 => (intro w hSw; (try dsimp only at hSw); go_simp; (try with_reducible rfl))
      (try simp only [Act.put, List.setIfInBounds_toArray, List.set_cons_zero, List.set_cons_succ])
      refine wpAnyH_take (i := 4) (oi := { dst := some 17, op := Go.Op.move (Go.Operand.tmp 4), type := 3, pos := "l2_ver.go:32", after := #[], guard := none }) (v := ?v4) rfl (by kernel_rfl) (by kernel_rfl) (by kernel_rfl) (fun _ _ _ h => h) (Or.inl ⟨by rfl, ?y4⟩) hH0 ?r4
      case y4 => (intro w hSw; (try dsimp only at hSw); go_simp; (try with_reducible rfl))
      (try simp only [Act.put, List.setIfInBounds_toArray, List.set_cons_zero, List.set_cons_succ])
      refine wpAnyH_take (i := 5) (oi := { dst := some 18, op := Go.Op.indexAddr 23 (Go.Operand.tmp 16) (Go.Operand.tmp 17), type := 0, pos := "l2_ver.go:32", after := #[{ on := 3, ground := Go.Ground.data }, { on := 4, ground := Go.Ground.data }], guard := none }) (v := ?v5) rfl (by kernel_rfl) (by kernel_rfl) (by kernel_rfl) (fun _ _ _ h => h) (Or.inl ⟨by rfl, ?y5⟩) hH0 ?r5
      case y5 => (intro w hSw; (try dsimp only at hSw); go_simp; (try with_reducible rfl))
      (try simp only [Act.put, List.setIfInBounds_toArray, List.set_cons_zero, List.set_cons_succ])
      refine wpAnyH_take (i := 6) (oi := { dst := some 19, op := Go.Op.fieldAddr 45 (Go.Operand.tmp 18) 0, type := 0, pos := "l2_ver.go:32", after := #[{ on := 5, ground := Go.Ground.data }], guard := none }) (v := ?v6) rfl (by kernel_rfl) (by kernel_rfl) (by kernel_rfl) (fun _ _ _ h => h) (Or.inl ⟨by rfl, ?y6⟩) hH0 ?r6
      case y6 => (intro w hSw; (try dsimp only at hSw); go_simp; (try with_reducible rfl))
      (try simp only [Act.put, List.setIfInBounds_toArray, List.set_cons_zero, List.set_cons_succ])
      refine wpAnyH_take (i := 7) (oi := { dst := some 20, op := Go.Op.load 9 (Go.Operand.tmp 19), type := 9, pos := "l2_ver.go:32", after := #[{ on := 6, ground := Go.Ground.data }], guard := none }) (v := ?v7) rfl (by kernel_rfl) (by kernel_rfl) (by kernel_rfl) (fun _ _ _ h => h) (Or.inl ⟨by rfl, ?y7⟩) hH0 ?r7
      case y7 => (intro w hSw; (try dsimp only at hSw); go_simp; (try with_reducible rfl))
      (try simp only [Act.put, List.setIfInBounds_toArray, List.set_cons_zero, List.set_cons_succ])
      refine wpAnyH_take (i := 9) (oi := { dst := some 22, op := Go.Op.fieldAddr 25 (Go.Operand.tmp 1) 0, type := 0, pos := "l2_ver.go:32", after := #[], guard := none }) (v := ?v8) rfl (by kernel_rfl) (by kernel_rfl) (by kernel_rfl) (fun _ _ _ h => h) (Or.inl ⟨by rfl, ?y8⟩) hH0 ?r8
      case y8 => (intro w hSw; (try dsimp only at hSw); go_simp; (try with_reducible rfl))
      (try simp only [Act.put, List.setIfInBounds_toArray, List.set_cons_zero, List.set_cons_succ])
      refine wpAnyH_take (i := 10) (oi := { dst := some 23, op := Go.Op.load 23 (Go.Operand.tmp 22), type := 23, pos := "l2_ver.go:32", after := #[{ on := 9, ground := Go.Ground.data }], guard := none }) (v := ?v9) rfl (by kernel_rfl) (by kernel_rfl) (by kernel_rfl) (fun _ _ _ h => h) (Or.inl ⟨by rfl, ?y9⟩) hH0 ?r9
      case y9 => (intro w hSw; (try dsimp only at hSw); go_simp; (try with_reducible rfl))
      (try simp only [Act.put, List.setIfInBounds_toArray, List.set_cons_zero, List.set_cons_succ])
      refine wpAnyH_take (i := 11) (oi := { dst := some 24, op := Go.Op.move (Go.Operand.tmp 4), type := 3, pos := "l2_ver.go:32", after := #[], guard := none }) (v := ?v10) rfl (by kernel_rfl) (by kernel_rfl) (by kernel_rfl) (fun _ _ _ h => h) (Or.inl ⟨by rfl, ?y10⟩) hH0 ?r10
      case y10 => (intro w hSw; (try dsimp only at hSw); go_simp; (try with_reducible rfl))
      (try simp only [Act.put, List.setIfInBounds_toArray, List.set_cons_zero, List.set_cons_succ])
      refine wpAnyH_take (i := 12) (oi := { dst := some 25, op := Go.Op.indexAddr 23 (Go.Operand.tmp 23) (Go.Operand.tmp 24), type := 0, pos := "l2_ver.go:32", after := #[{ on := 10, ground := Go.Ground.data }, { on := 11, ground := Go.Ground.data }], guard := none }) (v := ?v11) rfl (by kernel_rfl) (by kernel_rfl) (by kernel_rfl) (fun _ _ _ h => h) (Or.inl ⟨by rfl, ?y11⟩) hH0 ?r11
      case y11 => (intro w hSw; (try dsimp only at hSw); go_simp; (try with_reducible rfl))
      (try simp only [Act.put, List.setIfInBounds_toArray, List.set_cons_zero, List.set_cons_succ])
      refine wpAnyH_take (i := 13) (oi := { dst := some 26, op := Go.Op.fieldAddr 45 (Go.Operand.tmp 25) 1, type := 0, pos := "l2_ver.go:32", after := #[{ on := 12, ground := Go.Ground.data }], guard := none }) (v := ?v12) rfl (by kernel_rfl) (by kernel_rfl) (by kernel_rfl) (fun _ _ _ h => h) (Or.inl ⟨by rfl, ?y12⟩) hH0 ?r12
      case y12 => (intro w hSw; (try dsimp only at hSw); go_simp; (try with_reducible rfl))
      (try simp only [Act.put, List.setIfInBounds_toArray, List.set_cons_zero, List.set_cons_succ])
      refine wpAnyH_take (i := 14) (oi := { dst := some 27, op := Go.Op.load 43 (Go.Operand.tmp 26), type := 43, pos := "l2_ver.go:32", after := #[{ on := 13, ground := Go.Ground.data }], guard := none }) (v := ?v13) rfl (by kernel_rfl) (by kernel_rfl) (by kernel_rfl) (fun _ _ _ h => h) (Or.inl ⟨by rfl, ?y13⟩) hH0 ?r13
      case y13 => (intro w hSw; (try dsimp only at hSw); go_simp; (try with_reducible rfl))
      (try simp only [Act.put, List.setIfInBounds_toArray, List.set_cons_zero, List.set_cons_succ])
      refine wpAnyH_ready (rs := [1, 8]) (by kernel_rfl) (by simp) ?_
      refine AllReadyH.cons (o := { dst := some 14, op := Go.Op.load 23 (Go.Operand.tmp 13), type := 23, pos := "l2_ver.go:32", after := #[{ on := 0, ground := Go.Ground.data }], guard := none }) rfl (fun K hK => ?s15) ?m15
      case s15 =>
        go_simp
        refine hK.out _ _ ?h15 (fun hH15 => ?g15)
        case h15 => ((try dsimp only); (first | with_reducible exact q | with_reducible exact keepV2_allocD q | with_reducible exact keepV2_alloc q | with_reducible exact keepV2_set mc md q | fail))
        clear hK K hH0
        (try simp only [Act.put, List.setIfInBounds_toArray, List.set_cons_zero, List.set_cons_succ])
        refine wpAnyH_ready (rs := [8]) (by kernel_rfl) (by simp) ?_
        refine AllReadyH.cons (o := { dst := some 21, op := Go.Op.buildSlice 43 0 #[], type := 43, pos := "l2_ver.go:32", after := #[], guard := none }) rfl (fun K hK => ?s17) ?m17
        case s17 =>
          go_simp
          refine hK.out _ _ ?h17 (fun hH17 => ?g17)
          case h17 => ((try dsimp only); (first | with_reducible exact q | with_reducible exact keepV2_allocD q | with_reducible exact keepV2_alloc q | with_reducible exact keepV2_set mc md q | fail))
          clear hK K hH15
          (try simp only [Act.put, List.setIfInBounds_toArray, List.set_cons_zero, List.set_cons_succ])
          refine wpAnyH_ready (rs := [15]) (by kernel_rfl) (by simp) ?_
          refine AllReadyH.cons (o := { dst := some 28, op := Go.Op.call { callee := Go.Callee.builtin Go.Builtin.append, args := #[Go.Operand.tmp 21, Go.Operand.tmp 27], argTypes := #[43, 43] }, type := 43, pos := "l2_ver.go:32", after := #[{ on := 8, ground := Go.Ground.data }, { on := 14, ground := Go.Ground.data }], guard := none }) rfl (fun K hK => ?s19) ?m19
          case s19 =>
            (refine step_append_ver (by rfl) _ _ 43 (by rfl) Try.underlying43 V.heap.size (.slice (some ⟨V.heap.size, 0, none⟩) 0 0) 0 [] (by rfl) (emptyVers (heap_alloc_new _ _) (Nat.le_refl _)) os[k].at_ os[k].vers os[k].cap (by rfl) HOP.out.1 (HX.out.below (((Below.refl _ _).alloc (Nat.le_refl _) _).drew)) (by omega) (by simp) (by simp) ?_; intro g cp wC hown hgrow; have hbC := below_appD hgrow; have q := keepV2 hbC q0; have hbxC := HG.out.box.kept (grown_of_belowV hbC) (by simp); have hxC := hbxC.cell; have hxT := fun o => (hbxC.alloc o).cell; have HI := Lib.hid hown; have HO := Lib.hid (Go.Proofs.Ytjijichgoodocaa.ownsRow_of_below HO.out hbC); have hzz := Nat.le_trans hzz hbC.size; have HC := Lib.hid hbC; clear hown hgrow hbC)
            refine hK.out _ _ ?h19 (fun hH19 => ?g19)
            case h19 => ((try dsimp only); (first | with_reducible exact q | with_reducible exact keepV2_allocD q | with_reducible exact keepV2_alloc q | with_reducible exact keepV2_set mc md q | fail))
            clear hK K hH17
            (try simp only [Act.put, List.setIfInBounds_toArray, List.set_cons_zero, List.set_cons_succ])
            refine wpAnyH_take (i := 16) (oi := { dst := some 29, op := Go.Op.build 45 #[(0, Go.Operand.tmp 20), (1, Go.Operand.tmp 28)], type := 45, pos := "l2_ver.go:32", after := #[{ on := 7, ground := Go.Ground.data }, { on := 15, ground := Go.Ground.data }], guard := none }) (v := ?v20) rfl (by kernel_rfl) (by kernel_rfl) (by kernel_rfl) (fun _ _ _ h => h) (Or.inl ⟨by rfl, ?y20⟩) hH19 ?r20
            case y20 => (intro w hSw; (try dsimp only at hSw); go_simp; (try with_reducible rfl))
            (try simp only [Act.put, List.setIfInBounds_toArray, List.set_cons_zero, List.set_cons_succ])
            refine wpAnyH_ready (rs := [17]) (by kernel_rfl) (by simp) ?_
            refine AllReadyH.cons (o := { dst := some 30, op := Go.Op.buildSlice 23 1 #[(0, Go.Operand.tmp 29)], type := 23, pos := "l2_ver.go:32", after := #[{ on := 16, ground := Go.Ground.data }], guard := none }) rfl (fun K hK => ?s22) ?m22
            case s22 =>
              go_simp
              refine hK.out _ _ ?h22 (fun hH22 => ?g22)
              case h22 => ((try dsimp only); (first | with_reducible exact q | with_reducible exact keepV2_allocD q | with_reducible exact keepV2_alloc q | with_reducible exact keepV2_set mc md q | fail))
              clear hK K hH19
              (try simp only [Act.put, List.setIfInBounds_toArray, List.set_cons_zero, List.set_cons_succ])
              refine wpAnyH_ready (rs := [18]) (by kernel_rfl) (by simp) ?_
              refine AllReadyH.cons (o := { dst := some 31, op := Go.Op.call { callee := Go.Callee.builtin Go.Builtin.append, args := #[Go.Operand.tmp 14, Go.Operand.tmp 30], argTypes := #[23, 23] }, type := 23, pos := "l2_ver.go:32", after := #[{ on := 1, ground := Go.Ground.data }, { on := 17, ground := Go.Ground.data }, { on := 15, ground := Go.Ground.chain }], guard := none }) rfl (fun K hK => ?s24) ?m24
              case s24 =>
                (refine step_append_lies _ (by rfl) _ _ 23 (by rfl) W2.heap.size 45 i0 (.agg #[.string ⟨#[]⟩, .slice none 0 0]) 2 40 Try.underlying23 hi0 hz0 hz1 hz2 rfl (by omega) v cs.length (cs.flatMap objCells) (by rfl) (HO.out.alloc _) ⟨wC.heap.size, 0, none⟩ 1 1 [.string os[k].key, .slice (some ⟨g, 0, none⟩) os[k].vers.length cp] (by rfl) (by rfl) (World.news_of_block (heap_alloc_new wC _)) (fun u hu => (by simp at hu; rcases hu with rfl | rfl <;> rfl)) (by omega) (by unfold maxLen; omega) (by omega) (by simp; omega) _ rfl ?_; intro gg cq wD hown hgrow hat hlt2; have q := keepV2_far hgrow nc nd (keepV2_alloc q); have hbxD := (hbxC.alloc _).kept hgrow hne; have hxD := hbxD.cell; have hfD := hbxD.frozen; have X := Lib.hid (And.intro hown hgrow); clear hown hgrow hat hlt2)
                refine hK.out _ _ ?h24 (fun hH24 => ?g24)
                case h24 => ((try dsimp only); (first | with_reducible exact q | with_reducible exact keepV2_allocD q | with_reducible exact keepV2_alloc q | with_reducible exact keepV2_set mc md q | fail))
                clear hK K hH22
                (try simp only [Act.put, List.setIfInBounds_toArray, List.set_cons_zero, List.set_cons_succ])
                refine wpAnyH_take (i := 19) (oi := { dst := some 32, op := Go.Op.fieldAddr 25 (Go.Operand.tmp 3) 0, type := 0, pos := "l2_ver.go:32", after := #[{ on := 0, ground := Go.Ground.phase }, { on := 1, ground := Go.Ground.phase }, { on := 2, ground := Go.Ground.phase }, { on := 3, ground := Go.Ground.phase }, { on := 4, ground := Go.Ground.phase }, { on := 5, ground := Go.Ground.phase }, { on := 6, ground := Go.Ground.phase }, { on := 7, ground := Go.Ground.phase }, { on := 8, ground := Go.Ground.phase }, { on := 9, ground := Go.Ground.phase }, { on := 10, ground := Go.Ground.phase }, { on := 11, ground := Go.Ground.phase }, { on := 12, ground := Go.Ground.phase }, { on := 13, ground := Go.Ground.phase }, { on := 14, ground := Go.Ground.phase }, { on := 15, ground := Go.Ground.phase }, { on := 16, ground := Go.Ground.phase }, { on := 17, ground := Go.Ground.phase }, { on := 18, ground := Go.Ground.phase }], guard := none }) (v := ?v25) rfl (by kernel_rfl) (by kernel_rfl) (by kernel_rfl) (fun _ _ _ h => h) (Or.inl ⟨by rfl, ?y25⟩) hH24 ?r25
                case y25 => (intro w hSw; (try dsimp only at hSw); go_simp; (try with_reducible rfl))
                (try simp only [Act.put, List.setIfInBounds_toArray, List.set_cons_zero, List.set_cons_succ])
                refine wpAnyH_ready (rs := [20]) (by kernel_rfl) (by simp) ?_
                refine AllReadyH.cons (o := { dst := none, op := Go.Op.store 23 (Go.Operand.tmp 32) (Go.Operand.tmp 31), type := 0, pos := "l2_ver.go:32", after := #[{ on := 19, ground := Go.Ground.data }, { on := 18, ground := Go.Ground.data }, { on := 18, ground := Go.Ground.chain }, { on := 0, ground := Go.Ground.phase }, { on := 1, ground := Go.Ground.phase }, { on := 2, ground := Go.Ground.phase }, { on := 3, ground := Go.Ground.phase }, { on := 4, ground := Go.Ground.phase }, { on := 5, ground := Go.Ground.phase }, { on := 6, ground := Go.Ground.phase }, { on := 7, ground := Go.Ground.phase }, { on := 8, ground := Go.Ground.phase }, { on := 9, ground := Go.Ground.phase }, { on := 10, ground := Go.Ground.phase }, { on := 11, ground := Go.Ground.phase }, { on := 12, ground := Go.Ground.phase }, { on := 13, ground := Go.Ground.phase }, { on := 14, ground := Go.Ground.phase }, { on := 15, ground := Go.Ground.phase }, { on := 16, ground := Go.Ground.phase }, { on := 17, ground := Go.Ground.phase }, { on := 18, ground := Go.Ground.phase }], guard := none }) rfl (fun K hK => ?s27) ?m27
                case s27 =>
                  go_simp
                  refine hK.out _ _ ?h27 (fun hH27 => ?g27)
                  case h27 => ((try dsimp only); (first | with_reducible exact q | with_reducible exact keepV2_allocD q | with_reducible exact keepV2_alloc q | with_reducible exact keepV2_set mc md q | fail))
                  clear hK K hH24
                  (try simp only [Act.put, List.setIfInBounds_toArray, List.set_cons_zero, List.set_cons_succ])
                  refine wpAnyH_done (by kernel_rfl) ?_ _
                  clear hH27
                  obtain ⟨hown, hgrow⟩ := X.out
                  have hI := HI.out
                  simp only [Nat.zero_add, List.nil_append] at hI hown hgrow
                  obtain ⟨pa, pc, pe, p1, p2, p3, p4, p5⟩ := own_versH hI
                  injection pe with pe1 pe2 pe3
                  subst pe1 pe3
                  have HPush := Gv.push (o := ⟨os[k].key, some ⟨g, 0, none⟩, cp, os[k].vers⟩) HG.out HC.out hsz p1 p2 p3 p4 p5 hown hgrow
                  obtain ⟨hbx, hG2⟩ := HPush
                  have y0 := hbx.cell
                  have yf := hbx.frozen
                  have hTD := Lib.hid ((turned_grown (HT.out.trans (Turned.of_below (HC.out.alloc HC.out.size _))) hgrow (fun j hj => (HO.out.lt j hj).1)).setCell (p := ⟨W1.heap.size, 0, none⟩) rfl (.slice (some ⟨gg, 0, none⟩) (cs.length + 1) cq))
                  have hG2 := Lib.hid hG2
                  clear hown hgrow hI p1 p2 p3 p4 p5 hbx X HI
                  go_wp2_with fail
                  go_roundw
                  case rel => exact ⟨k + 1, cs ++ [⟨os[k].key, some ⟨g, 0, none⟩, cp, os[k].vers⟩], _, by omega, by go_num, hTD.out, hG2.out, by rw [List.map_append, HK.out, List.take_succ_eq_append_getElem hlt, List.map_append]; simp [ObjD.kv]⟩
                  case measure => simp [intOf]; omega
                exact AllReadyH.nil
              exact AllReadyH.nil
            exact AllReadyH.nil
          exact AllReadyH.nil
        exact AllReadyH.nil
      refine AllReadyH.cons (o := { dst := some 21, op := Go.Op.buildSlice 43 0 #[], type := 43, pos := "l2_ver.go:32", after := #[], guard := none }) rfl (fun K hK => ?s28) ?m28
      case s28 =>
        go_simp
        refine hK.out _ _ ?h28 (fun hH28 => ?g28)
        case h28 => ((try dsimp only); (first | with_reducible exact q | with_reducible exact keepV2_allocD q | with_reducible exact keepV2_alloc q | with_reducible exact keepV2_set mc md q | fail))
        clear hK K hH0
        (try simp only [Act.put, List.setIfInBounds_toArray, List.set_cons_zero, List.set_cons_succ])
        refine wpAnyH_ready (rs := [1, 15]) (by kernel_rfl) (by simp) ?_
        refine AllReadyH.cons (o := { dst := some 14, op := Go.Op.load 23 (Go.Operand.tmp 13), type := 23, pos := "l2_ver.go:32", after := #[{ on := 0, ground := Go.Ground.data }], guard := none }) rfl (fun K hK => ?s30) ?m30
        case s30 =>
          go_simp
          refine hK.out _ _ ?h30 (fun hH30 => ?g30)
          case h30 => ((try dsimp only); (first | with_reducible exact q | with_reducible exact keepV2_allocD q | with_reducible exact keepV2_alloc q | with_reducible exact keepV2_set mc md q | fail))
          clear hK K hH28
          (try simp only [Act.put, List.setIfInBounds_toArray, List.set_cons_zero, List.set_cons_succ])
          refine wpAnyH_ready (rs := [15]) (by kernel_rfl) (by simp) ?_
          refine AllReadyH.cons (o := { dst := some 28, op := Go.Op.call { callee := Go.Callee.builtin Go.Builtin.append, args := #[Go.Operand.tmp 21, Go.Operand.tmp 27], argTypes := #[43, 43] }, type := 43, pos := "l2_ver.go:32", after := #[{ on := 8, ground := Go.Ground.data }, { on := 14, ground := Go.Ground.data }], guard := none }) rfl (fun K hK => ?s32) ?m32
          case s32 =>
            (refine step_append_ver (by rfl) _ _ 43 (by rfl) Try.underlying43 V.heap.size (.slice (some ⟨V.heap.size, 0, none⟩) 0 0) 0 [] (by rfl) (emptyVers (heap_alloc_new _ _) (Nat.le_refl _)) os[k].at_ os[k].vers os[k].cap (by rfl) HOP.out.1 (HX.out.below (((Below.refl _ _).alloc (Nat.le_refl _) _).drew)) (by omega) (by simp) (by simp) ?_; intro g cp wC hown hgrow; have hbC := below_appD hgrow; have q := keepV2 hbC q0; have hbxC := HG.out.box.kept (grown_of_belowV hbC) (by simp); have hxC := hbxC.cell; have hxT := fun o => (hbxC.alloc o).cell; have HI := Lib.hid hown; have HO := Lib.hid (Go.Proofs.Ytjijichgoodocaa.ownsRow_of_below HO.out hbC); have hzz := Nat.le_trans hzz hbC.size; have HC := Lib.hid hbC; clear hown hgrow hbC)
            refine hK.out _ _ ?h32 (fun hH32 => ?g32)
            case h32 => ((try dsimp only); (first | with_reducible exact q | with_reducible exact keepV2_allocD q | with_reducible exact keepV2_alloc q | with_reducible exact keepV2_set mc md q | fail))
            clear hK K hH30
            (try simp only [Act.put, List.setIfInBounds_toArray, List.set_cons_zero, List.set_cons_succ])
            refine wpAnyH_take (i := 16) (oi := { dst := some 29, op := Go.Op.build 45 #[(0, Go.Operand.tmp 20), (1, Go.Operand.tmp 28)], type := 45, pos := "l2_ver.go:32", after := #[{ on := 7, ground := Go.Ground.data }, { on := 15, ground := Go.Ground.data }], guard := none }) (v := ?v33) rfl (by kernel_rfl) (by kernel_rfl) (by kernel_rfl) (fun _ _ _ h => h) (Or.inl ⟨by rfl, ?y33⟩) hH32 ?r33
            case y33 => (intro w hSw; (try dsimp only at hSw); go_simp; (try with_reducible rfl))
            (try simp only [Act.put, List.setIfInBounds_toArray, List.set_cons_zero, List.set_cons_succ])
            refine wpAnyH_ready (rs := [17]) (by kernel_rfl) (by simp) ?_
            refine AllReadyH.cons (o := { dst := some 30, op := Go.Op.buildSlice 23 1 #[(0, Go.Operand.tmp 29)], type := 23, pos := "l2_ver.go:32", after := #[{ on := 16, ground := Go.Ground.data }], guard := none }) rfl (fun K hK => ?s35) ?m35
            case s35 =>
              go_simp
              refine hK.out _ _ ?h35 (fun hH35 => ?g35)
              case h35 => ((try dsimp only); (first | with_reducible exact q | with_reducible exact keepV2_allocD q | with_reducible exact keepV2_alloc q | with_reducible exact keepV2_set mc md q | fail))
              clear hK K hH32
              (try simp only [Act.put, List.setIfInBounds_toArray, List.set_cons_zero, List.set_cons_succ])
              refine wpAnyH_ready (rs := [18]) (by kernel_rfl) (by simp) ?_
              refine AllReadyH.cons (o := { dst := some 31, op := Go.Op.call { callee := Go.Callee.builtin Go.Builtin.append, args := #[Go.Operand.tmp 14, Go.Operand.tmp 30], argTypes := #[23, 23] }, type := 23, pos := "l2_ver.go:32", after := #[{ on := 1, ground := Go.Ground.data }, { on := 17, ground := Go.Ground.data }, { on := 15, ground := Go.Ground.chain }], guard := none }) rfl (fun K hK => ?s37) ?m37
              case s37 =>
                (refine step_append_lies _ (by rfl) _ _ 23 (by rfl) W2.heap.size 45 i0 (.agg #[.string ⟨#[]⟩, .slice none 0 0]) 2 40 Try.underlying23 hi0 hz0 hz1 hz2 rfl (by omega) v cs.length (cs.flatMap objCells) (by rfl) (HO.out.alloc _) ⟨wC.heap.size, 0, none⟩ 1 1 [.string os[k].key, .slice (some ⟨g, 0, none⟩) os[k].vers.length cp] (by rfl) (by rfl) (World.news_of_block (heap_alloc_new wC _)) (fun u hu => (by simp at hu; rcases hu with rfl | rfl <;> rfl)) (by omega) (by unfold maxLen; omega) (by omega) (by simp; omega) _ rfl ?_; intro gg cq wD hown hgrow hat hlt2; have q := keepV2_far hgrow nc nd (keepV2_alloc q); have hbxD := (hbxC.alloc _).kept hgrow hne; have hxD := hbxD.cell; have hfD := hbxD.frozen; have X := Lib.hid (And.intro hown hgrow); clear hown hgrow hat hlt2)
                refine hK.out _ _ ?h37 (fun hH37 => ?g37)
                case h37 => ((try dsimp only); (first | with_reducible exact q | with_reducible exact keepV2_allocD q | with_reducible exact keepV2_alloc q | with_reducible exact keepV2_set mc md q | fail))
                clear hK K hH35
                (try simp only [Act.put, List.setIfInBounds_toArray, List.set_cons_zero, List.set_cons_succ])
                refine wpAnyH_take (i := 19) (oi := { dst := some 32, op := Go.Op.fieldAddr 25 (Go.Operand.tmp 3) 0, type := 0, pos := "l2_ver.go:32", after := #[{ on := 0, ground := Go.Ground.phase }, { on := 1, ground := Go.Ground.phase }, { on := 2, ground := Go.Ground.phase }, { on := 3, ground := Go.Ground.phase }, { on := 4, ground := Go.Ground.phase }, { on := 5, ground := Go.Ground.phase }, { on := 6, ground := Go.Ground.phase }, { on := 7, ground := Go.Ground.phase }, { on := 8, ground := Go.Ground.phase }, { on := 9, ground := Go.Ground.phase }, { on := 10, ground := Go.Ground.phase }, { on := 11, ground := Go.Ground.phase }, { on := 12, ground := Go.Ground.phase }, { on := 13, ground := Go.Ground.phase }, { on := 14, ground := Go.Ground.phase }, { on := 15, ground := Go.Ground.phase }, { on := 16, ground := Go.Ground.phase }, { on := 17, ground := Go.Ground.phase }, { on := 18, ground := Go.Ground.phase }], guard := none }) (v := ?v38) rfl (by kernel_rfl) (by kernel_rfl) (by kernel_rfl) (fun _ _ _ h => h) (Or.inl ⟨by rfl, ?y38⟩) hH37 ?r38
                case y38 => (intro w hSw; (try dsimp only at hSw); go_simp; (try with_reducible rfl))
                (try simp only [Act.put, List.setIfInBounds_toArray, List.set_cons_zero, List.set_cons_succ])
                refine wpAnyH_ready (rs := [20]) (by kernel_rfl) (by simp) ?_
                refine AllReadyH.cons (o := { dst := none, op := Go.Op.store 23 (Go.Operand.tmp 32) (Go.Operand.tmp 31), type := 0, pos := "l2_ver.go:32", after := #[{ on := 19, ground := Go.Ground.data }, { on := 18, ground := Go.Ground.data }, { on := 18, ground := Go.Ground.chain }, { on := 0, ground := Go.Ground.phase }, { on := 1, ground := Go.Ground.phase }, { on := 2, ground := Go.Ground.phase }, { on := 3, ground := Go.Ground.phase }, { on := 4, ground := Go.Ground.phase }, { on := 5, ground := Go.Ground.phase }, { on := 6, ground := Go.Ground.phase }, { on := 7, ground := Go.Ground.phase }, { on := 8, ground := Go.Ground.phase }, { on := 9, ground := Go.Ground.phase }, { on := 10, ground := Go.Ground.phase }, { on := 11, ground := Go.Ground.phase }, { on := 12, ground := Go.Ground.phase }, { on := 13, ground := Go.Ground.phase }, { on := 14, ground := Go.Ground.phase }, { on := 15, ground := Go.Ground.phase }, { on := 16, ground := Go.Ground.phase }, { on := 17, ground := Go.Ground.phase }, { on := 18, ground := Go.Ground.phase }], guard := none }) rfl (fun K hK => ?s40) ?m40
                case s40 =>
                  go_simp
                  refine hK.out _ _ ?h40 (fun hH40 => ?g40)
                  case h40 => ((try dsimp only); (first | with_reducible exact q | with_reducible exact keepV2_allocD q | with_reducible exact keepV2_alloc q | with_reducible exact keepV2_set mc md q | fail))
                  clear hK K hH37
                  (try simp only [Act.put, List.setIfInBounds_toArray, List.set_cons_zero, List.set_cons_succ])
                  refine wpAnyH_done (by kernel_rfl) ?_ _
                  clear hH40
                  obtain ⟨hown, hgrow⟩ := X.out
                  have hI := HI.out
                  simp only [Nat.zero_add, List.nil_append] at hI hown hgrow
                  obtain ⟨pa, pc, pe, p1, p2, p3, p4, p5⟩ := own_versH hI
                  injection pe with pe1 pe2 pe3
                  subst pe1 pe3
                  have HPush := Gv.push (o := ⟨os[k].key, some ⟨g, 0, none⟩, cp, os[k].vers⟩) HG.out HC.out hsz p1 p2 p3 p4 p5 hown hgrow
                  obtain ⟨hbx, hG2⟩ := HPush
                  have y0 := hbx.cell
                  have yf := hbx.frozen
                  have hTD := Lib.hid ((turned_grown (HT.out.trans (Turned.of_below (HC.out.alloc HC.out.size _))) hgrow (fun j hj => (HO.out.lt j hj).1)).setCell (p := ⟨W1.heap.size, 0, none⟩) rfl (.slice (some ⟨gg, 0, none⟩) (cs.length + 1) cq))
                  have hG2 := Lib.hid hG2
                  clear hown hgrow hI p1 p2 p3 p4 p5 hbx X HI
                  go_wp2_with fail
                  go_roundw
                  case rel => exact ⟨k + 1, cs ++ [⟨os[k].key, some ⟨g, 0, none⟩, cp, os[k].vers⟩], _, by omega, by go_num, hTD.out, hG2.out, by rw [List.map_append, HK.out, List.take_succ_eq_append_getElem hlt, List.map_append]; simp [ObjD.kv]⟩
                  case measure => simp [intOf]; omega
                exact AllReadyH.nil
              exact AllReadyH.nil
            exact AllReadyH.nil
          exact AllReadyH.nil
        refine AllReadyH.cons (o := { dst := some 28, op := Go.Op.call { callee := Go.Callee.builtin Go.Builtin.append, args := #[Go.Operand.tmp 21, Go.Operand.tmp 27], argTypes := #[43, 43] }, type := 43, pos := "l2_ver.go:32", after := #[{ on := 8, ground := Go.Ground.data }, { on := 14, ground := Go.Ground.data }], guard := none }) rfl (fun K hK => ?s41) ?m41
        case s41 =>
          (refine step_append_ver (by rfl) _ _ 43 (by rfl) Try.underlying43 V.heap.size (.slice (some ⟨V.heap.size, 0, none⟩) 0 0) 0 [] (by rfl) (emptyVers (heap_alloc_new _ _) (Nat.le_refl _)) os[k].at_ os[k].vers os[k].cap (by rfl) HOP.out.1 (HX.out.below (((Below.refl _ _).alloc (Nat.le_refl _) _).drew)) (by omega) (by simp) (by simp) ?_; intro g cp wC hown hgrow; have hbC := below_appD hgrow; have q := keepV2 hbC q0; have hbxC := HG.out.box.kept (grown_of_belowV hbC) (by simp); have hxC := hbxC.cell; have hxT := fun o => (hbxC.alloc o).cell; have HI := Lib.hid hown; have HO := Lib.hid (Go.Proofs.Ytjijichgoodocaa.ownsRow_of_below HO.out hbC); have hzz := Nat.le_trans hzz hbC.size; have HC := Lib.hid hbC; clear hown hgrow hbC)
          refine hK.out _ _ ?h41 (fun hH41 => ?g41)
          case h41 => ((try dsimp only); (first | with_reducible exact q | with_reducible exact keepV2_allocD q | with_reducible exact keepV2_alloc q | with_reducible exact keepV2_set mc md q | fail))
          clear hK K hH28
          (try simp only [Act.put, List.setIfInBounds_toArray, List.set_cons_zero, List.set_cons_succ])
          refine wpAnyH_take (i := 16) (oi := { dst := some 29, op := Go.Op.build 45 #[(0, Go.Operand.tmp 20), (1, Go.Operand.tmp 28)], type := 45, pos := "l2_ver.go:32", after := #[{ on := 7, ground := Go.Ground.data }, { on := 15, ground := Go.Ground.data }], guard := none }) (v := ?v42) rfl (by kernel_rfl) (by kernel_rfl) (by kernel_rfl) (fun _ _ _ h => h) (Or.inl ⟨by rfl, ?y42⟩) hH41 ?r42
          case y42 => (intro w hSw; (try dsimp only at hSw); go_simp; (try with_reducible rfl))
          (try simp only [Act.put, List.setIfInBounds_toArray, List.set_cons_zero, List.set_cons_succ])
          refine wpAnyH_ready (rs := [1, 17]) (by kernel_rfl) (by simp) ?_
          refine AllReadyH.cons (o := { dst := some 14, op := Go.Op.load 23 (Go.Operand.tmp 13), type := 23, pos := "l2_ver.go:32", after := #[{ on := 0, ground := Go.Ground.data }], guard := none }) rfl (fun K hK => ?s44) ?m44
          case s44 =>
            go_simp
            refine hK.out _ _ ?h44 (fun hH44 => ?g44)
            case h44 => ((try dsimp only); (first | with_reducible exact q | with_reducible exact keepV2_allocD q | with_reducible exact keepV2_alloc q | with_reducible exact keepV2_set mc md q | fail))
            clear hK K hH41
            (try simp only [Act.put, List.setIfInBounds_toArray, List.set_cons_zero, List.set_cons_succ])
            refine wpAnyH_ready (rs := [17]) (by kernel_rfl) (by simp) ?_
            refine AllReadyH.cons (o := { dst := some 30, op := Go.Op.buildSlice 23 1 #[(0, Go.Operand.tmp 29)], type := 23, pos := "l2_ver.go:32", after := #[{ on := 16, ground := Go.Ground.data }], guard := none }) rfl (fun K hK => ?s46) ?m46
            case s46 =>
              go_simp
              refine hK.out _ _ ?h46 (fun hH46 => ?g46)
              case h46 => ((try dsimp only); (first | with_reducible exact q | with_reducible exact keepV2_allocD q | with_reducible exact keepV2_alloc q | with_reducible exact keepV2_set mc md q | fail))
              clear hK K hH44
              (try simp only [Act.put, List.setIfInBounds_toArray, List.set_cons_zero, List.set_cons_succ])
              refine wpAnyH_ready (rs := [18]) (by kernel_rfl) (by simp) ?_
              refine AllReadyH.cons (o := { dst := some 31, op := Go.Op.call { callee := Go.Callee.builtin Go.Builtin.append, args := #[Go.Operand.tmp 14, Go.Operand.tmp 30], argTypes := #[23, 23] }, type := 23, pos := "l2_ver.go:32", after := #[{ on := 1, ground := Go.Ground.data }, { on := 17, ground := Go.Ground.data }, { on := 15, ground := Go.Ground.chain }], guard := none }) rfl (fun K hK => ?s48) ?m48
              case s48 =>
                (refine step_append_lies _ (by rfl) _ _ 23 (by rfl) W2.heap.size 45 i0 (.agg #[.string ⟨#[]⟩, .slice none 0 0]) 2 40 Try.underlying23 hi0 hz0 hz1 hz2 rfl (by omega) v cs.length (cs.flatMap objCells) (by rfl) (HO.out.alloc _) ⟨wC.heap.size, 0, none⟩ 1 1 [.string os[k].key, .slice (some ⟨g, 0, none⟩) os[k].vers.length cp] (by rfl) (by rfl) (World.news_of_block (heap_alloc_new wC _)) (fun u hu => (by simp at hu; rcases hu with rfl | rfl <;> rfl)) (by omega) (by unfold maxLen; omega) (by omega) (by simp; omega) _ rfl ?_; intro gg cq wD hown hgrow hat hlt2; have q := keepV2_far hgrow nc nd (keepV2_alloc q); have hbxD := (hbxC.alloc _).kept hgrow hne; have hxD := hbxD.cell; have hfD := hbxD.frozen; have X := Lib.hid (And.intro hown hgrow); clear hown hgrow hat hlt2)
                refine hK.out _ _ ?h48 (fun hH48 => ?g48)
                case h48 => ((try dsimp only); (first | with_reducible exact q | with_reducible exact keepV2_allocD q | with_reducible exact keepV2_alloc q | with_reducible exact keepV2_set mc md q | fail))
                clear hK K hH46
                (try simp only [Act.put, List.setIfInBounds_toArray, List.set_cons_zero, List.set_cons_succ])
                refine wpAnyH_take (i := 19) (oi := { dst := some 32, op := Go.Op.fieldAddr 25 (Go.Operand.tmp 3) 0, type := 0, pos := "l2_ver.go:32", after := #[{ on := 0, ground := Go.Ground.phase }, { on := 1, ground := Go.Ground.phase }, { on := 2, ground := Go.Ground.phase }, { on := 3, ground := Go.Ground.phase }, { on := 4, ground := Go.Ground.phase }, { on := 5, ground := Go.Ground.phase }, { on := 6, ground := Go.Ground.phase }, { on := 7, ground := Go.Ground.phase }, { on := 8, ground := Go.Ground.phase }, { on := 9, ground := Go.Ground.phase }, { on := 10, ground := Go.Ground.phase }, { on := 11, ground := Go.Ground.phase }, { on := 12, ground := Go.Ground.phase }, { on := 13, ground := Go.Ground.phase }, { on := 14, ground := Go.Ground.phase }, { on := 15, ground := Go.Ground.phase }, { on := 16, ground := Go.Ground.phase }, { on := 17, ground := Go.Ground.phase }, { on := 18, ground := Go.Ground.phase }], guard := none }) (v := ?v49) rfl (by kernel_rfl) (by kernel_rfl) (by kernel_rfl) (fun _ _ _ h => h) (Or.inl ⟨by rfl, ?y49⟩) hH48 ?r49
                case y49 => (intro w hSw; (try dsimp only at hSw); go_simp; (try with_reducible rfl))
                (try simp only [Act.put, List.setIfInBounds_toArray, List.set_cons_zero, List.set_cons_succ])
                refine wpAnyH_ready (rs := [20]) (by kernel_rfl) (by simp) ?_
                refine AllReadyH.cons (o := { dst := none, op := Go.Op.store 23 (Go.Operand.tmp 32) (Go.Operand.tmp 31), type := 0, pos := "l2_ver.go:32", after := #[{ on := 19, ground := Go.Ground.data }, { on := 18, ground := Go.Ground.data }, { on := 18, ground := Go.Ground.chain }, { on := 0, ground := Go.Ground.phase }, { on := 1, ground := Go.Ground.phase }, { on := 2, ground := Go.Ground.phase }, { on := 3, ground := Go.Ground.phase }, { on := 4, ground := Go.Ground.phase }, { on := 5, ground := Go.Ground.phase }, { on := 6, ground := Go.Ground.phase }, { on := 7, ground := Go.Ground.phase }, { on := 8, ground := Go.Ground.phase }, { on := 9, ground := Go.Ground.phase }, { on := 10, ground := Go.Ground.phase }, { on := 11, ground := Go.Ground.phase }, { on := 12, ground := Go.Ground.phase }, { on := 13, ground := Go.Ground.phase }, { on := 14, ground := Go.Ground.phase }, { on := 15, ground := Go.Ground.phase }, { on := 16, ground := Go.Ground.phase }, { on := 17, ground := Go.Ground.phase }, { on := 18, ground := Go.Ground.phase }], guard := none }) rfl (fun K hK => ?s51) ?m51
                case s51 =>
                  go_simp
                  refine hK.out _ _ ?h51 (fun hH51 => ?g51)
                  case h51 => ((try dsimp only); (first | with_reducible exact q | with_reducible exact keepV2_allocD q | with_reducible exact keepV2_alloc q | with_reducible exact keepV2_set mc md q | fail))
                  clear hK K hH48
                  (try simp only [Act.put, List.setIfInBounds_toArray, List.set_cons_zero, List.set_cons_succ])
                  refine wpAnyH_done (by kernel_rfl) ?_ _
                  clear hH51
                  obtain ⟨hown, hgrow⟩ := X.out
                  have hI := HI.out
                  simp only [Nat.zero_add, List.nil_append] at hI hown hgrow
                  obtain ⟨pa, pc, pe, p1, p2, p3, p4, p5⟩ := own_versH hI
                  injection pe with pe1 pe2 pe3
                  subst pe1 pe3
                  have HPush := Gv.push (o := ⟨os[k].key, some ⟨g, 0, none⟩, cp, os[k].vers⟩) HG.out HC.out hsz p1 p2 p3 p4 p5 hown hgrow
                  obtain ⟨hbx, hG2⟩ := HPush
                  have y0 := hbx.cell
                  have yf := hbx.frozen
                  have hTD := Lib.hid ((turned_grown (HT.out.trans (Turned.of_below (HC.out.alloc HC.out.size _))) hgrow (fun j hj => (HO.out.lt j hj).1)).setCell (p := ⟨W1.heap.size, 0, none⟩) rfl (.slice (some ⟨gg, 0, none⟩) (cs.length + 1) cq))
                  have hG2 := Lib.hid hG2
                  clear hown hgrow hI p1 p2 p3 p4 p5 hbx X HI
                  go_wp2_with fail
                  go_roundw
                  case rel => exact ⟨k + 1, cs ++ [⟨os[k].key, some ⟨g, 0, none⟩, cp, os[k].vers⟩], _, by omega, by go_num, hTD.out, hG2.out, by rw [List.map_append, HK.out, List.take_succ_eq_append_getElem hlt, List.map_append]; simp [ObjD.kv]⟩
                  case measure => simp [intOf]; omega
                exact AllReadyH.nil
              exact AllReadyH.nil
            exact AllReadyH.nil
          refine AllReadyH.cons (o := { dst := some 30, op := Go.Op.buildSlice 23 1 #[(0, Go.Operand.tmp 29)], type := 23, pos := "l2_ver.go:32", after := #[{ on := 16, ground := Go.Ground.data }], guard := none }) rfl (fun K hK => ?s52) ?m52
          case s52 =>
            go_simp
            refine hK.out _ _ ?h52 (fun hH52 => ?g52)
            case h52 => ((try dsimp only); (first | with_reducible exact q | with_reducible exact keepV2_allocD q | with_reducible exact keepV2_alloc q | with_reducible exact keepV2_set mc md q | fail))
            clear hK K hH41
            (try simp only [Act.put, List.setIfInBounds_toArray, List.set_cons_zero, List.set_cons_succ])
            refine wpAnyH_ready (rs := [1]) (by kernel_rfl) (by simp) ?_
            refine AllReadyH.cons (o := { dst := some 14, op := Go.Op.load 23 (Go.Operand.tmp 13), type := 23, pos := "l2_ver.go:32", after := #[{ on := 0, ground := Go.Ground.data }], guard := none }) rfl (fun K hK => ?s54) ?m54
            case s54 =>
              go_simp
              refine hK.out _ _ ?h54 (fun hH54 => ?g54)
              case h54 => ((try dsimp only); (first | with_reducible exact q | with_reducible exact keepV2_allocD q | with_reducible exact keepV2_alloc q | with_reducible exact keepV2_set mc md q | fail))
              clear hK K hH52
              (try simp only [Act.put, List.setIfInBounds_toArray, List.set_cons_zero, List.set_cons_succ])
              refine wpAnyH_ready (rs := [18]) (by kernel_rfl) (by simp) ?_
              refine AllReadyH.cons (o := { dst := some 31, op := Go.Op.call { callee := Go.Callee.builtin Go.Builtin.append, args := #[Go.Operand.tmp 14, Go.Operand.tmp 30], argTypes := #[23, 23] }, type := 23, pos := "l2_ver.go:32", after := #[{ on := 1, ground := Go.Ground.data }, { on := 17, ground := Go.Ground.data }, { on := 15, ground := Go.Ground.chain }], guard := none }) rfl (fun K hK => ?s56) ?m56
              case s56 =>
                (refine step_append_lies _ (by rfl) _ _ 23 (by rfl) W2.heap.size 45 i0 (.agg #[.string ⟨#[]⟩, .slice none 0 0]) 2 40 Try.underlying23 hi0 hz0 hz1 hz2 rfl (by omega) v cs.length (cs.flatMap objCells) (by rfl) (HO.out.alloc _) ⟨wC.heap.size, 0, none⟩ 1 1 [.string os[k].key, .slice (some ⟨g, 0, none⟩) os[k].vers.length cp] (by rfl) (by rfl) (World.news_of_block (heap_alloc_new wC _)) (fun u hu => (by simp at hu; rcases hu with rfl | rfl <;> rfl)) (by omega) (by unfold maxLen; omega) (by omega) (by simp; omega) _ rfl ?_; intro gg cq wD hown hgrow hat hlt2; have q := keepV2_far hgrow nc nd (keepV2_alloc q); have hbxD := (hbxC.alloc _).kept hgrow hne; have hxD := hbxD.cell; have hfD := hbxD.frozen; have X := Lib.hid (And.intro hown hgrow); clear hown hgrow hat hlt2)
                refine hK.out _ _ ?h56 (fun hH56 => ?g56)
                case h56 => ((try dsimp only); (first | with_reducible exact q | with_reducible exact keepV2_allocD q | with_reducible exact keepV2_alloc q | with_reducible exact keepV2_set mc md q | fail))
                clear hK K hH54
                (try simp only [Act.put, List.setIfInBounds_toArray, List.set_cons_zero, List.set_cons_succ])
                refine wpAnyH_take (i := 19) (oi := { dst := some 32, op := Go.Op.fieldAddr 25 (Go.Operand.tmp 3) 0, type := 0, pos := "l2_ver.go:32", after := #[{ on := 0, ground := Go.Ground.phase }, { on := 1, ground := Go.Ground.phase }, { on := 2, ground := Go.Ground.phase }, { on := 3, ground := Go.Ground.phase }, { on := 4, ground := Go.Ground.phase }, { on := 5, ground := Go.Ground.phase }, { on := 6, ground := Go.Ground.phase }, { on := 7, ground := Go.Ground.phase }, { on := 8, ground := Go.Ground.phase }, { on := 9, ground := Go.Ground.phase }, { on := 10, ground := Go.Ground.phase }, { on := 11, ground := Go.Ground.phase }, { on := 12, ground := Go.Ground.phase }, { on := 13, ground := Go.Ground.phase }, { on := 14, ground := Go.Ground.phase }, { on := 15, ground := Go.Ground.phase }, { on := 16, ground := Go.Ground.phase }, { on := 17, ground := Go.Ground.phase }, { on := 18, ground := Go.Ground.phase }], guard := none }) (v := ?v57) rfl (by kernel_rfl) (by kernel_rfl) (by kernel_rfl) (fun _ _ _ h => h) (Or.inl ⟨by rfl, ?y57⟩) hH56 ?r57
                case y57 => (intro w hSw; (try dsimp only at hSw); go_simp; (try with_reducible rfl))
                (try simp only [Act.put, List.setIfInBounds_toArray, List.set_cons_zero, List.set_cons_succ])
                refine wpAnyH_ready (rs := [20]) (by kernel_rfl) (by simp) ?_
                refine AllReadyH.cons (o := { dst := none, op := Go.Op.store 23 (Go.Operand.tmp 32) (Go.Operand.tmp 31), type := 0, pos := "l2_ver.go:32", after := #[{ on := 19, ground := Go.Ground.data }, { on := 18, ground := Go.Ground.data }, { on := 18, ground := Go.Ground.chain }, { on := 0, ground := Go.Ground.phase }, { on := 1, ground := Go.Ground.phase }, { on := 2, ground := Go.Ground.phase }, { on := 3, ground := Go.Ground.phase }, { on := 4, ground := Go.Ground.phase }, { on := 5, ground := Go.Ground.phase }, { on := 6, ground := Go.Ground.phase }, { on := 7, ground := Go.Ground.phase }, { on := 8, ground := Go.Ground.phase }, { on := 9, ground := Go.Ground.phase }, { on := 10, ground := Go.Ground.phase }, { on := 11, ground := Go.Ground.phase }, { on := 12, ground := Go.Ground.phase }, { on := 13, ground := Go.Ground.phase }, { on := 14, ground := Go.Ground.phase }, { on := 15, ground := Go.Ground.phase }, { on := 16, ground := Go.Ground.phase }, { on := 17, ground := Go.Ground.phase }, { on := 18, ground := Go.Ground.phase }], guard := none }) rfl (fun K hK => ?s59) ?m59
                case s59 =>
                  go_simp
                  refine hK.out _ _ ?h59 (fun hH59 => ?g59)
                  case h59 => ((try dsimp only); (first | with_reducible exact q | with_reducible exact keepV2_allocD q | with_reducible exact keepV2_alloc q | with_reducible exact keepV2_set mc md q | fail))
                  clear hK K hH56
                  (try simp only [Act.put, List.setIfInBounds_toArray, List.set_cons_zero, List.set_cons_succ])
                  refine wpAnyH_done (by kernel_rfl) ?_ _
                  clear hH59
                  obtain ⟨hown, hgrow⟩ := X.out
                  have hI := HI.out
                  simp only [Nat.zero_add, List.nil_append] at hI hown hgrow
                  obtain ⟨pa, pc, pe, p1, p2, p3, p4, p5⟩ := own_versH hI
                  injection pe with pe1 pe2 pe3
                  subst pe1 pe3
                  have HPush := Gv.push (o := ⟨os[k].key, some ⟨g, 0, none⟩, cp, os[k].vers⟩) HG.out HC.out hsz p1 p2 p3 p4 p5 hown hgrow
                  obtain ⟨hbx, hG2⟩ := HPush
                  have y0 := hbx.cell
                  have yf := hbx.frozen
                  have hTD := Lib.hid ((turned_grown (HT.out.trans (Turned.of_below (HC.out.alloc HC.out.size _))) hgrow (fun j hj => (HO.out.lt j hj).1)).setCell (p := ⟨W1.heap.size, 0, none⟩) rfl (.slice (some ⟨gg, 0, none⟩) (cs.length + 1) cq))
                  have hG2 := Lib.hid hG2
                  clear hown hgrow hI p1 p2 p3 p4 p5 hbx X HI
                  go_wp2_with fail
                  go_roundw
                  case rel => exact ⟨k + 1, cs ++ [⟨os[k].key, some ⟨g, 0, none⟩, cp, os[k].vers⟩], _, by omega, by go_num, hTD.out, hG2.out, by rw [List.map_append, HK.out, List.take_succ_eq_append_getElem hlt, List.map_append]; simp [ObjD.kv]⟩
                  case measure => simp [intOf]; omega
                exact AllReadyH.nil
              exact AllReadyH.nil
            exact AllReadyH.nil
          exact AllReadyH.nil
        exact AllReadyH.nil
      exact AllReadyH.nil
    · obtain rfl : k = os.length := by omega
      obtain ⟨va, vc, rfl, hA⟩ := HG.out.out (lo := W2.heap.size) (Nat.le_refl _)
      have hx := HG.out.box.cell
      have r0 := (HT.out.cell (p := ⟨w.heap.size + 1, 0, none⟩) (show w.heap.size + 1 < W2.heap.size by omega) (show ¬ (w.heap.size + 1 = W1.heap.size) by omega)).trans r0
      have fr0 := (HT.out.frozen (p := ⟨w.heap.size + 1, 0, none⟩) (show w.heap.size + 1 < W2.heap.size by omega) (show ¬ (w.heap.size + 1 = W1.heap.size) by omega)).trans fr0
      have HA := Lib.hid hA
      have hrl : w.heap.size + 1 < wr.heap.size := by omega
      clear hA
      go_wp2_with fail
      refine bodyPost_ret (v := .agg #[.slice va cs.length vc]) (by simp [results, Try.results82, go_sem, *]) rfl ?_
      refine ⟨va, cs, vc, by rw [HK.out, List.take_length], rfl, ?_, HBw.out.setCell (p := ⟨w.heap.size + 1, 0, none⟩) (show w.heap.size ≤ w.heap.size + 1 by omega) _⟩
      exact (HA.out.turned (S := fun b => b = w.heap.size + 1) (fun b h1 h2 e => by omega) ((Turned.refl (fun b => b = w.heap.size + 1) _).setCell (p := ⟨w.heap.size + 1, 0, none⟩) rfl _)).lower (by omega)

set_option maxRecDepth 100000 in
set_option maxHeartbeats 8000000 in
theorem l2Cut_any (a : Option Addr) (os : List ObjD) (cap : Nat) (lo hi : ByteArray) (w : World) (hv : ObjsIn w a os) (hp : ∀ o ∈ os, o.plain) (hn : os.length ≤ 1048576) (hl : ∀ o ∈ os, o.vers.length ≤ 1048576) :
    Calls Try.prog 95 #[.agg #[.slice a os.length cap], .agg #[.string lo, .string hi]] w (VmOut ((os.map ObjD.kv).filter (fun p => hasB lo hi p.1)) w) := by
  have HV := Lib.hid hv
  have HP := Lib.hid hp
  have HL := Lib.hid hl
  clear hv hp hl
  obtain ⟨i0, hi0, hz0, hz1, hz2⟩ := info_parts infoObj
  obtain ⟨W1, hW1⟩ : ∃ W1, ((w.alloc (.cells #[.slice a os.length cap] 25)).alloc (.cells #[.string lo, .string hi] 47)).alloc (.cells #[.slice none 0 0] 25) = W1 := ⟨_, rfl⟩
  have B1 : Below w.heap.size w W1 := by rw [← hW1]; exact (((Below.refl _ _).alloc (Nat.le_refl _) _).alloc (by simp) _).alloc (by simp <;> omega) _
  have z1 : w.heap.size + 3 ≤ W1.heap.size := by rw [← hW1]; simp
  have c0 : W1.cell? ⟨w.heap.size, 0, none⟩ = some (.slice a os.length cap) := by rw [← hW1]; simp [go_sem]
  have s0 : W1.cell? ⟨w.heap.size + 1, 0, none⟩ = some (.string lo) := by rw [← hW1]; simp [go_sem]
  have s1 : W1.cell? ⟨w.heap.size + 1, 1, none⟩ = some (.string hi) := by rw [← hW1]; simp [go_sem]
  have r0 : W1.cell? ⟨w.heap.size + 1 + 1, 0, none⟩ = some (.slice none 0 0) := by rw [← hW1]; simp [go_sem]
  have fr0 : W1.frozen? ⟨w.heap.size + 1 + 1, 0, none⟩ = false := by rw [← hW1]; simp [go_sem]
  have HB1 := Lib.hid B1
  clear B1
  go_enter Try.func95, Try.ntmps95
  go_wp2_with fail
  clear hW1
  obtain ⟨W2, hW2⟩ : ∃ W2, W1.alloc (.cells #[.slice none 0 0] 25) = W2 := ⟨_, rfl⟩
  rw [hW2]
  have hb : Below W1.heap.size W1 W2 := by rw [← hW2]; exact (Below.refl _ _).alloc (Nat.le_refl _) _
  have z2 : W1.heap.size < W2.heap.size := by rw [← hW2]; simp
  have G0 : Gv W1.heap.size W2.heap.size W2 [] (.slice none 0 0) := Gv.start (by rw [← hW2]; exact Boxed.new _ _ _)
  have c0 := (hb.cell (p := ⟨w.heap.size, 0, none⟩) (show w.heap.size < W1.heap.size by omega)).trans c0
  have s0 := (hb.cell (p := ⟨w.heap.size + 1, 0, none⟩) (show w.heap.size + 1 < W1.heap.size by omega)).trans s0
  have s1 := (hb.cell (p := ⟨w.heap.size + 1, 1, none⟩) (show w.heap.size + 1 < W1.heap.size by omega)).trans s1
  have r0 := (hb.cell (p := ⟨w.heap.size + 1 + 1, 0, none⟩) (show w.heap.size + 1 + 1 < W1.heap.size by omega)).trans r0
  have fr0 := (hb.frozen (p := ⟨w.heap.size + 1 + 1, 0, none⟩) (show w.heap.size + 1 + 1 < W1.heap.size by omega)).trans fr0
  have HB2 := Lib.hid (HB1.out.trans (hb.mono HB1.out.size))
  clear hW2 hb HB1
  go_loopw [6] (fun i wr => ∃ (k : Nat) (cs : List ObjD) (v : Value), k ≤ os.length ∧ i = .int .i64 (k : Int) ∧ Turned (fun b => b = W1.heap.size) W2 wr ∧ Gv W1.heap.size W2.heap.size wr cs v ∧ cs.map ObjD.kv = (((os.take k).map ObjD.kv).filter (fun p => hasB lo hi p.1))) (fun i _ => os.length - (intOf i).toNat)
  case atStart => exact ⟨0, [], _, Nat.zero_le _, rfl, Turned.refl _ _, G0, by simp⟩
  case round =>
    obtain ⟨k, cs, v, hk, rfl, hT, hG, hkv⟩ := hrel
    have c0 := (hT.cell (p := ⟨w.heap.size, 0, none⟩) (show w.heap.size < W2.heap.size by omega) (show ¬ (w.heap.size = W1.heap.size) by omega)).trans c0
    have s0 := (hT.cell (p := ⟨w.heap.size + 1, 0, none⟩) (show w.heap.size + 1 < W2.heap.size by omega) (show ¬ (w.heap.size + 1 = W1.heap.size) by omega)).trans s0
    have s1 := (hT.cell (p := ⟨w.heap.size + 1, 1, none⟩) (show w.heap.size + 1 < W2.heap.size by omega) (show ¬ (w.heap.size + 1 = W1.heap.size) by omega)).trans s1
    have hsz : W2.heap.size ≤ wr.heap.size := hT.size
    have hBw : Below w.heap.size w wr := HB2.out.trans (hT.below (fun b e => by omega) HB2.out.size)
    have HBw := Lib.hid hBw
    have HT := Lib.hid hT
    have HG := Lib.hid hG
    have HK := Lib.hid hkv
    clear hBw hT hG hkv
    by_cases hlt : k < os.length
    · rcases HV.out.below HBw.out with hnil | ⟨b1, o1, rfl, hb1, hc1⟩
      · rw [hnil] at hlt; simp at hlt
      have hbw : b1 < w.heap.size := by
        rcases HV.out with hnil | ⟨b2, o2, e2, hb2, _⟩
        · rw [hnil] at hlt; simp at hlt
        · injection e2 with e2; injection e2 with e2 _; rw [e2]; exact hb2
      obtain ⟨d0, d1, d2⟩ := hc1 k hlt
      have HX := Lib.hid d2
      clear hc1 d2
      have q1 : (0 : Int) ≤ (k : Int) := by omega
      have q2 : (k : Int) < (os.length : Int) := by omega
      have g1 := cell_regrown c0
      have g2 := cell_regrown s0
      have g3 := cell_regrown s1
      have g4 := cell_regrown d0
      go_wp2_with fail
      refine wp_region_quiet_below (by kernel_rfl) (by kernel_rfl) ?_
      repeat (go_big_quiet_step ((go_at_call 117; exact Calls.regrown_of (l1Has_any lo hi _ _))))
      refine wpQuiet_nil ?_
      intro _ hw'
      obtain ⟨⟨dq, osq⟩, hw''⟩ := hw'
      subst hw''
      obtain ⟨V, hV⟩ : ∃ V, grow (redrawn wr dq) osq = V := ⟨_, rfl⟩
      have hbV : Below wr.heap.size wr V := by rw [← hV]; exact below_regrown _ _ _
      rw [show grow (redrawn wr (Regrown.mk dq osq).d) (Regrown.mk dq osq).os = V from hV]
      have HG := Lib.hid (HG.out.below hbV)
      have HT := Lib.hid (HT.out.trans (Turned.of_below hbV))
      have HX := Lib.hid (HX.out.below hbV)
      have c0 := (hbV.cell (p := ⟨w.heap.size, 0, none⟩) (show w.heap.size < wr.heap.size by omega)).trans c0
      have d0 := (hbV.cell (p := ⟨b1, o1 + k * 2, none⟩) hb1).trans d0
      have d1 := (hbV.cell (p := ⟨b1, o1 + k * 2 + 1, none⟩) hb1).trans d1
      have hsz : W2.heap.size ≤ V.heap.size := Nat.le_trans hsz hbV.size
      have hb1 : b1 < V.heap.size := Nat.lt_of_lt_of_le hb1 hbV.size
      clear hV hbV g1 g2 g3 g4
      cases hH : hasB lo hi os[k].key
      · go_wp2_with fail
        go_roundw
        case rel => exact ⟨k + 1, cs, v, by omega, by go_num, HT.out, HG.out, by rw [HK.out, List.take_succ_eq_append_getElem hlt, List.map_append, List.filter_append]; simp [ObjD.kv, hH]⟩
        case measure => simp [intOf]; omega
      · have hx := HG.out.box.cell
        have hfx := HG.out.box.frozen
        have hne := HG.out.ne
        have hxl := HG.out.box.lt
        have nc : some w.heap.size ≠ v.ownBlock := own_neV HG.out.own (.inl (by omega))
        have nd : some b1 ≠ v.ownBlock := own_neV HG.out.own (.inl (by omega))
        have hcl : cs.length ≤ k := by have := congrArg List.length HK.out; have h2 := List.length_filter_le (fun p : Kv => hasB lo hi p.1) ((os.take k).map ObjD.kv); rw [← this] at h2; simp at h2; omega
        have hol : os[k].vers.length ≤ 1048576 := HL.out _ (List.getElem_mem hlt)
        have hop : os[k].plain := HP.out _ (List.getElem_mem hlt)
        have q : V.drew.cell? ⟨w.heap.size, 0, none⟩ = some (.slice (some ⟨b1, o1, none⟩) os.length cap) ∧ V.drew.cell? ⟨b1, o1 + k * 2, none⟩ = some (.string os[k].key) ∧ V.drew.cell? ⟨b1, o1 + k * 2 + 1, none⟩ = some (.slice os[k].at_ os[k].vers.length os[k].cap) ∧ w.heap.size < V.drew.heap.size ∧ b1 < V.drew.heap.size := ⟨c0, d0, d1, (by show w.heap.size < V.heap.size; omega), hb1⟩
        have HO := Lib.hid HG.out.own
        have hxA : (V.alloc (.cells #[] 27)).drew.cell? ⟨W1.heap.size, 0, none⟩ = some v := (HG.out.box.alloc _).cell
        have mc : w.heap.size ≠ W1.heap.size := by omega
        have md : b1 ≠ W1.heap.size := by omega
        have q0 : V.cell? ⟨w.heap.size, 0, none⟩ = some (.slice (some ⟨b1, o1, none⟩) os.length cap) ∧ V.cell? ⟨b1, o1 + k * 2, none⟩ = some (.string os[k].key) ∧ V.cell? ⟨b1, o1 + k * 2 + 1, none⟩ = some (.slice os[k].at_ os[k].vers.length os[k].cap) ∧ w.heap.size < V.heap.size ∧ b1 < V.heap.size := q
        have HOP := Lib.hid hop
        have hzz : W2.heap.size ≤ V.heap.size := hsz
        clear hop
        go_wp2_with fail
        clear c0 d0 d1
        refine wp_region_held_drew (S := (fun u => u.cell? ⟨w.heap.size, 0, none⟩ = some (.slice (some ⟨b1, o1, none⟩) os.length cap) ∧ u.cell? ⟨b1, o1 + k * 2, none⟩ = some (.string os[k].key) ∧ u.cell? ⟨b1, o1 + k * 2 + 1, none⟩ = some (.slice os[k].at_ os[k].vers.length os[k].cap) ∧ w.heap.size < u.heap.size ∧ b1 < u.heap.size)) (by kernel_rfl) q (fun hH0 => ?_)
        refine wpAnyH_take (i := 0) (oi := { dst := some 23, op := Go.Op.fieldAddr 25 (Go.Operand.tmp 5) 0, type := 0, pos := "l2_ver.go:117", after := #[], guard := none }) (v := ?v1) rfl (by kernel_rfl) (by kernel_rfl) (by kernel_rfl) (fun _ _ _ h => h) (Or.inl ⟨by rfl, ?y1⟩) hH0 ?r1
        case y1 => (intro w hSw; (try dsimp only at hSw); go_simp; (try with_reducible rfl))
        (try simp only [Act.put, List.setIfInBounds_toArray, List.set_cons_zero, List.set_cons_succ])
        refine wpAnyH_take (i := 2) (oi := { dst := some 25, op := Go.Op.fieldAddr 25 (Go.Operand.tmp 2) 0, type := 0, pos := "l2_ver.go:117", after := #[], guard := none }) (v := ?v2) rfl (by kernel_rfl) (by kernel_rfl) (by kernel_rfl) (fun _ _ _ h => h) (Or.inl ⟨by rfl, ?y2⟩) hH0 ?r2
        case y2 => (intro w hSw; (try dsimp only at hSw); go_simp; (try with_reducible rfl))
        (try simp only [Act.put, List.setIfInBounds_toArray, List.set_cons_zero, List.set_cons_succ])
        refine wpAnyH_take (i := 3) (oi := { dst := some 26, op := Go.Op.load 23 (Go.Operand.tmp 25), type := 23, pos := "l2_ver.go:117", after := #[{ on := 2, ground := Go.Ground.data }], guard := none }) (v := ?v3) rfl (by kernel_rfl) (by kernel_rfl) (by kernel_rfl) (fun _ _ _ h => h) (Or.inl ⟨by rfl, ?y3⟩) hH0 ?r3
        case y3 => (intro w hSw; (try dsimp only at hSw); go_simp; (try with_reducible rfl))
        (try simp only [Act.put, List.setIfInBounds_toArray, List.set_cons_zero, List.set_cons_succ])
        refine wpAnyH_take (i := 4) (oi := { dst := some 27, op := Go.Op.move (Go.Operand.tmp 6), type := 3, pos := "l2_ver.go:117", after := #[], guard := none }) (v := ?v4) rfl (by kernel_rfl) (by kernel_rfl) (by kernel_rfl) (fun _ _ _ h => h) (Or.inl ⟨by rfl, ?y4⟩) hH0 ?r4
        case y4 => (intro w hSw; (try dsimp only at hSw); go_simp; (try with_reducible rfl))
        (try simp only [Act.put, List.setIfInBounds_toArray, List.set_cons_zero, List.set_cons_succ])
        refine wpAnyH_take (i := 5) (oi := { dst := some 28, op := Go.Op.indexAddr 23 (Go.Operand.tmp 26) (Go.Operand.tmp 27), type := 0, pos := "l2_ver.go:117", after := #[{ on := 3, ground := Go.Ground.data }, { on := 4, ground := Go.Ground.data }], guard := none }) (v := ?v5) rfl (by kernel_rfl) (by kernel_rfl) (by kernel_rfl) (fun _ _ _ h => h) (Or.inl ⟨by rfl, ?y5⟩) hH0 ?r5
        case y5 => (intro w hSw; (try dsimp only at hSw); go_simp; (try with_reducible rfl))
        (try simp only [Act.put, List.setIfInBounds_toArray, List.set_cons_zero, List.set_cons_succ])
        refine wpAnyH_take (i := 6) (oi := { dst := some 29, op := Go.Op.fieldAddr 45 (Go.Operand.tmp 28) 0, type := 0, pos := "l2_ver.go:117", after := #[{ on := 5, ground := Go.Ground.data }], guard := none }) (v := ?v6) rfl (by kernel_rfl) (by kernel_rfl) (by kernel_rfl) (fun _ _ _ h => h) (Or.inl ⟨by rfl, ?y6⟩) hH0 ?r6
        case y6 => (intro w hSw; (try dsimp only at hSw); go_simp; (try with_reducible rfl))
        (try simp only [Act.put, List.setIfInBounds_toArray, List.set_cons_zero, List.set_cons_succ])
        refine wpAnyH_take (i := 7) (oi := { dst := some 30, op := Go.Op.load 9 (Go.Operand.tmp 29), type := 9, pos := "l2_ver.go:117", after := #[{ on := 6, ground := Go.Ground.data }], guard := none }) (v := ?v7) rfl (by kernel_rfl) (by kernel_rfl) (by kernel_rfl) (fun _ _ _ h => h) (Or.inl ⟨by rfl, ?y7⟩) hH0 ?r7
        case y7 => (intro w hSw; (try dsimp only at hSw); go_simp; (try with_reducible rfl))
        (try simp only [Act.put, List.setIfInBounds_toArray, List.set_cons_zero, List.set_cons_succ])
        refine wpAnyH_take (i := 9) (oi := { dst := some 32, op := Go.Op.fieldAddr 25 (Go.Operand.tmp 2) 0, type := 0, pos := "l2_ver.go:117", after := #[], guard := none }) (v := ?v8) rfl (by kernel_rfl) (by kernel_rfl) (by kernel_rfl) (fun _ _ _ h => h) (Or.inl ⟨by rfl, ?y8⟩) hH0 ?r8
        case y8 => (intro w hSw; (try dsimp only at hSw); go_simp; (try with_reducible rfl))
        (try simp only [Act.put, List.setIfInBounds_toArray, List.set_cons_zero, List.set_cons_succ])
        refine wpAnyH_take (i := 10) (oi := { dst := some 33, op := Go.Op.load 23 (Go.Operand.tmp 32), type := 23, pos := "l2_ver.go:117", after := #[{ on := 9, ground := Go.Ground.data }], guard := none }) (v := ?v9) rfl (by kernel_rfl) (by kernel_rfl) (by kernel_rfl) (fun _ _ _ h => h) (Or.inl ⟨by rfl, ?y9⟩) hH0 ?r9
        case y9 => (intro w hSw; (try dsimp only at hSw); go_simp; (try with_reducible rfl))
        (try simp only [Act.put, List.setIfInBounds_toArray, List.set_cons_zero, List.set_cons_succ])
        refine wpAnyH_take (i := 11) (oi := { dst := some 34, op := Go.Op.move (Go.Operand.tmp 6), type := 3, pos := "l2_ver.go:117", after := #[], guard := none }) (v := ?v10) rfl (by kernel_rfl) (by kernel_rfl) (by kernel_rfl) (fun _ _ _ h => h) (Or.inl ⟨by rfl, ?y10⟩) hH0 ?r10
        case y10 => (intro w hSw; (try dsimp only at hSw); go_simp; (try with_reducible rfl))
        (try simp only [Act.put, List.setIfInBounds_toArray, List.set_cons_zero, List.set_cons_succ])
        refine wpAnyH_take (i := 12) (oi := { dst := some 35, op := Go.Op.indexAddr 23 (Go.Operand.tmp 33) (Go.Operand.tmp 34), type := 0, pos := "l2_ver.go:117", after := #[{ on := 10, ground := Go.Ground.data }, { on := 11, ground := Go.Ground.data }], guard := none }) (v := ?v11) rfl (by kernel_rfl) (by kernel_rfl) (by kernel_rfl) (fun _ _ _ h => h) (Or.inl ⟨by rfl, ?y11⟩) hH0 ?r11
        case y11 => (intro w hSw; (try dsimp only at hSw); go_simp; (try with_reducible rfl))
        (try simp only [Act.put, List.setIfInBounds_toArray, List.set_cons_zero, List.set_cons_succ])
        refine wpAnyH_take (i := 13) (oi := { dst := some 36, op := Go.Op.fieldAddr 45 (Go.Operand.tmp 35) 1, type := 0, pos := "l2_ver.go:117", after := #[{ on := 12, ground := Go.Ground.data }], guard := none }) (v := ?v12) rfl (by kernel_rfl) (by kernel_rfl) (by kernel_rfl) (fun _ _ _ h => h) (Or.inl ⟨by rfl, ?y12⟩) hH0 ?r12
        case y12 => (intro w hSw; (try dsimp only at hSw); go_simp; (try with_reducible rfl))
        (try simp only [Act.put, List.setIfInBounds_toArray, List.set_cons_zero, List.set_cons_succ])
        refine wpAnyH_take (i := 14) (oi := { dst := some 37, op := Go.Op.load 43 (Go.Operand.tmp 36), type := 43, pos := "l2_ver.go:117", after := #[{ on := 13, ground := Go.Ground.data }], guard := none }) (v := ?v13) rfl (by kernel_rfl) (by kernel_rfl) (by kernel_rfl) (fun _ _ _ h => h) (Or.inl ⟨by rfl, ?y13⟩) hH0 ?r13
        case y13 => (intro w hSw; (try dsimp only at hSw); go_simp; (try with_reducible rfl))
        (try simp only [Act.put, List.setIfInBounds_toArray, List.set_cons_zero, List.set_cons_succ])
        refine wpAnyH_ready (rs := [1, 8]) (by kernel_rfl) (by simp) ?_
        refine AllReadyH.cons (o := { dst := some 24, op := Go.Op.load 23 (Go.Operand.tmp 23), type := 23, pos := "l2_ver.go:117", after := #[{ on := 0, ground := Go.Ground.data }], guard := none }) rfl (fun K hK => ?s15) ?m15
        case s15 =>
          go_simp
          refine hK.out _ _ ?h15 (fun hH15 => ?g15)
          case h15 => ((try dsimp only); (first | with_reducible exact q | with_reducible exact keepV2_allocD q | with_reducible exact keepV2_alloc q | with_reducible exact keepV2_set mc md q | fail))
          clear hK K hH0
          (try simp only [Act.put, List.setIfInBounds_toArray, List.set_cons_zero, List.set_cons_succ])
          refine wpAnyH_ready (rs := [8]) (by kernel_rfl) (by simp) ?_
          refine AllReadyH.cons (o := { dst := some 31, op := Go.Op.buildSlice 43 0 #[], type := 43, pos := "l2_ver.go:117", after := #[], guard := none }) rfl (fun K hK => ?s17) ?m17
          case s17 =>
            go_simp
            refine hK.out _ _ ?h17 (fun hH17 => ?g17)
            case h17 => ((try dsimp only); (first | with_reducible exact q | with_reducible exact keepV2_allocD q | with_reducible exact keepV2_alloc q | with_reducible exact keepV2_set mc md q | fail))
            clear hK K hH15
            (try simp only [Act.put, List.setIfInBounds_toArray, List.set_cons_zero, List.set_cons_succ])
            refine wpAnyH_ready (rs := [15]) (by kernel_rfl) (by simp) ?_
            refine AllReadyH.cons (o := { dst := some 38, op := Go.Op.call { callee := Go.Callee.builtin Go.Builtin.append, args := #[Go.Operand.tmp 31, Go.Operand.tmp 37], argTypes := #[43, 43] }, type := 43, pos := "l2_ver.go:117", after := #[{ on := 8, ground := Go.Ground.data }, { on := 14, ground := Go.Ground.data }], guard := none }) rfl (fun K hK => ?s19) ?m19
            case s19 =>
              (refine step_append_ver (by rfl) _ _ 43 (by rfl) Try.underlying43 V.heap.size (.slice (some ⟨V.heap.size, 0, none⟩) 0 0) 0 [] (by rfl) (emptyVers (heap_alloc_new _ _) (Nat.le_refl _)) os[k].at_ os[k].vers os[k].cap (by rfl) HOP.out.1 (HX.out.below (((Below.refl _ _).alloc (Nat.le_refl _) _).drew)) (by omega) (by simp) (by simp) ?_; intro g cp wC hown hgrow; have hbC := below_appD hgrow; have q := keepV2 hbC q0; have hbxC := HG.out.box.kept (grown_of_belowV hbC) (by simp); have hxC := hbxC.cell; have hxT := fun o => (hbxC.alloc o).cell; have HI := Lib.hid hown; have HO := Lib.hid (Go.Proofs.Ytjijichgoodocaa.ownsRow_of_below HO.out hbC); have hzz := Nat.le_trans hzz hbC.size; have HC := Lib.hid hbC; clear hown hgrow hbC)
              refine hK.out _ _ ?h19 (fun hH19 => ?g19)
              case h19 => ((try dsimp only); (first | with_reducible exact q | with_reducible exact keepV2_allocD q | with_reducible exact keepV2_alloc q | with_reducible exact keepV2_set mc md q | fail))
              clear hK K hH17
              (try simp only [Act.put, List.setIfInBounds_toArray, List.set_cons_zero, List.set_cons_succ])
              refine wpAnyH_take (i := 16) (oi := { dst := some 39, op := Go.Op.build 45 #[(0, Go.Operand.tmp 30), (1, Go.Operand.tmp 38)], type := 45, pos := "l2_ver.go:117", after := #[{ on := 7, ground := Go.Ground.data }, { on := 15, ground := Go.Ground.data }], guard := none }) (v := ?v20) rfl (by kernel_rfl) (by kernel_rfl) (by kernel_rfl) (fun _ _ _ h => h) (Or.inl ⟨by rfl, ?y20⟩) hH19 ?r20
              case y20 => (intro w hSw; (try dsimp only at hSw); go_simp; (try with_reducible rfl))
              (try simp only [Act.put, List.setIfInBounds_toArray, List.set_cons_zero, List.set_cons_succ])
              refine wpAnyH_ready (rs := [17]) (by kernel_rfl) (by simp) ?_
              refine AllReadyH.cons (o := { dst := some 40, op := Go.Op.buildSlice 23 1 #[(0, Go.Operand.tmp 39)], type := 23, pos := "l2_ver.go:117", after := #[{ on := 16, ground := Go.Ground.data }], guard := none }) rfl (fun K hK => ?s22) ?m22
              case s22 =>
                go_simp
                refine hK.out _ _ ?h22 (fun hH22 => ?g22)
                case h22 => ((try dsimp only); (first | with_reducible exact q | with_reducible exact keepV2_allocD q | with_reducible exact keepV2_alloc q | with_reducible exact keepV2_set mc md q | fail))
                clear hK K hH19
                (try simp only [Act.put, List.setIfInBounds_toArray, List.set_cons_zero, List.set_cons_succ])
                refine wpAnyH_ready (rs := [18]) (by kernel_rfl) (by simp) ?_
                refine AllReadyH.cons (o := { dst := some 41, op := Go.Op.call { callee := Go.Callee.builtin Go.Builtin.append, args := #[Go.Operand.tmp 24, Go.Operand.tmp 40], argTypes := #[23, 23] }, type := 23, pos := "l2_ver.go:117", after := #[{ on := 1, ground := Go.Ground.data }, { on := 17, ground := Go.Ground.data }, { on := 15, ground := Go.Ground.chain }], guard := none }) rfl (fun K hK => ?s24) ?m24
                case s24 =>
                  (refine step_append_lies _ (by rfl) _ _ 23 (by rfl) W2.heap.size 45 i0 (.agg #[.string ⟨#[]⟩, .slice none 0 0]) 2 40 Try.underlying23 hi0 hz0 hz1 hz2 rfl (by omega) v cs.length (cs.flatMap objCells) (by rfl) (HO.out.alloc _) ⟨wC.heap.size, 0, none⟩ 1 1 [.string os[k].key, .slice (some ⟨g, 0, none⟩) os[k].vers.length cp] (by rfl) (by rfl) (World.news_of_block (heap_alloc_new wC _)) (fun u hu => (by simp at hu; rcases hu with rfl | rfl <;> rfl)) (by omega) (by unfold maxLen; omega) (by omega) (by simp; omega) _ rfl ?_; intro gg cq wD hown hgrow hat hlt2; have q := keepV2_far hgrow nc nd (keepV2_alloc q); have hbxD := (hbxC.alloc _).kept hgrow hne; have hxD := hbxD.cell; have hfD := hbxD.frozen; have X := Lib.hid (And.intro hown hgrow); clear hown hgrow hat hlt2)
                  refine hK.out _ _ ?h24 (fun hH24 => ?g24)
                  case h24 => ((try dsimp only); (first | with_reducible exact q | with_reducible exact keepV2_allocD q | with_reducible exact keepV2_alloc q | with_reducible exact keepV2_set mc md q | fail))
                  clear hK K hH22
                  (try simp only [Act.put, List.setIfInBounds_toArray, List.set_cons_zero, List.set_cons_succ])
                  refine wpAnyH_take (i := 19) (oi := { dst := some 42, op := Go.Op.fieldAddr 25 (Go.Operand.tmp 5) 0, type := 0, pos := "l2_ver.go:117", after := #[{ on := 0, ground := Go.Ground.phase }, { on := 1, ground := Go.Ground.phase }, { on := 2, ground := Go.Ground.phase }, { on := 3, ground := Go.Ground.phase }, { on := 4, ground := Go.Ground.phase }, { on := 5, ground := Go.Ground.phase }, { on := 6, ground := Go.Ground.phase }, { on := 7, ground := Go.Ground.phase }, { on := 8, ground := Go.Ground.phase }, { on := 9, ground := Go.Ground.phase }, { on := 10, ground := Go.Ground.phase }, { on := 11, ground := Go.Ground.phase }, { on := 12, ground := Go.Ground.phase }, { on := 13, ground := Go.Ground.phase }, { on := 14, ground := Go.Ground.phase }, { on := 15, ground := Go.Ground.phase }, { on := 16, ground := Go.Ground.phase }, { on := 17, ground := Go.Ground.phase }, { on := 18, ground := Go.Ground.phase }], guard := none }) (v := ?v25) rfl (by kernel_rfl) (by kernel_rfl) (by kernel_rfl) (fun _ _ _ h => h) (Or.inl ⟨by rfl, ?y25⟩) hH24 ?r25
                  case y25 => (intro w hSw; (try dsimp only at hSw); go_simp; (try with_reducible rfl))
                  (try simp only [Act.put, List.setIfInBounds_toArray, List.set_cons_zero, List.set_cons_succ])
                  refine wpAnyH_ready (rs := [20]) (by kernel_rfl) (by simp) ?_
                  refine AllReadyH.cons (o := { dst := none, op := Go.Op.store 23 (Go.Operand.tmp 42) (Go.Operand.tmp 41), type := 0, pos := "l2_ver.go:117", after := #[{ on := 19, ground := Go.Ground.data }, { on := 18, ground := Go.Ground.data }, { on := 18, ground := Go.Ground.chain }, { on := 0, ground := Go.Ground.phase }, { on := 1, ground := Go.Ground.phase }, { on := 2, ground := Go.Ground.phase }, { on := 3, ground := Go.Ground.phase }, { on := 4, ground := Go.Ground.phase }, { on := 5, ground := Go.Ground.phase }, { on := 6, ground := Go.Ground.phase }, { on := 7, ground := Go.Ground.phase }, { on := 8, ground := Go.Ground.phase }, { on := 9, ground := Go.Ground.phase }, { on := 10, ground := Go.Ground.phase }, { on := 11, ground := Go.Ground.phase }, { on := 12, ground := Go.Ground.phase }, { on := 13, ground := Go.Ground.phase }, { on := 14, ground := Go.Ground.phase }, { on := 15, ground := Go.Ground.phase }, { on := 16, ground := Go.Ground.phase }, { on := 17, ground := Go.Ground.phase }, { on := 18, ground := Go.Ground.phase }], guard := none }) rfl (fun K hK => ?s27) ?m27
                  case s27 =>
                    go_simp
                    refine hK.out _ _ ?h27 (fun hH27 => ?g27)
                    case h27 => ((try dsimp only); (first | with_reducible exact q | with_reducible exact keepV2_allocD q | with_reducible exact keepV2_alloc q | with_reducible exact keepV2_set mc md q | fail))
                    clear hK K hH24
                    (try simp only [Act.put, List.setIfInBounds_toArray, List.set_cons_zero, List.set_cons_succ])
                    refine wpAnyH_done (by kernel_rfl) ?_ _
                    clear hH27
                    obtain ⟨hown, hgrow⟩ := X.out
                    have hI := HI.out
                    simp only [Nat.zero_add, List.nil_append] at hI hown hgrow
                    obtain ⟨pa, pc, pe, p1, p2, p3, p4, p5⟩ := own_versH hI
                    injection pe with pe1 pe2 pe3
                    subst pe1 pe3
                    have HPush := Gv.push (o := ⟨os[k].key, some ⟨g, 0, none⟩, cp, os[k].vers⟩) HG.out HC.out hsz p1 p2 p3 p4 p5 hown hgrow
                    obtain ⟨hbx, hG2⟩ := HPush
                    have y0 := hbx.cell
                    have yf := hbx.frozen
                    have hTD := Lib.hid ((turned_grown (HT.out.trans (Turned.of_below (HC.out.alloc HC.out.size _))) hgrow (fun j hj => (HO.out.lt j hj).1)).setCell (p := ⟨W1.heap.size, 0, none⟩) rfl (.slice (some ⟨gg, 0, none⟩) (cs.length + 1) cq))
                    have hG2 := Lib.hid hG2
                    clear hown hgrow hI p1 p2 p3 p4 p5 hbx X HI
                    go_wp2_with fail
                    go_roundw
                    case rel => exact ⟨k + 1, cs ++ [⟨os[k].key, some ⟨g, 0, none⟩, cp, os[k].vers⟩], _, by omega, by go_num, hTD.out, hG2.out, by rw [List.map_append, HK.out, List.take_succ_eq_append_getElem hlt, List.map_append, List.filter_append]; simp [ObjD.kv, hH]⟩
                    case measure => simp [intOf]; omega
                  exact AllReadyH.nil
                exact AllReadyH.nil
              exact AllReadyH.nil
            exact AllReadyH.nil
          exact AllReadyH.nil
        refine AllReadyH.cons (o := { dst := some 31, op := Go.Op.buildSlice 43 0 #[], type := 43, pos := "l2_ver.go:117", after := #[], guard := none }) rfl (fun K hK => ?s28) ?m28
        case s28 =>
          go_simp
          refine hK.out _ _ ?h28 (fun hH28 => ?g28)
          case h28 => ((try dsimp only); (first | with_reducible exact q | with_reducible exact keepV2_allocD q | with_reducible exact keepV2_alloc q | with_reducible exact keepV2_set mc md q | fail))
          clear hK K hH0
          (try simp only [Act.put, List.setIfInBounds_toArray, List.set_cons_zero, List.set_cons_succ])
          refine wpAnyH_ready (rs := [1, 15]) (by kernel_rfl) (by simp) ?_
          refine AllReadyH.cons (o := { dst := some 24, op := Go.Op.load 23 (Go.Operand.tmp 23), type := 23, pos := "l2_ver.go:117", after := #[{ on := 0, ground := Go.Ground.data }], guard := none }) rfl (fun K hK => ?s30) ?m30
          case s30 =>
            go_simp
            refine hK.out _ _ ?h30 (fun hH30 => ?g30)
            case h30 => ((try dsimp only); (first | with_reducible exact q | with_reducible exact keepV2_allocD q | with_reducible exact keepV2_alloc q | with_reducible exact keepV2_set mc md q | fail))
            clear hK K hH28
            (try simp only [Act.put, List.setIfInBounds_toArray, List.set_cons_zero, List.set_cons_succ])
            refine wpAnyH_ready (rs := [15]) (by kernel_rfl) (by simp) ?_
            refine AllReadyH.cons (o := { dst := some 38, op := Go.Op.call { callee := Go.Callee.builtin Go.Builtin.append, args := #[Go.Operand.tmp 31, Go.Operand.tmp 37], argTypes := #[43, 43] }, type := 43, pos := "l2_ver.go:117", after := #[{ on := 8, ground := Go.Ground.data }, { on := 14, ground := Go.Ground.data }], guard := none }) rfl (fun K hK => ?s32) ?m32
            case s32 =>
              (refine step_append_ver (by rfl) _ _ 43 (by rfl) Try.underlying43 V.heap.size (.slice (some ⟨V.heap.size, 0, none⟩) 0 0) 0 [] (by rfl) (emptyVers (heap_alloc_new _ _) (Nat.le_refl _)) os[k].at_ os[k].vers os[k].cap (by rfl) HOP.out.1 (HX.out.below (((Below.refl _ _).alloc (Nat.le_refl _) _).drew)) (by omega) (by simp) (by simp) ?_; intro g cp wC hown hgrow; have hbC := below_appD hgrow; have q := keepV2 hbC q0; have hbxC := HG.out.box.kept (grown_of_belowV hbC) (by simp); have hxC := hbxC.cell; have hxT := fun o => (hbxC.alloc o).cell; have HI := Lib.hid hown; have HO := Lib.hid (Go.Proofs.Ytjijichgoodocaa.ownsRow_of_below HO.out hbC); have hzz := Nat.le_trans hzz hbC.size; have HC := Lib.hid hbC; clear hown hgrow hbC)
              refine hK.out _ _ ?h32 (fun hH32 => ?g32)
              case h32 => ((try dsimp only); (first | with_reducible exact q | with_reducible exact keepV2_allocD q | with_reducible exact keepV2_alloc q | with_reducible exact keepV2_set mc md q | fail))
              clear hK K hH30
              (try simp only [Act.put, List.setIfInBounds_toArray, List.set_cons_zero, List.set_cons_succ])
              refine wpAnyH_take (i := 16) (oi := { dst := some 39, op := Go.Op.build 45 #[(0, Go.Operand.tmp 30), (1, Go.Operand.tmp 38)], type := 45, pos := "l2_ver.go:117", after := #[{ on := 7, ground := Go.Ground.data }, { on := 15, ground := Go.Ground.data }], guard := none }) (v := ?v33) rfl (by kernel_rfl) (by kernel_rfl) (by kernel_rfl) (fun _ _ _ h => h) (Or.inl ⟨by rfl, ?y33⟩) hH32 ?r33
              case y33 => (intro w hSw; (try dsimp only at hSw); go_simp; (try with_reducible rfl))
              (try simp only [Act.put, List.setIfInBounds_toArray, List.set_cons_zero, List.set_cons_succ])
              refine wpAnyH_ready (rs := [17]) (by kernel_rfl) (by simp) ?_
              refine AllReadyH.cons (o := { dst := some 40, op := Go.Op.buildSlice 23 1 #[(0, Go.Operand.tmp 39)], type := 23, pos := "l2_ver.go:117", after := #[{ on := 16, ground := Go.Ground.data }], guard := none }) rfl (fun K hK => ?s35) ?m35
              case s35 =>
                go_simp
                refine hK.out _ _ ?h35 (fun hH35 => ?g35)
                case h35 => ((try dsimp only); (first | with_reducible exact q | with_reducible exact keepV2_allocD q | with_reducible exact keepV2_alloc q | with_reducible exact keepV2_set mc md q | fail))
                clear hK K hH32
                (try simp only [Act.put, List.setIfInBounds_toArray, List.set_cons_zero, List.set_cons_succ])
                refine wpAnyH_ready (rs := [18]) (by kernel_rfl) (by simp) ?_
                refine AllReadyH.cons (o := { dst := some 41, op := Go.Op.call { callee := Go.Callee.builtin Go.Builtin.append, args := #[Go.Operand.tmp 24, Go.Operand.tmp 40], argTypes := #[23, 23] }, type := 23, pos := "l2_ver.go:117", after := #[{ on := 1, ground := Go.Ground.data }, { on := 17, ground := Go.Ground.data }, { on := 15, ground := Go.Ground.chain }], guard := none }) rfl (fun K hK => ?s37) ?m37
                case s37 =>
                  (refine step_append_lies _ (by rfl) _ _ 23 (by rfl) W2.heap.size 45 i0 (.agg #[.string ⟨#[]⟩, .slice none 0 0]) 2 40 Try.underlying23 hi0 hz0 hz1 hz2 rfl (by omega) v cs.length (cs.flatMap objCells) (by rfl) (HO.out.alloc _) ⟨wC.heap.size, 0, none⟩ 1 1 [.string os[k].key, .slice (some ⟨g, 0, none⟩) os[k].vers.length cp] (by rfl) (by rfl) (World.news_of_block (heap_alloc_new wC _)) (fun u hu => (by simp at hu; rcases hu with rfl | rfl <;> rfl)) (by omega) (by unfold maxLen; omega) (by omega) (by simp; omega) _ rfl ?_; intro gg cq wD hown hgrow hat hlt2; have q := keepV2_far hgrow nc nd (keepV2_alloc q); have hbxD := (hbxC.alloc _).kept hgrow hne; have hxD := hbxD.cell; have hfD := hbxD.frozen; have X := Lib.hid (And.intro hown hgrow); clear hown hgrow hat hlt2)
                  refine hK.out _ _ ?h37 (fun hH37 => ?g37)
                  case h37 => ((try dsimp only); (first | with_reducible exact q | with_reducible exact keepV2_allocD q | with_reducible exact keepV2_alloc q | with_reducible exact keepV2_set mc md q | fail))
                  clear hK K hH35
                  (try simp only [Act.put, List.setIfInBounds_toArray, List.set_cons_zero, List.set_cons_succ])
                  refine wpAnyH_take (i := 19) (oi := { dst := some 42, op := Go.Op.fieldAddr 25 (Go.Operand.tmp 5) 0, type := 0, pos := "l2_ver.go:117", after := #[{ on := 0, ground := Go.Ground.phase }, { on := 1, ground := Go.Ground.phase }, { on := 2, ground := Go.Ground.phase }, { on := 3, ground := Go.Ground.phase }, { on := 4, ground := Go.Ground.phase }, { on := 5, ground := Go.Ground.phase }, { on := 6, ground := Go.Ground.phase }, { on := 7, ground := Go.Ground.phase }, { on := 8, ground := Go.Ground.phase }, { on := 9, ground := Go.Ground.phase }, { on := 10, ground := Go.Ground.phase }, { on := 11, ground := Go.Ground.phase }, { on := 12, ground := Go.Ground.phase }, { on := 13, ground := Go.Ground.phase }, { on := 14, ground := Go.Ground.phase }, { on := 15, ground := Go.Ground.phase }, { on := 16, ground := Go.Ground.phase }, { on := 17, ground := Go.Ground.phase }, { on := 18, ground := Go.Ground.phase }], guard := none }) (v := ?v38) rfl (by kernel_rfl) (by kernel_rfl) (by kernel_rfl) (fun _ _ _ h => h) (Or.inl ⟨by rfl, ?y38⟩) hH37 ?r38
                  case y38 => (intro w hSw; (try dsimp only at hSw); go_simp; (try with_reducible rfl))
                  (try simp only [Act.put, List.setIfInBounds_toArray, List.set_cons_zero, List.set_cons_succ])
                  refine wpAnyH_ready (rs := [20]) (by kernel_rfl) (by simp) ?_
                  refine AllReadyH.cons (o := { dst := none, op := Go.Op.store 23 (Go.Operand.tmp 42) (Go.Operand.tmp 41), type := 0, pos := "l2_ver.go:117", after := #[{ on := 19, ground := Go.Ground.data }, { on := 18, ground := Go.Ground.data }, { on := 18, ground := Go.Ground.chain }, { on := 0, ground := Go.Ground.phase }, { on := 1, ground := Go.Ground.phase }, { on := 2, ground := Go.Ground.phase }, { on := 3, ground := Go.Ground.phase }, { on := 4, ground := Go.Ground.phase }, { on := 5, ground := Go.Ground.phase }, { on := 6, ground := Go.Ground.phase }, { on := 7, ground := Go.Ground.phase }, { on := 8, ground := Go.Ground.phase }, { on := 9, ground := Go.Ground.phase }, { on := 10, ground := Go.Ground.phase }, { on := 11, ground := Go.Ground.phase }, { on := 12, ground := Go.Ground.phase }, { on := 13, ground := Go.Ground.phase }, { on := 14, ground := Go.Ground.phase }, { on := 15, ground := Go.Ground.phase }, { on := 16, ground := Go.Ground.phase }, { on := 17, ground := Go.Ground.phase }, { on := 18, ground := Go.Ground.phase }], guard := none }) rfl (fun K hK => ?s40) ?m40
                  case s40 =>
                    go_simp
                    refine hK.out _ _ ?h40 (fun hH40 => ?g40)
                    case h40 => ((try dsimp only); (first | with_reducible exact q | with_reducible exact keepV2_allocD q | with_reducible exact keepV2_alloc q | with_reducible exact keepV2_set mc md q | fail))
                    clear hK K hH37
                    (try simp only [Act.put, List.setIfInBounds_toArray, List.set_cons_zero, List.set_cons_succ])
                    refine wpAnyH_done (by kernel_rfl) ?_ _
                    clear hH40
                    obtain ⟨hown, hgrow⟩ := X.out
                    have hI := HI.out
                    simp only [Nat.zero_add, List.nil_append] at hI hown hgrow
                    obtain ⟨pa, pc, pe, p1, p2, p3, p4, p5⟩ := own_versH hI
                    injection pe with pe1 pe2 pe3
                    subst pe1 pe3
                    have HPush := Gv.push (o := ⟨os[k].key, some ⟨g, 0, none⟩, cp, os[k].vers⟩) HG.out HC.out hsz p1 p2 p3 p4 p5 hown hgrow
                    obtain ⟨hbx, hG2⟩ := HPush
                    have y0 := hbx.cell
                    have yf := hbx.frozen
                    have hTD := Lib.hid ((turned_grown (HT.out.trans (Turned.of_below (HC.out.alloc HC.out.size _))) hgrow (fun j hj => (HO.out.lt j hj).1)).setCell (p := ⟨W1.heap.size, 0, none⟩) rfl (.slice (some ⟨gg, 0, none⟩) (cs.length + 1) cq))
                    have hG2 := Lib.hid hG2
                    clear hown hgrow hI p1 p2 p3 p4 p5 hbx X HI
                    go_wp2_with fail
                    go_roundw
                    case rel => exact ⟨k + 1, cs ++ [⟨os[k].key, some ⟨g, 0, none⟩, cp, os[k].vers⟩], _, by omega, by go_num, hTD.out, hG2.out, by rw [List.map_append, HK.out, List.take_succ_eq_append_getElem hlt, List.map_append, List.filter_append]; simp [ObjD.kv, hH]⟩
                    case measure => simp [intOf]; omega
                  exact AllReadyH.nil
                exact AllReadyH.nil
              exact AllReadyH.nil
            exact AllReadyH.nil
          refine AllReadyH.cons (o := { dst := some 38, op := Go.Op.call { callee := Go.Callee.builtin Go.Builtin.append, args := #[Go.Operand.tmp 31, Go.Operand.tmp 37], argTypes := #[43, 43] }, type := 43, pos := "l2_ver.go:117", after := #[{ on := 8, ground := Go.Ground.data }, { on := 14, ground := Go.Ground.data }], guard := none }) rfl (fun K hK => ?s41) ?m41
          case s41 =>
            (refine step_append_ver (by rfl) _ _ 43 (by rfl) Try.underlying43 V.heap.size (.slice (some ⟨V.heap.size, 0, none⟩) 0 0) 0 [] (by rfl) (emptyVers (heap_alloc_new _ _) (Nat.le_refl _)) os[k].at_ os[k].vers os[k].cap (by rfl) HOP.out.1 (HX.out.below (((Below.refl _ _).alloc (Nat.le_refl _) _).drew)) (by omega) (by simp) (by simp) ?_; intro g cp wC hown hgrow; have hbC := below_appD hgrow; have q := keepV2 hbC q0; have hbxC := HG.out.box.kept (grown_of_belowV hbC) (by simp); have hxC := hbxC.cell; have hxT := fun o => (hbxC.alloc o).cell; have HI := Lib.hid hown; have HO := Lib.hid (Go.Proofs.Ytjijichgoodocaa.ownsRow_of_below HO.out hbC); have hzz := Nat.le_trans hzz hbC.size; have HC := Lib.hid hbC; clear hown hgrow hbC)
            refine hK.out _ _ ?h41 (fun hH41 => ?g41)
            case h41 => ((try dsimp only); (first | with_reducible exact q | with_reducible exact keepV2_allocD q | with_reducible exact keepV2_alloc q | with_reducible exact keepV2_set mc md q | fail))
            clear hK K hH28
            (try simp only [Act.put, List.setIfInBounds_toArray, List.set_cons_zero, List.set_cons_succ])
            refine wpAnyH_take (i := 16) (oi := { dst := some 39, op := Go.Op.build 45 #[(0, Go.Operand.tmp 30), (1, Go.Operand.tmp 38)], type := 45, pos := "l2_ver.go:117", after := #[{ on := 7, ground := Go.Ground.data }, { on := 15, ground := Go.Ground.data }], guard := none }) (v := ?v42) rfl (by kernel_rfl) (by kernel_rfl) (by kernel_rfl) (fun _ _ _ h => h) (Or.inl ⟨by rfl, ?y42⟩) hH41 ?r42
            case y42 => (intro w hSw; (try dsimp only at hSw); go_simp; (try with_reducible rfl))
            (try simp only [Act.put, List.setIfInBounds_toArray, List.set_cons_zero, List.set_cons_succ])
            refine wpAnyH_ready (rs := [1, 17]) (by kernel_rfl) (by simp) ?_
            refine AllReadyH.cons (o := { dst := some 24, op := Go.Op.load 23 (Go.Operand.tmp 23), type := 23, pos := "l2_ver.go:117", after := #[{ on := 0, ground := Go.Ground.data }], guard := none }) rfl (fun K hK => ?s44) ?m44
            case s44 =>
              go_simp
              refine hK.out _ _ ?h44 (fun hH44 => ?g44)
              case h44 => ((try dsimp only); (first | with_reducible exact q | with_reducible exact keepV2_allocD q | with_reducible exact keepV2_alloc q | with_reducible exact keepV2_set mc md q | fail))
              clear hK K hH41
              (try simp only [Act.put, List.setIfInBounds_toArray, List.set_cons_zero, List.set_cons_succ])
              refine wpAnyH_ready (rs := [17]) (by kernel_rfl) (by simp) ?_
              refine AllReadyH.cons (o := { dst := some 40, op := Go.Op.buildSlice 23 1 #[(0, Go.Operand.tmp 39)], type := 23, pos := "l2_ver.go:117", after := #[{ on := 16, ground := Go.Ground.data }], guard := none }) rfl (fun K hK => ?s46) ?m46
              case s46 =>
                go_simp
                refine hK.out _ _ ?h46 (fun hH46 => ?g46)
                case h46 => ((try dsimp only); (first | with_reducible exact q | with_reducible exact keepV2_allocD q | with_reducible exact keepV2_alloc q | with_reducible exact keepV2_set mc md q | fail))
                clear hK K hH44
                (try simp only [Act.put, List.setIfInBounds_toArray, List.set_cons_zero, List.set_cons_succ])
                refine wpAnyH_ready (rs := [18]) (by kernel_rfl) (by simp) ?_
                refine AllReadyH.cons (o := { dst := some 41, op := Go.Op.call { callee := Go.Callee.builtin Go.Builtin.append, args := #[Go.Operand.tmp 24, Go.Operand.tmp 40], argTypes := #[23, 23] }, type := 23, pos := "l2_ver.go:117", after := #[{ on := 1, ground := Go.Ground.data }, { on := 17, ground := Go.Ground.data }, { on := 15, ground := Go.Ground.chain }], guard := none }) rfl (fun K hK => ?s48) ?m48
                case s48 =>
                  (refine step_append_lies _ (by rfl) _ _ 23 (by rfl) W2.heap.size 45 i0 (.agg #[.string ⟨#[]⟩, .slice none 0 0]) 2 40 Try.underlying23 hi0 hz0 hz1 hz2 rfl (by omega) v cs.length (cs.flatMap objCells) (by rfl) (HO.out.alloc _) ⟨wC.heap.size, 0, none⟩ 1 1 [.string os[k].key, .slice (some ⟨g, 0, none⟩) os[k].vers.length cp] (by rfl) (by rfl) (World.news_of_block (heap_alloc_new wC _)) (fun u hu => (by simp at hu; rcases hu with rfl | rfl <;> rfl)) (by omega) (by unfold maxLen; omega) (by omega) (by simp; omega) _ rfl ?_; intro gg cq wD hown hgrow hat hlt2; have q := keepV2_far hgrow nc nd (keepV2_alloc q); have hbxD := (hbxC.alloc _).kept hgrow hne; have hxD := hbxD.cell; have hfD := hbxD.frozen; have X := Lib.hid (And.intro hown hgrow); clear hown hgrow hat hlt2)
                  refine hK.out _ _ ?h48 (fun hH48 => ?g48)
                  case h48 => ((try dsimp only); (first | with_reducible exact q | with_reducible exact keepV2_allocD q | with_reducible exact keepV2_alloc q | with_reducible exact keepV2_set mc md q | fail))
                  clear hK K hH46
                  (try simp only [Act.put, List.setIfInBounds_toArray, List.set_cons_zero, List.set_cons_succ])
                  refine wpAnyH_take (i := 19) (oi := { dst := some 42, op := Go.Op.fieldAddr 25 (Go.Operand.tmp 5) 0, type := 0, pos := "l2_ver.go:117", after := #[{ on := 0, ground := Go.Ground.phase }, { on := 1, ground := Go.Ground.phase }, { on := 2, ground := Go.Ground.phase }, { on := 3, ground := Go.Ground.phase }, { on := 4, ground := Go.Ground.phase }, { on := 5, ground := Go.Ground.phase }, { on := 6, ground := Go.Ground.phase }, { on := 7, ground := Go.Ground.phase }, { on := 8, ground := Go.Ground.phase }, { on := 9, ground := Go.Ground.phase }, { on := 10, ground := Go.Ground.phase }, { on := 11, ground := Go.Ground.phase }, { on := 12, ground := Go.Ground.phase }, { on := 13, ground := Go.Ground.phase }, { on := 14, ground := Go.Ground.phase }, { on := 15, ground := Go.Ground.phase }, { on := 16, ground := Go.Ground.phase }, { on := 17, ground := Go.Ground.phase }, { on := 18, ground := Go.Ground.phase }], guard := none }) (v := ?v49) rfl (by kernel_rfl) (by kernel_rfl) (by kernel_rfl) (fun _ _ _ h => h) (Or.inl ⟨by rfl, ?y49⟩) hH48 ?r49
                  case y49 => (intro w hSw; (try dsimp only at hSw); go_simp; (try with_reducible rfl))
                  (try simp only [Act.put, List.setIfInBounds_toArray, List.set_cons_zero, List.set_cons_succ])
                  refine wpAnyH_ready (rs := [20]) (by kernel_rfl) (by simp) ?_
                  refine AllReadyH.cons (o := { dst := none, op := Go.Op.store 23 (Go.Operand.tmp 42) (Go.Operand.tmp 41), type := 0, pos := "l2_ver.go:117", after := #[{ on := 19, ground := Go.Ground.data }, { on := 18, ground := Go.Ground.data }, { on := 18, ground := Go.Ground.chain }, { on := 0, ground := Go.Ground.phase }, { on := 1, ground := Go.Ground.phase }, { on := 2, ground := Go.Ground.phase }, { on := 3, ground := Go.Ground.phase }, { on := 4, ground := Go.Ground.phase }, { on := 5, ground := Go.Ground.phase }, { on := 6, ground := Go.Ground.phase }, { on := 7, ground := Go.Ground.phase }, { on := 8, ground := Go.Ground.phase }, { on := 9, ground := Go.Ground.phase }, { on := 10, ground := Go.Ground.phase }, { on := 11, ground := Go.Ground.phase }, { on := 12, ground := Go.Ground.phase }, { on := 13, ground := Go.Ground.phase }, { on := 14, ground := Go.Ground.phase }, { on := 15, ground := Go.Ground.phase }, { on := 16, ground := Go.Ground.phase }, { on := 17, ground := Go.Ground.phase }, { on := 18, ground := Go.Ground.phase }], guard := none }) rfl (fun K hK => ?s51) ?m51
                  case s51 =>
                    go_simp
                    refine hK.out _ _ ?h51 (fun hH51 => ?g51)
                    case h51 => ((try dsimp only); (first | with_reducible exact q | with_reducible exact keepV2_allocD q | with_reducible exact keepV2_alloc q | with_reducible exact keepV2_set mc md q | fail))
                    clear hK K hH48
                    (try simp only [Act.put, List.setIfInBounds_toArray, List.set_cons_zero, List.set_cons_succ])
                    refine wpAnyH_done (by kernel_rfl) ?_ _
                    clear hH51
                    obtain ⟨hown, hgrow⟩ := X.out
                    have hI := HI.out
                    simp only [Nat.zero_add, List.nil_append] at hI hown hgrow
                    obtain ⟨pa, pc, pe, p1, p2, p3, p4, p5⟩ := own_versH hI
                    injection pe with pe1 pe2 pe3
                    subst pe1 pe3
                    have HPush := Gv.push (o := ⟨os[k].key, some ⟨g, 0, none⟩, cp, os[k].vers⟩) HG.out HC.out hsz p1 p2 p3 p4 p5 hown hgrow
                    obtain ⟨hbx, hG2⟩ := HPush
                    have y0 := hbx.cell
                    have yf := hbx.frozen
                    have hTD := Lib.hid ((turned_grown (HT.out.trans (Turned.of_below (HC.out.alloc HC.out.size _))) hgrow (fun j hj => (HO.out.lt j hj).1)).setCell (p := ⟨W1.heap.size, 0, none⟩) rfl (.slice (some ⟨gg, 0, none⟩) (cs.length + 1) cq))
                    have hG2 := Lib.hid hG2
                    clear hown hgrow hI p1 p2 p3 p4 p5 hbx X HI
                    go_wp2_with fail
                    go_roundw
                    case rel => exact ⟨k + 1, cs ++ [⟨os[k].key, some ⟨g, 0, none⟩, cp, os[k].vers⟩], _, by omega, by go_num, hTD.out, hG2.out, by rw [List.map_append, HK.out, List.take_succ_eq_append_getElem hlt, List.map_append, List.filter_append]; simp [ObjD.kv, hH]⟩
                    case measure => simp [intOf]; omega
                  exact AllReadyH.nil
                exact AllReadyH.nil
              exact AllReadyH.nil
            refine AllReadyH.cons (o := { dst := some 40, op := Go.Op.buildSlice 23 1 #[(0, Go.Operand.tmp 39)], type := 23, pos := "l2_ver.go:117", after := #[{ on := 16, ground := Go.Ground.data }], guard := none }) rfl (fun K hK => ?s52) ?m52
            case s52 =>
              go_simp
              refine hK.out _ _ ?h52 (fun hH52 => ?g52)
              case h52 => ((try dsimp only); (first | with_reducible exact q | with_reducible exact keepV2_allocD q | with_reducible exact keepV2_alloc q | with_reducible exact keepV2_set mc md q | fail))
              clear hK K hH41
              (try simp only [Act.put, List.setIfInBounds_toArray, List.set_cons_zero, List.set_cons_succ])
              refine wpAnyH_ready (rs := [1]) (by kernel_rfl) (by simp) ?_
              refine AllReadyH.cons (o := { dst := some 24, op := Go.Op.load 23 (Go.Operand.tmp 23), type := 23, pos := "l2_ver.go:117", after := #[{ on := 0, ground := Go.Ground.data }], guard := none }) rfl (fun K hK => ?s54) ?m54
              case s54 =>
                go_simp
                refine hK.out _ _ ?h54 (fun hH54 => ?g54)
                case h54 => ((try dsimp only); (first | with_reducible exact q | with_reducible exact keepV2_allocD q | with_reducible exact keepV2_alloc q | with_reducible exact keepV2_set mc md q | fail))
                clear hK K hH52
                (try simp only [Act.put, List.setIfInBounds_toArray, List.set_cons_zero, List.set_cons_succ])
                refine wpAnyH_ready (rs := [18]) (by kernel_rfl) (by simp) ?_
                refine AllReadyH.cons (o := { dst := some 41, op := Go.Op.call { callee := Go.Callee.builtin Go.Builtin.append, args := #[Go.Operand.tmp 24, Go.Operand.tmp 40], argTypes := #[23, 23] }, type := 23, pos := "l2_ver.go:117", after := #[{ on := 1, ground := Go.Ground.data }, { on := 17, ground := Go.Ground.data }, { on := 15, ground := Go.Ground.chain }], guard := none }) rfl (fun K hK => ?s56) ?m56
                case s56 =>
                  (refine step_append_lies _ (by rfl) _ _ 23 (by rfl) W2.heap.size 45 i0 (.agg #[.string ⟨#[]⟩, .slice none 0 0]) 2 40 Try.underlying23 hi0 hz0 hz1 hz2 rfl (by omega) v cs.length (cs.flatMap objCells) (by rfl) (HO.out.alloc _) ⟨wC.heap.size, 0, none⟩ 1 1 [.string os[k].key, .slice (some ⟨g, 0, none⟩) os[k].vers.length cp] (by rfl) (by rfl) (World.news_of_block (heap_alloc_new wC _)) (fun u hu => (by simp at hu; rcases hu with rfl | rfl <;> rfl)) (by omega) (by unfold maxLen; omega) (by omega) (by simp; omega) _ rfl ?_; intro gg cq wD hown hgrow hat hlt2; have q := keepV2_far hgrow nc nd (keepV2_alloc q); have hbxD := (hbxC.alloc _).kept hgrow hne; have hxD := hbxD.cell; have hfD := hbxD.frozen; have X := Lib.hid (And.intro hown hgrow); clear hown hgrow hat hlt2)
                  refine hK.out _ _ ?h56 (fun hH56 => ?g56)
                  case h56 => ((try dsimp only); (first | with_reducible exact q | with_reducible exact keepV2_allocD q | with_reducible exact keepV2_alloc q | with_reducible exact keepV2_set mc md q | fail))
                  clear hK K hH54
                  (try simp only [Act.put, List.setIfInBounds_toArray, List.set_cons_zero, List.set_cons_succ])
                  refine wpAnyH_take (i := 19) (oi := { dst := some 42, op := Go.Op.fieldAddr 25 (Go.Operand.tmp 5) 0, type := 0, pos := "l2_ver.go:117", after := #[{ on := 0, ground := Go.Ground.phase }, { on := 1, ground := Go.Ground.phase }, { on := 2, ground := Go.Ground.phase }, { on := 3, ground := Go.Ground.phase }, { on := 4, ground := Go.Ground.phase }, { on := 5, ground := Go.Ground.phase }, { on := 6, ground := Go.Ground.phase }, { on := 7, ground := Go.Ground.phase }, { on := 8, ground := Go.Ground.phase }, { on := 9, ground := Go.Ground.phase }, { on := 10, ground := Go.Ground.phase }, { on := 11, ground := Go.Ground.phase }, { on := 12, ground := Go.Ground.phase }, { on := 13, ground := Go.Ground.phase }, { on := 14, ground := Go.Ground.phase }, { on := 15, ground := Go.Ground.phase }, { on := 16, ground := Go.Ground.phase }, { on := 17, ground := Go.Ground.phase }, { on := 18, ground := Go.Ground.phase }], guard := none }) (v := ?v57) rfl (by kernel_rfl) (by kernel_rfl) (by kernel_rfl) (fun _ _ _ h => h) (Or.inl ⟨by rfl, ?y57⟩) hH56 ?r57
                  case y57 => (intro w hSw; (try dsimp only at hSw); go_simp; (try with_reducible rfl))
                  (try simp only [Act.put, List.setIfInBounds_toArray, List.set_cons_zero, List.set_cons_succ])
                  refine wpAnyH_ready (rs := [20]) (by kernel_rfl) (by simp) ?_
                  refine AllReadyH.cons (o := { dst := none, op := Go.Op.store 23 (Go.Operand.tmp 42) (Go.Operand.tmp 41), type := 0, pos := "l2_ver.go:117", after := #[{ on := 19, ground := Go.Ground.data }, { on := 18, ground := Go.Ground.data }, { on := 18, ground := Go.Ground.chain }, { on := 0, ground := Go.Ground.phase }, { on := 1, ground := Go.Ground.phase }, { on := 2, ground := Go.Ground.phase }, { on := 3, ground := Go.Ground.phase }, { on := 4, ground := Go.Ground.phase }, { on := 5, ground := Go.Ground.phase }, { on := 6, ground := Go.Ground.phase }, { on := 7, ground := Go.Ground.phase }, { on := 8, ground := Go.Ground.phase }, { on := 9, ground := Go.Ground.phase }, { on := 10, ground := Go.Ground.phase }, { on := 11, ground := Go.Ground.phase }, { on := 12, ground := Go.Ground.phase }, { on := 13, ground := Go.Ground.phase }, { on := 14, ground := Go.Ground.phase }, { on := 15, ground := Go.Ground.phase }, { on := 16, ground := Go.Ground.phase }, { on := 17, ground := Go.Ground.phase }, { on := 18, ground := Go.Ground.phase }], guard := none }) rfl (fun K hK => ?s59) ?m59
                  case s59 =>
                    go_simp
                    refine hK.out _ _ ?h59 (fun hH59 => ?g59)
                    case h59 => ((try dsimp only); (first | with_reducible exact q | with_reducible exact keepV2_allocD q | with_reducible exact keepV2_alloc q | with_reducible exact keepV2_set mc md q | fail))
                    clear hK K hH56
                    (try simp only [Act.put, List.setIfInBounds_toArray, List.set_cons_zero, List.set_cons_succ])
                    refine wpAnyH_done (by kernel_rfl) ?_ _
                    clear hH59
                    obtain ⟨hown, hgrow⟩ := X.out
                    have hI := HI.out
                    simp only [Nat.zero_add, List.nil_append] at hI hown hgrow
                    obtain ⟨pa, pc, pe, p1, p2, p3, p4, p5⟩ := own_versH hI
                    injection pe with pe1 pe2 pe3
                    subst pe1 pe3
                    have HPush := Gv.push (o := ⟨os[k].key, some ⟨g, 0, none⟩, cp, os[k].vers⟩) HG.out HC.out hsz p1 p2 p3 p4 p5 hown hgrow
                    obtain ⟨hbx, hG2⟩ := HPush
                    have y0 := hbx.cell
                    have yf := hbx.frozen
                    have hTD := Lib.hid ((turned_grown (HT.out.trans (Turned.of_below (HC.out.alloc HC.out.size _))) hgrow (fun j hj => (HO.out.lt j hj).1)).setCell (p := ⟨W1.heap.size, 0, none⟩) rfl (.slice (some ⟨gg, 0, none⟩) (cs.length + 1) cq))
                    have hG2 := Lib.hid hG2
                    clear hown hgrow hI p1 p2 p3 p4 p5 hbx X HI
                    go_wp2_with fail
                    go_roundw
                    case rel => exact ⟨k + 1, cs ++ [⟨os[k].key, some ⟨g, 0, none⟩, cp, os[k].vers⟩], _, by omega, by go_num, hTD.out, hG2.out, by rw [List.map_append, HK.out, List.take_succ_eq_append_getElem hlt, List.map_append, List.filter_append]; simp [ObjD.kv, hH]⟩
                    case measure => simp [intOf]; omega
                  exact AllReadyH.nil
                exact AllReadyH.nil
              exact AllReadyH.nil
            exact AllReadyH.nil
          exact AllReadyH.nil
        exact AllReadyH.nil
    · obtain rfl : k = os.length := by omega
      obtain ⟨va, vc, rfl, hA⟩ := HG.out.out (lo := W2.heap.size) (Nat.le_refl _)
      have hx := HG.out.box.cell
      have r0 := (HT.out.cell (p := ⟨w.heap.size + 1 + 1, 0, none⟩) (show w.heap.size + 1 + 1 < W2.heap.size by omega) (show ¬ (w.heap.size + 1 + 1 = W1.heap.size) by omega)).trans r0
      have fr0 := (HT.out.frozen (p := ⟨w.heap.size + 1 + 1, 0, none⟩) (show w.heap.size + 1 + 1 < W2.heap.size by omega) (show ¬ (w.heap.size + 1 + 1 = W1.heap.size) by omega)).trans fr0
      have HA := Lib.hid hA
      have hrl : w.heap.size + 1 + 1 < wr.heap.size := by omega
      clear hA
      go_wp2_with fail
      refine bodyPost_ret (v := .agg #[.slice va cs.length vc]) (by simp [results, Try.results95, go_sem, *]) rfl ?_
      refine ⟨va, cs, vc, by rw [HK.out, List.take_length], rfl, ?_, HBw.out.setCell (p := ⟨w.heap.size + 1 + 1, 0, none⟩) (show w.heap.size ≤ w.heap.size + 1 + 1 by omega) _⟩
      exact (HA.out.turned (S := fun b => b = w.heap.size + 1 + 1) (fun b h1 h2 e => by omega) ((Turned.refl (fun b => b = w.heap.size + 1 + 1) _).setCell (p := ⟨w.heap.size + 1 + 1, 0, none⟩) rfl _)).lower (by omega)
end Go.Proofs.Ytjijichgoodocaa
