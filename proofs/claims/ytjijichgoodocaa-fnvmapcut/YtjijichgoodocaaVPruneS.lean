/- Maps without old versions, the model's function. -/
import Derived.Test.YtjijichgoodocaaVPr
import Derived.Deep.Cut
import Derived.Test.YtjijichgoodocaaWithin
namespace Go.Proofs.Ytjijichgoodocaa
open Go.RowKit Go.Sort

set_option maxRecDepth 100000 in
set_option maxHeartbeats 8000000 in
theorem specVmapPrune_any (a : Option Addr) (os : List ObjD) (cap : Nat) (id : Int) (w : World) (hv : ObjsIn w a os) (hf : ∀ o ∈ os, o.fits) (hp : ∀ o ∈ os, o.plain) (hn : os.length ≤ 1048576) (hl : ∀ o ∈ os, o.vers.length ≤ 1048576) :
    Calls Try.prog 39 #[.agg #[.slice a os.length cap], .int .i64 id] w (VmOut (pruneF id (os.map ObjD.kv)) w) := by
  have HV := Lib.hid hv
  have HF := Lib.hid hf
  have HP := Lib.hid hp
  have HL := Lib.hid hl
  have hn2 : os.length ≤ maxLen := by unfold maxLen; omega
  clear hv hf hp hl
  obtain ⟨i0, hi0, hz0, hz1, hz2⟩ := info_parts infoObj
  obtain ⟨W1, hW1⟩ : ∃ W1, (w.alloc (.cells #[.slice a os.length cap] 25)).alloc (.cells #[.slice none 0 0] 25) = W1 := ⟨_, rfl⟩
  have B1 : Below w.heap.size w W1 := by rw [← hW1]; exact ((Below.refl _ _).alloc (Nat.le_refl _) _).alloc (by simp) _
  have z1 : w.heap.size + 2 ≤ W1.heap.size := by rw [← hW1]; simp
  have c0 : W1.cell? ⟨w.heap.size, 0, none⟩ = some (.slice a os.length cap) := by rw [← hW1]; simp [go_sem]
  have r0 : W1.cell? ⟨w.heap.size + 1, 0, none⟩ = some (.slice none 0 0) := by rw [← hW1]; simp [go_sem]
  have fr0 : W1.frozen? ⟨w.heap.size + 1, 0, none⟩ = false := by rw [← hW1]; simp [go_sem]
  have HB1 := Lib.hid B1
  clear B1
  go_enter Try.func39, Try.ntmps39
  go_upto_region 2 with fail
  clear hW1
  obtain ⟨W2, hW2⟩ : ∃ W2, W1.alloc (.cells #[.slice none 0 0] 25) = W2 := ⟨_, rfl⟩
  rw [hW2]
  have hb : Below W1.heap.size W1 W2 := by rw [← hW2]; exact (Below.refl _ _).alloc (Nat.le_refl _) _
  have z2 : W1.heap.size < W2.heap.size := by rw [← hW2]; simp
  have G0 : Gv W1.heap.size W2.heap.size W2 [] (.slice none 0 0) := Gv.start (by rw [← hW2]; exact Boxed.new _ _ _)
  have c0 := (hb.cell (p := ⟨w.heap.size, 0, none⟩) (show w.heap.size < W1.heap.size by omega)).trans c0
  have r0 := (hb.cell (p := ⟨w.heap.size + 1, 0, none⟩) (show w.heap.size + 1 < W1.heap.size by omega)).trans r0
  have fr0 := (hb.frozen (p := ⟨w.heap.size + 1, 0, none⟩) (show w.heap.size + 1 < W1.heap.size by omega)).trans fr0
  have HB2 := Lib.hid (HB1.out.trans (hb.mono HB1.out.size))
  clear hW2 hb HB1
  go_wp2_with fail
  refine (l2Ok_any a os cap _ (HV.out.below HB2.out) HF.out hn2).mono ?_
  rintro e w1 ⟨b, rfl, hb, hb1⟩
  have HI := Lib.hid hb
  have G1 := G0.below hb1
  have c0 := (hb1.cell (p := ⟨w.heap.size, 0, none⟩) (show w.heap.size < W2.heap.size by omega)).trans c0
  have r0 := (hb1.cell (p := ⟨w.heap.size + 1, 0, none⟩) (show w.heap.size + 1 < W2.heap.size by omega)).trans r0
  have fr0 := (hb1.frozen (p := ⟨w.heap.size + 1, 0, none⟩) (show w.heap.size + 1 < W2.heap.size by omega)).trans fr0
  have x1 : w.heap.size + 1 < w1.heap.size := by have := hb1.size; omega
  have HBa := Lib.hid (HB2.out.trans (hb1.mono HB2.out.size))
  have T1 := Lib.hid (Turned.of_below (S := fun b => b = W1.heap.size) hb1)
  have bx := G1.box.cell
  clear hb hb1
  cases b
  · go_wp2_with fail
    refine bodyPost_ret (v := .agg #[.slice none 0 0]) (by simp [results, Try.results39, go_sem, *]) rfl ?_
    refine ⟨none, [], 0, ?_, rfl, VmAt.nil _ _ _ (by simp), HBa.out.setCell (p := ⟨w.heap.size + 1, 0, none⟩) (by simp) _⟩
    rw [pruneF, if_neg (fun h => absurd (HI.out.2 ((mapOk_kv os).2 h)) (by decide))]
    rfl
  have HY := Lib.hid ((mapOk_kv os).1 (HI.out.1 rfl))
  have HG1 := Lib.hid G1
  clear bx G0 G1
  go_wp2_with fail
  go_loopw [6] (fun i wr => ∃ (k : Nat) (cs : List ObjD) (v : Value), k ≤ os.length ∧ i = .int .i64 (k : Int) ∧ Turned (fun b => b = W1.heap.size) W2 wr ∧ Gv W1.heap.size W2.heap.size wr cs v ∧ cs.map ObjD.kv = pruneIn id (os.take k)) (fun i _ => os.length - (intOf i).toNat)
  case atStart => exact ⟨0, [], _, Nat.zero_le _, rfl, T1.out, HG1.out, by simp [pruneIn]⟩
  case round =>
    obtain ⟨k, cs, v, hk, rfl, hT, hG, hkv⟩ := hrel
    obtain ⟨V, rfl⟩ : ∃ V, V = wr := ⟨_, rfl⟩
    have hW2c : W2.cell? ⟨w.heap.size, 0, none⟩ = some (.slice a os.length cap) := by assumption
    have c0 := (hT.cell (p := ⟨w.heap.size, 0, none⟩) (show w.heap.size < W2.heap.size by omega) (show ¬ (w.heap.size = W1.heap.size) by omega)).trans hW2c
    have hsz : W2.heap.size ≤ V.heap.size := hT.size
    have hBw : Below w.heap.size w V := HB2.out.trans (hT.below (fun b e => by omega) HB2.out.size)
    have HBw := Lib.hid hBw
    have HT := Lib.hid hT
    have HG := Lib.hid hG
    have HK := Lib.hid hkv
    clear hBw hT hG hkv
    by_cases hlt : k < os.length
    · rcases HV.out.below HBw.out with hnil | ⟨b1, o1, rfl, hb1, hc1⟩
      · rw [hnil] at hlt; simp at hlt
      have hbw : b1 < w.heap.size := by
        rcases HV.out with hnil | ⟨b2, o2, e2, hb2, _⟩
        · rw [hnil] at hlt; simp at hlt
        · injection e2 with e2; injection e2 with e2 _; rw [e2]; exact hb2
      obtain ⟨d0, d1, d2⟩ := hc1 k hlt
      have hkk : k < (os.map ObjD.kv).length := by simpa using hlt
      have hyk := HY.out.at_ k hkk
      simp only [List.getElem_map, ObjD.kv] at hyk
      obtain ⟨-, hpos, hvok⟩ := hyk
      have hol : os[k].vers.length ≤ 1048576 := HL.out _ (List.getElem_mem hlt)
      obtain ⟨hop, hcp1, hcp2⟩ := HP.out _ (List.getElem_mem hlt)
      obtain ⟨vs, hvs⟩ : ∃ vs, os[k].vers = vs := ⟨_, rfl⟩
      rw [hvs] at d1 d2 hpos hvok hol hop hcp1
      have HVS := Lib.hid hvs
      obtain ⟨oat, hoat⟩ : ∃ x, os[k].at_ = x := ⟨_, rfl⟩
      rw [hoat] at d1 d2 hop
      obtain ⟨b2, o2, rfl⟩ : ∃ b2 o2, oat = some ⟨b2, o2, none⟩ := by
        rcases hop with ⟨b2, o2, e⟩ | ⟨_, e, _⟩
        · exact ⟨b2, o2, e⟩
        · rw [e] at hpos; simp at hpos
      obtain ⟨lb2, hc2⟩ : b2 < V.heap.size ∧ ∀ i (h : i < vs.length), V.cell? ⟨b2, o2 + i * 3, none⟩ = some (.int .i64 vs[i].id) ∧ V.cell? ⟨b2, o2 + i * 3 + 1, none⟩ = some (.string vs[i].text) ∧ V.cell? ⟨b2, o2 + i * 3 + 2, none⟩ = some (.bool vs[i].gone) := by
        rcases d2 with e | ⟨b3, o3, e, hb3, h3⟩
        · rw [e] at hpos; simp at hpos
        · cases e; exact ⟨hb3, h3⟩
      have HX := Lib.hid d2
      have HC2 := Lib.hid hc2
      have hvu := versUp_of hvok
      have HVU := Lib.hid hvu
      clear hc1 d2 hc2 hvs hoat hop hvok hvu
      unfold maxLen at hcp2
      have q1 : (0 : Int) ≤ (k : Int) := by omega
      have q2 : (k : Int) < (os.length : Int) := by omega
      go_wp2_with fail
      go_loopw [8, 9] (fun f i u => ∃ j : Nat, j ≤ vs.length ∧ i = .int .i64 (j : Int) ∧ f = .int .i64 (fromN id vs j : Int) ∧ V = u) (fun _ i _ => vs.length - (intOf i).toNat)
      case atStart => exact ⟨0, Nat.zero_le _, rfl, rfl, rfl⟩
      case round =>
        obtain ⟨j, hj, rfl, rfl, rfl⟩ := hrel
        have hfl := fromN_le id vs j
        by_cases hjt : j < vs.length
        · obtain ⟨e0, e1, e2⟩ := HC2.out j hjt
          have q3 : (0 : Int) ≤ (j : Int) := by omega
          have q4 : (j : Int) < (vs.length : Int) := by omega
          by_cases hpj : vs[j].id ≤ id
          · go_wp2_with fail
            go_roundw
            case rel => exact ⟨j + 1, by omega, by go_num, by rw [fromN_yes hjt hpj], by first | rfl | trivial⟩
            case measure => simp [intOf]; omega
          · go_wp2_with fail
            go_roundw
            case rel => exact ⟨j + 1, by omega, by go_num, by rw [fromN_no hjt hpj], by first | rfl | trivial⟩
            case measure => simp [intOf]; omega
        · obtain rfl : j = vs.length := by omega
          have hFl0 := fromN_lt id vs hpos vs.length (Nat.le_refl _)
          obtain ⟨F, hF⟩ : ∃ F, fromN id vs vs.length = F := ⟨_, rfl⟩
          rw [hF] at hFl0 ⊢
          have hFl : F < vs.length := hFl0
          have hU := from_unread2 HVU.out hpos hF hFl
          obtain ⟨e0, e1, e2⟩ := HC2.out F hFl
          clear hF hfl hFl0
          have q3 : (0 : Int) ≤ (F : Int) := by omega
          have q4 : (F : Int) < (vs.length : Int) := by omega
          by_cases hpF : vs[F].id ≤ id
          · cases hgF : vs[F].gone
            · rw [hgF] at e2
              rw [if_neg (fun h => by rw [hgF] at h; exact absurd h.2 (by decide))] at hU
              have HU := Lib.hid hU
              clear hU
              have q1 : (0 : Int) ≤ (F : Int) := by omega
              have q2 : (F : Int) ≤ (vs.length : Int) := by omega
              have q3 : (F : Int) ≤ (os[k].cap : Int) := by omega
              have q4 : ((F : Int)).toNat = F := by omega
              have q5 : ¬ os[k].cap = F := by omega
              have q6 : (F : Int) < (vs.length : Int) := by omega
              have hDL := Lib.hid (show (vs.drop (F)).length = vs.length - (F) by simp)
              have hDV := Lib.hid (HX.out.drop (F))
              have hx := HG.out.box.cell
              have hfx := HG.out.box.frozen
              have hne := HG.out.ne
              have nc : some w.heap.size ≠ v.ownBlock := own_neV HG.out.own (.inl (by omega))
              have nd : some b1 ≠ v.ownBlock := own_neV HG.out.own (.inl (by omega))
              have hcl : cs.length ≤ k := by have := congrArg List.length HK.out; have h2 := pruneIn_len id (os.take k); rw [← this] at h2; simp at h2; omega
              have q : V.drew.cell? ⟨w.heap.size, 0, none⟩ = some (.slice (some ⟨b1, o1, none⟩) os.length cap) ∧ V.drew.cell? ⟨b1, o1 + k * 2, none⟩ = some (.string os[k].key) ∧ w.heap.size < V.drew.heap.size ∧ b1 < V.drew.heap.size := ⟨c0, d0, (by show w.heap.size < V.heap.size; omega), hb1⟩
              have HO := Lib.hid HG.out.own
              have hxA : (V.alloc (.cells #[] 27)).drew.cell? ⟨W1.heap.size, 0, none⟩ = some v := (HG.out.box.alloc _).cell
              have mc : w.heap.size ≠ W1.heap.size := by omega
              have md : b1 ≠ W1.heap.size := by omega
              have q0 : V.cell? ⟨w.heap.size, 0, none⟩ = some (.slice (some ⟨b1, o1, none⟩) os.length cap) ∧ V.cell? ⟨b1, o1 + k * 2, none⟩ = some (.string os[k].key) ∧ w.heap.size < V.heap.size ∧ b1 < V.heap.size := q
              have hzz : W2.heap.size ≤ V.heap.size := hsz
              go_wp2_with fail
              clear c0 d0 d1
              refine wp_region_held_drew (S := (fun u => u.cell? ⟨w.heap.size, 0, none⟩ = some (.slice (some ⟨b1, o1, none⟩) os.length cap) ∧ u.cell? ⟨b1, o1 + k * 2, none⟩ = some (.string os[k].key) ∧ w.heap.size < u.heap.size ∧ b1 < u.heap.size)) (by kernel_rfl) q (fun hH0 => ?_)
              refine wpAnyH_take (i := 0) (oi := { dst := some 62, op := Go.Op.fieldAddr 25 (Go.Operand.tmp 5) 0, type := 0, pos := "l2_ver.go:166", after := #[], guard := none }) (v := ?v1) rfl (by kernel_rfl) (by kernel_rfl) (by kernel_rfl) (fun _ _ _ h => h) (Or.inl ⟨by rfl, ?y1⟩) hH0 ?r1
              case y1 => (intro w hSw; (try dsimp only at hSw); go_simp; (try with_reducible rfl))
              (try simp only [Act.put, List.setIfInBounds_toArray, List.set_cons_zero, List.set_cons_succ])
              refine wpAnyH_take (i := 2) (oi := { dst := some 64, op := Go.Op.fieldAddr 25 (Go.Operand.tmp 2) 0, type := 0, pos := "l2_ver.go:166", after := #[], guard := none }) (v := ?v2) rfl (by kernel_rfl) (by kernel_rfl) (by kernel_rfl) (fun _ _ _ h => h) (Or.inl ⟨by rfl, ?y2⟩) hH0 ?r2
              case y2 => (intro w hSw; (try dsimp only at hSw); go_simp; (try with_reducible rfl))
              (try simp only [Act.put, List.setIfInBounds_toArray, List.set_cons_zero, List.set_cons_succ])
              refine wpAnyH_take (i := 3) (oi := { dst := some 65, op := Go.Op.load 23 (Go.Operand.tmp 64), type := 23, pos := "l2_ver.go:166", after := #[{ on := 2, ground := Go.Ground.data }], guard := none }) (v := ?v3) rfl (by kernel_rfl) (by kernel_rfl) (by kernel_rfl) (fun _ _ _ h => h) (Or.inl ⟨by rfl, ?y3⟩) hH0 ?r3
              case y3 => (intro w hSw; (try dsimp only at hSw); go_simp; (try with_reducible rfl))
              (try simp only [Act.put, List.setIfInBounds_toArray, List.set_cons_zero, List.set_cons_succ])
              refine wpAnyH_take (i := 4) (oi := { dst := some 66, op := Go.Op.move (Go.Operand.tmp 6), type := 3, pos := "l2_ver.go:166", after := #[], guard := none }) (v := ?v4) rfl (by kernel_rfl) (by kernel_rfl) (by kernel_rfl) (fun _ _ _ h => h) (Or.inl ⟨by rfl, ?y4⟩) hH0 ?r4
              case y4 => (intro w hSw; (try dsimp only at hSw); go_simp; (try with_reducible rfl))
              (try simp only [Act.put, List.setIfInBounds_toArray, List.set_cons_zero, List.set_cons_succ])
              refine wpAnyH_take (i := 5) (oi := { dst := some 67, op := Go.Op.indexAddr 23 (Go.Operand.tmp 65) (Go.Operand.tmp 66), type := 0, pos := "l2_ver.go:166", after := #[{ on := 3, ground := Go.Ground.data }, { on := 4, ground := Go.Ground.data }], guard := none }) (v := ?v5) rfl (by kernel_rfl) (by kernel_rfl) (by kernel_rfl) (fun _ _ _ h => h) (Or.inl ⟨by rfl, ?y5⟩) hH0 ?r5
              case y5 => (intro w hSw; (try dsimp only at hSw); go_simp; (try with_reducible rfl))
              (try simp only [Act.put, List.setIfInBounds_toArray, List.set_cons_zero, List.set_cons_succ])
              refine wpAnyH_take (i := 6) (oi := { dst := some 68, op := Go.Op.fieldAddr 45 (Go.Operand.tmp 67) 0, type := 0, pos := "l2_ver.go:166", after := #[{ on := 5, ground := Go.Ground.data }], guard := none }) (v := ?v6) rfl (by kernel_rfl) (by kernel_rfl) (by kernel_rfl) (fun _ _ _ h => h) (Or.inl ⟨by rfl, ?y6⟩) hH0 ?r6
              case y6 => (intro w hSw; (try dsimp only at hSw); go_simp; (try with_reducible rfl))
              (try simp only [Act.put, List.setIfInBounds_toArray, List.set_cons_zero, List.set_cons_succ])
              refine wpAnyH_take (i := 7) (oi := { dst := some 69, op := Go.Op.load 9 (Go.Operand.tmp 68), type := 9, pos := "l2_ver.go:166", after := #[{ on := 6, ground := Go.Ground.data }], guard := none }) (v := ?v7) rfl (by kernel_rfl) (by kernel_rfl) (by kernel_rfl) (fun _ _ _ h => h) (Or.inl ⟨by rfl, ?y7⟩) hH0 ?r7
              case y7 => (intro w hSw; (try dsimp only at hSw); go_simp; (try with_reducible rfl))
              (try simp only [Act.put, List.setIfInBounds_toArray, List.set_cons_zero, List.set_cons_succ])
              refine wpAnyH_take (i := 9) (oi := { dst := some 71, op := Go.Op.move (Go.Operand.tmp 7), type := 43, pos := "l2_ver.go:166", after := #[], guard := none }) (v := ?v8) rfl (by kernel_rfl) (by kernel_rfl) (by kernel_rfl) (fun _ _ _ h => h) (Or.inl ⟨by rfl, ?y8⟩) hH0 ?r8
              case y8 => (intro w hSw; (try dsimp only at hSw); go_simp; (try with_reducible rfl))
              (try simp only [Act.put, List.setIfInBounds_toArray, List.set_cons_zero, List.set_cons_succ])
              refine wpAnyH_take (i := 10) (oi := { dst := some 72, op := Go.Op.move (Go.Operand.tmp 8), type := 3, pos := "l2_ver.go:166", after := #[], guard := none }) (v := ?v9) rfl (by kernel_rfl) (by kernel_rfl) (by kernel_rfl) (fun _ _ _ h => h) (Or.inl ⟨by rfl, ?y9⟩) hH0 ?r9
              case y9 => (intro w hSw; (try dsimp only at hSw); go_simp; (try with_reducible rfl))
              (try simp only [Act.put, List.setIfInBounds_toArray, List.set_cons_zero, List.set_cons_succ])
              refine wpAnyH_take (i := 11) (oi := { dst := some 73, op := Go.Op.slice 43 (Go.Operand.tmp 71) (some (Go.Operand.tmp 72)) none none, type := 43, pos := "l2_ver.go:166", after := #[{ on := 9, ground := Go.Ground.data }, { on := 10, ground := Go.Ground.data }], guard := none }) (v := ?v10) rfl (by kernel_rfl) (by kernel_rfl) (by kernel_rfl) (fun _ _ _ h => h) (Or.inl ⟨by rfl, ?y10⟩) hH0 ?r10
              case y10 => (intro w hSw; (try dsimp only at hSw); go_simp; (try with_reducible rfl))
              (try simp only [Act.put, List.setIfInBounds_toArray, List.set_cons_zero, List.set_cons_succ])
              refine wpAnyH_ready (rs := [1, 8]) (by kernel_rfl) (by simp) ?_
              refine AllReadyH.cons (o := { dst := some 63, op := Go.Op.load 23 (Go.Operand.tmp 62), type := 23, pos := "l2_ver.go:166", after := #[{ on := 0, ground := Go.Ground.data }], guard := none }) rfl (fun K hK => ?s12) ?m12
              case s12 =>
                go_simp
                refine hK.out _ _ ?h12 (fun hH12 => ?g12)
                case h12 => ((try dsimp only); (first | with_reducible exact q | with_reducible exact keepV1_allocD q | with_reducible exact keepV1_alloc q | with_reducible exact keepV1_set mc md q | fail))
                clear hK K hH0
                (try simp only [Act.put, List.setIfInBounds_toArray, List.set_cons_zero, List.set_cons_succ])
                refine wpAnyH_ready (rs := [8]) (by kernel_rfl) (by simp) ?_
                refine AllReadyH.cons (o := { dst := some 70, op := Go.Op.buildSlice 43 0 #[], type := 43, pos := "l2_ver.go:166", after := #[], guard := none }) rfl (fun K hK => ?s14) ?m14
                case s14 =>
                  go_simp
                  refine hK.out _ _ ?h14 (fun hH14 => ?g14)
                  case h14 => ((try dsimp only); (first | with_reducible exact q | with_reducible exact keepV1_allocD q | with_reducible exact keepV1_alloc q | with_reducible exact keepV1_set mc md q | fail))
                  clear hK K hH12
                  (try simp only [Act.put, List.setIfInBounds_toArray, List.set_cons_zero, List.set_cons_succ])
                  refine wpAnyH_ready (rs := [12]) (by kernel_rfl) (by simp) ?_
                  refine AllReadyH.cons (o := { dst := some 74, op := Go.Op.call { callee := Go.Callee.builtin Go.Builtin.append, args := #[Go.Operand.tmp 70, Go.Operand.tmp 73], argTypes := #[43, 43] }, type := 43, pos := "l2_ver.go:166", after := #[{ on := 8, ground := Go.Ground.data }, { on := 11, ground := Go.Ground.data }], guard := none }) rfl (fun K hK => ?s16) ?m16
                  case s16 =>
                    (refine step_append_verM (by rfl) _ _ 43 (by rfl) Try.underlying43 V.heap.size (.slice (some ⟨V.heap.size, 0, none⟩) 0 0) 0 [] (by rfl) (emptyVers (heap_alloc_new _ _) (Nat.le_refl _)) (some ⟨b2, o2 + (F) * 3, none⟩) (vs.drop (F)) (vs.length - (F)) _ (by rfl) hDL.out (.inl ⟨_, _, rfl⟩) (hDV.out.below (((Below.refl _ _).alloc (Nat.le_refl _) _).drew)) (by have := hDL.out; omega) (by simp) (by simp) ?_; intro g cp wC hown hgrow; have hbC := below_appD hgrow; have q := keepV1 hbC q0; have hbxC := HG.out.box.kept (grown_of_belowV hbC) (by simp); have hxC := hbxC.cell; have hxT := fun o => (hbxC.alloc o).cell; have HI := Lib.hid hown; have HO := Lib.hid (Go.Proofs.Ytjijichgoodocaa.ownsRow_of_below HO.out hbC); have hzz := Nat.le_trans hzz hbC.size; have HC := Lib.hid hbC; clear hown hgrow hbC)
                    refine hK.out _ _ ?h16 (fun hH16 => ?g16)
                    case h16 => ((try dsimp only); (first | with_reducible exact q | with_reducible exact keepV1_allocD q | with_reducible exact keepV1_alloc q | with_reducible exact keepV1_set mc md q | fail))
                    clear hK K hH14
                    (try simp only [Act.put, List.setIfInBounds_toArray, List.set_cons_zero, List.set_cons_succ])
                    refine wpAnyH_take (i := 13) (oi := { dst := some 75, op := Go.Op.build 45 #[(0, Go.Operand.tmp 69), (1, Go.Operand.tmp 74)], type := 45, pos := "l2_ver.go:166", after := #[{ on := 7, ground := Go.Ground.data }, { on := 12, ground := Go.Ground.data }], guard := none }) (v := ?v17) rfl (by kernel_rfl) (by kernel_rfl) (by kernel_rfl) (fun _ _ _ h => h) (Or.inl ⟨by rfl, ?y17⟩) hH16 ?r17
                    case y17 => (intro w hSw; (try dsimp only at hSw); go_simp; (try with_reducible rfl))
                    (try simp only [Act.put, List.setIfInBounds_toArray, List.set_cons_zero, List.set_cons_succ])
                    refine wpAnyH_ready (rs := [14]) (by kernel_rfl) (by simp) ?_
                    refine AllReadyH.cons (o := { dst := some 76, op := Go.Op.buildSlice 23 1 #[(0, Go.Operand.tmp 75)], type := 23, pos := "l2_ver.go:166", after := #[{ on := 13, ground := Go.Ground.data }], guard := none }) rfl (fun K hK => ?s19) ?m19
                    case s19 =>
                      go_simp
                      refine hK.out _ _ ?h19 (fun hH19 => ?g19)
                      case h19 => ((try dsimp only); (first | with_reducible exact q | with_reducible exact keepV1_allocD q | with_reducible exact keepV1_alloc q | with_reducible exact keepV1_set mc md q | fail))
                      clear hK K hH16
                      (try simp only [Act.put, List.setIfInBounds_toArray, List.set_cons_zero, List.set_cons_succ])
                      refine wpAnyH_ready (rs := [15]) (by kernel_rfl) (by simp) ?_
                      refine AllReadyH.cons (o := { dst := some 77, op := Go.Op.call { callee := Go.Callee.builtin Go.Builtin.append, args := #[Go.Operand.tmp 63, Go.Operand.tmp 76], argTypes := #[23, 23] }, type := 23, pos := "l2_ver.go:166", after := #[{ on := 1, ground := Go.Ground.data }, { on := 14, ground := Go.Ground.data }, { on := 12, ground := Go.Ground.chain }], guard := none }) rfl (fun K hK => ?s21) ?m21
                      case s21 =>
                        (refine step_append_lies _ (by rfl) _ _ 23 (by rfl) W2.heap.size 45 i0 (.agg #[.string ⟨#[]⟩, .slice none 0 0]) 2 40 Try.underlying23 hi0 hz0 hz1 hz2 rfl (by omega) v cs.length (cs.flatMap objCells) (by rfl) (HO.out.alloc _) ⟨wC.heap.size, 0, none⟩ 1 1 [.string os[k].key, .slice (some ⟨g, 0, none⟩) (vs.length - F) cp] (by rfl) (by rfl) (World.news_of_block (heap_alloc_new wC _)) (fun u hu => (by simp at hu; rcases hu with rfl | rfl <;> rfl)) (by omega) (by unfold maxLen; omega) (by omega) (by simp; omega) _ rfl ?_; intro gg cq wD hown hgrow hat hlt2; have q := keepV1_far hgrow nc nd (keepV1_alloc q); have hbxD := (hbxC.alloc _).kept hgrow hne; have hxD := hbxD.cell; have hfD := hbxD.frozen; have X := Lib.hid (And.intro hown hgrow); clear hown hgrow hat hlt2)
                        refine hK.out _ _ ?h21 (fun hH21 => ?g21)
                        case h21 => ((try dsimp only); (first | with_reducible exact q | with_reducible exact keepV1_allocD q | with_reducible exact keepV1_alloc q | with_reducible exact keepV1_set mc md q | fail))
                        clear hK K hH19
                        (try simp only [Act.put, List.setIfInBounds_toArray, List.set_cons_zero, List.set_cons_succ])
                        refine wpAnyH_take (i := 16) (oi := { dst := some 78, op := Go.Op.fieldAddr 25 (Go.Operand.tmp 5) 0, type := 0, pos := "l2_ver.go:166", after := #[{ on := 0, ground := Go.Ground.phase }, { on := 1, ground := Go.Ground.phase }, { on := 2, ground := Go.Ground.phase }, { on := 3, ground := Go.Ground.phase }, { on := 4, ground := Go.Ground.phase }, { on := 5, ground := Go.Ground.phase }, { on := 6, ground := Go.Ground.phase }, { on := 7, ground := Go.Ground.phase }, { on := 8, ground := Go.Ground.phase }, { on := 9, ground := Go.Ground.phase }, { on := 10, ground := Go.Ground.phase }, { on := 11, ground := Go.Ground.phase }, { on := 12, ground := Go.Ground.phase }, { on := 13, ground := Go.Ground.phase }, { on := 14, ground := Go.Ground.phase }, { on := 15, ground := Go.Ground.phase }], guard := none }) (v := ?v22) rfl (by kernel_rfl) (by kernel_rfl) (by kernel_rfl) (fun _ _ _ h => h) (Or.inl ⟨by rfl, ?y22⟩) hH21 ?r22
                        case y22 => (intro w hSw; (try dsimp only at hSw); go_simp; (try with_reducible rfl))
                        (try simp only [Act.put, List.setIfInBounds_toArray, List.set_cons_zero, List.set_cons_succ])
                        refine wpAnyH_ready (rs := [17]) (by kernel_rfl) (by simp) ?_
                        refine AllReadyH.cons (o := { dst := none, op := Go.Op.store 23 (Go.Operand.tmp 78) (Go.Operand.tmp 77), type := 0, pos := "l2_ver.go:166", after := #[{ on := 16, ground := Go.Ground.data }, { on := 15, ground := Go.Ground.data }, { on := 15, ground := Go.Ground.chain }, { on := 0, ground := Go.Ground.phase }, { on := 1, ground := Go.Ground.phase }, { on := 2, ground := Go.Ground.phase }, { on := 3, ground := Go.Ground.phase }, { on := 4, ground := Go.Ground.phase }, { on := 5, ground := Go.Ground.phase }, { on := 6, ground := Go.Ground.phase }, { on := 7, ground := Go.Ground.phase }, { on := 8, ground := Go.Ground.phase }, { on := 9, ground := Go.Ground.phase }, { on := 10, ground := Go.Ground.phase }, { on := 11, ground := Go.Ground.phase }, { on := 12, ground := Go.Ground.phase }, { on := 13, ground := Go.Ground.phase }, { on := 14, ground := Go.Ground.phase }, { on := 15, ground := Go.Ground.phase }], guard := none }) rfl (fun K hK => ?s24) ?m24
                        case s24 =>
                          go_simp
                          refine hK.out _ _ ?h24 (fun hH24 => ?g24)
                          case h24 => ((try dsimp only); (first | with_reducible exact q | with_reducible exact keepV1_allocD q | with_reducible exact keepV1_alloc q | with_reducible exact keepV1_set mc md q | fail))
                          clear hK K hH21
                          (try simp only [Act.put, List.setIfInBounds_toArray, List.set_cons_zero, List.set_cons_succ])
                          refine wpAnyH_done (by kernel_rfl) ?_ _
                          clear hH24
                          obtain ⟨hown, hgrow⟩ := X.out
                          have hI := HI.out
                          simp only [Nat.zero_add, List.nil_append] at hI hown hgrow
                          rw [← hDL.out] at hI hown hgrow
                          obtain ⟨pa, pc, pe, p1, p2, p3, p4, p5⟩ := own_versH hI
                          injection pe with pe1 pe2 pe3
                          subst pe1 pe3
                          have HPush := Gv.push (o := ⟨os[k].key, some ⟨g, 0, none⟩, cp, vs.drop (F)⟩) HG.out HC.out hsz p1 p2 p3 p4 p5 (by first | exact hown | (rw [objCells]; simpa using hown)) hgrow
                          obtain ⟨hbx, hG2⟩ := HPush
                          have hTD := Lib.hid ((turned_grown (HT.out.trans (Turned.of_below (HC.out.alloc HC.out.size _))) hgrow (fun j hj => (HO.out.lt j hj).1)).setCell (p := ⟨W1.heap.size, 0, none⟩) rfl (.slice (some ⟨gg, 0, none⟩) (cs.length + 1) cq))
                          have hG2 := Lib.hid hG2
                          clear hown hgrow hI p1 p2 p3 p4 p5 hbx X HI
                          go_wp2_with fail
                          go_roundw
                          case rel => exact ⟨k + 1, cs ++ [⟨os[k].key, some ⟨g, 0, none⟩, cp, vs.drop (F)⟩], _, by omega, by go_num, hTD.out, hG2.out, by rw [List.map_append, HK.out, List.take_succ_eq_append_getElem hlt, pruneIn_yes (o := os[k]) (by rw [HVS.out, ← HU.out]; omega), HVS.out, ← HU.out]; rfl⟩
                          case measure => simp [intOf]; omega
                        exact AllReadyH.nil
                      exact AllReadyH.nil
                    exact AllReadyH.nil
                  exact AllReadyH.nil
                exact AllReadyH.nil
              refine AllReadyH.cons (o := { dst := some 70, op := Go.Op.buildSlice 43 0 #[], type := 43, pos := "l2_ver.go:166", after := #[], guard := none }) rfl (fun K hK => ?s25) ?m25
              case s25 =>
                go_simp
                refine hK.out _ _ ?h25 (fun hH25 => ?g25)
                case h25 => ((try dsimp only); (first | with_reducible exact q | with_reducible exact keepV1_allocD q | with_reducible exact keepV1_alloc q | with_reducible exact keepV1_set mc md q | fail))
                clear hK K hH0
                (try simp only [Act.put, List.setIfInBounds_toArray, List.set_cons_zero, List.set_cons_succ])
                refine wpAnyH_ready (rs := [1, 12]) (by kernel_rfl) (by simp) ?_
                refine AllReadyH.cons (o := { dst := some 63, op := Go.Op.load 23 (Go.Operand.tmp 62), type := 23, pos := "l2_ver.go:166", after := #[{ on := 0, ground := Go.Ground.data }], guard := none }) rfl (fun K hK => ?s27) ?m27
                case s27 =>
                  go_simp
                  refine hK.out _ _ ?h27 (fun hH27 => ?g27)
                  case h27 => ((try dsimp only); (first | with_reducible exact q | with_reducible exact keepV1_allocD q | with_reducible exact keepV1_alloc q | with_reducible exact keepV1_set mc md q | fail))
                  clear hK K hH25
                  (try simp only [Act.put, List.setIfInBounds_toArray, List.set_cons_zero, List.set_cons_succ])
                  refine wpAnyH_ready (rs := [12]) (by kernel_rfl) (by simp) ?_
                  refine AllReadyH.cons (o := { dst := some 74, op := Go.Op.call { callee := Go.Callee.builtin Go.Builtin.append, args := #[Go.Operand.tmp 70, Go.Operand.tmp 73], argTypes := #[43, 43] }, type := 43, pos := "l2_ver.go:166", after := #[{ on := 8, ground := Go.Ground.data }, { on := 11, ground := Go.Ground.data }], guard := none }) rfl (fun K hK => ?s29) ?m29
                  case s29 =>
                    (refine step_append_verM (by rfl) _ _ 43 (by rfl) Try.underlying43 V.heap.size (.slice (some ⟨V.heap.size, 0, none⟩) 0 0) 0 [] (by rfl) (emptyVers (heap_alloc_new _ _) (Nat.le_refl _)) (some ⟨b2, o2 + (F) * 3, none⟩) (vs.drop (F)) (vs.length - (F)) _ (by rfl) hDL.out (.inl ⟨_, _, rfl⟩) (hDV.out.below (((Below.refl _ _).alloc (Nat.le_refl _) _).drew)) (by have := hDL.out; omega) (by simp) (by simp) ?_; intro g cp wC hown hgrow; have hbC := below_appD hgrow; have q := keepV1 hbC q0; have hbxC := HG.out.box.kept (grown_of_belowV hbC) (by simp); have hxC := hbxC.cell; have hxT := fun o => (hbxC.alloc o).cell; have HI := Lib.hid hown; have HO := Lib.hid (Go.Proofs.Ytjijichgoodocaa.ownsRow_of_below HO.out hbC); have hzz := Nat.le_trans hzz hbC.size; have HC := Lib.hid hbC; clear hown hgrow hbC)
                    refine hK.out _ _ ?h29 (fun hH29 => ?g29)
                    case h29 => ((try dsimp only); (first | with_reducible exact q | with_reducible exact keepV1_allocD q | with_reducible exact keepV1_alloc q | with_reducible exact keepV1_set mc md q | fail))
                    clear hK K hH27
                    (try simp only [Act.put, List.setIfInBounds_toArray, List.set_cons_zero, List.set_cons_succ])
                    refine wpAnyH_take (i := 13) (oi := { dst := some 75, op := Go.Op.build 45 #[(0, Go.Operand.tmp 69), (1, Go.Operand.tmp 74)], type := 45, pos := "l2_ver.go:166", after := #[{ on := 7, ground := Go.Ground.data }, { on := 12, ground := Go.Ground.data }], guard := none }) (v := ?v30) rfl (by kernel_rfl) (by kernel_rfl) (by kernel_rfl) (fun _ _ _ h => h) (Or.inl ⟨by rfl, ?y30⟩) hH29 ?r30
                    case y30 => (intro w hSw; (try dsimp only at hSw); go_simp; (try with_reducible rfl))
                    (try simp only [Act.put, List.setIfInBounds_toArray, List.set_cons_zero, List.set_cons_succ])
                    refine wpAnyH_ready (rs := [14]) (by kernel_rfl) (by simp) ?_
                    refine AllReadyH.cons (o := { dst := some 76, op := Go.Op.buildSlice 23 1 #[(0, Go.Operand.tmp 75)], type := 23, pos := "l2_ver.go:166", after := #[{ on := 13, ground := Go.Ground.data }], guard := none }) rfl (fun K hK => ?s32) ?m32
                    case s32 =>
                      go_simp
                      refine hK.out _ _ ?h32 (fun hH32 => ?g32)
                      case h32 => ((try dsimp only); (first | with_reducible exact q | with_reducible exact keepV1_allocD q | with_reducible exact keepV1_alloc q | with_reducible exact keepV1_set mc md q | fail))
                      clear hK K hH29
                      (try simp only [Act.put, List.setIfInBounds_toArray, List.set_cons_zero, List.set_cons_succ])
                      refine wpAnyH_ready (rs := [15]) (by kernel_rfl) (by simp) ?_
                      refine AllReadyH.cons (o := { dst := some 77, op := Go.Op.call { callee := Go.Callee.builtin Go.Builtin.append, args := #[Go.Operand.tmp 63, Go.Operand.tmp 76], argTypes := #[23, 23] }, type := 23, pos := "l2_ver.go:166", after := #[{ on := 1, ground := Go.Ground.data }, { on := 14, ground := Go.Ground.data }, { on := 12, ground := Go.Ground.chain }], guard := none }) rfl (fun K hK => ?s34) ?m34
                      case s34 =>
                        (refine step_append_lies _ (by rfl) _ _ 23 (by rfl) W2.heap.size 45 i0 (.agg #[.string ⟨#[]⟩, .slice none 0 0]) 2 40 Try.underlying23 hi0 hz0 hz1 hz2 rfl (by omega) v cs.length (cs.flatMap objCells) (by rfl) (HO.out.alloc _) ⟨wC.heap.size, 0, none⟩ 1 1 [.string os[k].key, .slice (some ⟨g, 0, none⟩) (vs.length - F) cp] (by rfl) (by rfl) (World.news_of_block (heap_alloc_new wC _)) (fun u hu => (by simp at hu; rcases hu with rfl | rfl <;> rfl)) (by omega) (by unfold maxLen; omega) (by omega) (by simp; omega) _ rfl ?_; intro gg cq wD hown hgrow hat hlt2; have q := keepV1_far hgrow nc nd (keepV1_alloc q); have hbxD := (hbxC.alloc _).kept hgrow hne; have hxD := hbxD.cell; have hfD := hbxD.frozen; have X := Lib.hid (And.intro hown hgrow); clear hown hgrow hat hlt2)
                        refine hK.out _ _ ?h34 (fun hH34 => ?g34)
                        case h34 => ((try dsimp only); (first | with_reducible exact q | with_reducible exact keepV1_allocD q | with_reducible exact keepV1_alloc q | with_reducible exact keepV1_set mc md q | fail))
                        clear hK K hH32
                        (try simp only [Act.put, List.setIfInBounds_toArray, List.set_cons_zero, List.set_cons_succ])
                        refine wpAnyH_take (i := 16) (oi := { dst := some 78, op := Go.Op.fieldAddr 25 (Go.Operand.tmp 5) 0, type := 0, pos := "l2_ver.go:166", after := #[{ on := 0, ground := Go.Ground.phase }, { on := 1, ground := Go.Ground.phase }, { on := 2, ground := Go.Ground.phase }, { on := 3, ground := Go.Ground.phase }, { on := 4, ground := Go.Ground.phase }, { on := 5, ground := Go.Ground.phase }, { on := 6, ground := Go.Ground.phase }, { on := 7, ground := Go.Ground.phase }, { on := 8, ground := Go.Ground.phase }, { on := 9, ground := Go.Ground.phase }, { on := 10, ground := Go.Ground.phase }, { on := 11, ground := Go.Ground.phase }, { on := 12, ground := Go.Ground.phase }, { on := 13, ground := Go.Ground.phase }, { on := 14, ground := Go.Ground.phase }, { on := 15, ground := Go.Ground.phase }], guard := none }) (v := ?v35) rfl (by kernel_rfl) (by kernel_rfl) (by kernel_rfl) (fun _ _ _ h => h) (Or.inl ⟨by rfl, ?y35⟩) hH34 ?r35
                        case y35 => (intro w hSw; (try dsimp only at hSw); go_simp; (try with_reducible rfl))
                        (try simp only [Act.put, List.setIfInBounds_toArray, List.set_cons_zero, List.set_cons_succ])
                        refine wpAnyH_ready (rs := [17]) (by kernel_rfl) (by simp) ?_
                        refine AllReadyH.cons (o := { dst := none, op := Go.Op.store 23 (Go.Operand.tmp 78) (Go.Operand.tmp 77), type := 0, pos := "l2_ver.go:166", after := #[{ on := 16, ground := Go.Ground.data }, { on := 15, ground := Go.Ground.data }, { on := 15, ground := Go.Ground.chain }, { on := 0, ground := Go.Ground.phase }, { on := 1, ground := Go.Ground.phase }, { on := 2, ground := Go.Ground.phase }, { on := 3, ground := Go.Ground.phase }, { on := 4, ground := Go.Ground.phase }, { on := 5, ground := Go.Ground.phase }, { on := 6, ground := Go.Ground.phase }, { on := 7, ground := Go.Ground.phase }, { on := 8, ground := Go.Ground.phase }, { on := 9, ground := Go.Ground.phase }, { on := 10, ground := Go.Ground.phase }, { on := 11, ground := Go.Ground.phase }, { on := 12, ground := Go.Ground.phase }, { on := 13, ground := Go.Ground.phase }, { on := 14, ground := Go.Ground.phase }, { on := 15, ground := Go.Ground.phase }], guard := none }) rfl (fun K hK => ?s37) ?m37
                        case s37 =>
                          go_simp
                          refine hK.out _ _ ?h37 (fun hH37 => ?g37)
                          case h37 => ((try dsimp only); (first | with_reducible exact q | with_reducible exact keepV1_allocD q | with_reducible exact keepV1_alloc q | with_reducible exact keepV1_set mc md q | fail))
                          clear hK K hH34
                          (try simp only [Act.put, List.setIfInBounds_toArray, List.set_cons_zero, List.set_cons_succ])
                          refine wpAnyH_done (by kernel_rfl) ?_ _
                          clear hH37
                          obtain ⟨hown, hgrow⟩ := X.out
                          have hI := HI.out
                          simp only [Nat.zero_add, List.nil_append] at hI hown hgrow
                          rw [← hDL.out] at hI hown hgrow
                          obtain ⟨pa, pc, pe, p1, p2, p3, p4, p5⟩ := own_versH hI
                          injection pe with pe1 pe2 pe3
                          subst pe1 pe3
                          have HPush := Gv.push (o := ⟨os[k].key, some ⟨g, 0, none⟩, cp, vs.drop (F)⟩) HG.out HC.out hsz p1 p2 p3 p4 p5 (by first | exact hown | (rw [objCells]; simpa using hown)) hgrow
                          obtain ⟨hbx, hG2⟩ := HPush
                          have hTD := Lib.hid ((turned_grown (HT.out.trans (Turned.of_below (HC.out.alloc HC.out.size _))) hgrow (fun j hj => (HO.out.lt j hj).1)).setCell (p := ⟨W1.heap.size, 0, none⟩) rfl (.slice (some ⟨gg, 0, none⟩) (cs.length + 1) cq))
                          have hG2 := Lib.hid hG2
                          clear hown hgrow hI p1 p2 p3 p4 p5 hbx X HI
                          go_wp2_with fail
                          go_roundw
                          case rel => exact ⟨k + 1, cs ++ [⟨os[k].key, some ⟨g, 0, none⟩, cp, vs.drop (F)⟩], _, by omega, by go_num, hTD.out, hG2.out, by rw [List.map_append, HK.out, List.take_succ_eq_append_getElem hlt, pruneIn_yes (o := os[k]) (by rw [HVS.out, ← HU.out]; omega), HVS.out, ← HU.out]; rfl⟩
                          case measure => simp [intOf]; omega
                        exact AllReadyH.nil
                      exact AllReadyH.nil
                    exact AllReadyH.nil
                  exact AllReadyH.nil
                refine AllReadyH.cons (o := { dst := some 74, op := Go.Op.call { callee := Go.Callee.builtin Go.Builtin.append, args := #[Go.Operand.tmp 70, Go.Operand.tmp 73], argTypes := #[43, 43] }, type := 43, pos := "l2_ver.go:166", after := #[{ on := 8, ground := Go.Ground.data }, { on := 11, ground := Go.Ground.data }], guard := none }) rfl (fun K hK => ?s38) ?m38
                case s38 =>
                  (refine step_append_verM (by rfl) _ _ 43 (by rfl) Try.underlying43 V.heap.size (.slice (some ⟨V.heap.size, 0, none⟩) 0 0) 0 [] (by rfl) (emptyVers (heap_alloc_new _ _) (Nat.le_refl _)) (some ⟨b2, o2 + (F) * 3, none⟩) (vs.drop (F)) (vs.length - (F)) _ (by rfl) hDL.out (.inl ⟨_, _, rfl⟩) (hDV.out.below (((Below.refl _ _).alloc (Nat.le_refl _) _).drew)) (by have := hDL.out; omega) (by simp) (by simp) ?_; intro g cp wC hown hgrow; have hbC := below_appD hgrow; have q := keepV1 hbC q0; have hbxC := HG.out.box.kept (grown_of_belowV hbC) (by simp); have hxC := hbxC.cell; have hxT := fun o => (hbxC.alloc o).cell; have HI := Lib.hid hown; have HO := Lib.hid (Go.Proofs.Ytjijichgoodocaa.ownsRow_of_below HO.out hbC); have hzz := Nat.le_trans hzz hbC.size; have HC := Lib.hid hbC; clear hown hgrow hbC)
                  refine hK.out _ _ ?h38 (fun hH38 => ?g38)
                  case h38 => ((try dsimp only); (first | with_reducible exact q | with_reducible exact keepV1_allocD q | with_reducible exact keepV1_alloc q | with_reducible exact keepV1_set mc md q | fail))
                  clear hK K hH25
                  (try simp only [Act.put, List.setIfInBounds_toArray, List.set_cons_zero, List.set_cons_succ])
                  refine wpAnyH_take (i := 13) (oi := { dst := some 75, op := Go.Op.build 45 #[(0, Go.Operand.tmp 69), (1, Go.Operand.tmp 74)], type := 45, pos := "l2_ver.go:166", after := #[{ on := 7, ground := Go.Ground.data }, { on := 12, ground := Go.Ground.data }], guard := none }) (v := ?v39) rfl (by kernel_rfl) (by kernel_rfl) (by kernel_rfl) (fun _ _ _ h => h) (Or.inl ⟨by rfl, ?y39⟩) hH38 ?r39
                  case y39 => (intro w hSw; (try dsimp only at hSw); go_simp; (try with_reducible rfl))
                  (try simp only [Act.put, List.setIfInBounds_toArray, List.set_cons_zero, List.set_cons_succ])
                  refine wpAnyH_ready (rs := [1, 14]) (by kernel_rfl) (by simp) ?_
                  refine AllReadyH.cons (o := { dst := some 63, op := Go.Op.load 23 (Go.Operand.tmp 62), type := 23, pos := "l2_ver.go:166", after := #[{ on := 0, ground := Go.Ground.data }], guard := none }) rfl (fun K hK => ?s41) ?m41
                  case s41 =>
                    go_simp
                    refine hK.out _ _ ?h41 (fun hH41 => ?g41)
                    case h41 => ((try dsimp only); (first | with_reducible exact q | with_reducible exact keepV1_allocD q | with_reducible exact keepV1_alloc q | with_reducible exact keepV1_set mc md q | fail))
                    clear hK K hH38
                    (try simp only [Act.put, List.setIfInBounds_toArray, List.set_cons_zero, List.set_cons_succ])
                    refine wpAnyH_ready (rs := [14]) (by kernel_rfl) (by simp) ?_
                    refine AllReadyH.cons (o := { dst := some 76, op := Go.Op.buildSlice 23 1 #[(0, Go.Operand.tmp 75)], type := 23, pos := "l2_ver.go:166", after := #[{ on := 13, ground := Go.Ground.data }], guard := none }) rfl (fun K hK => ?s43) ?m43
                    case s43 =>
                      go_simp
                      refine hK.out _ _ ?h43 (fun hH43 => ?g43)
                      case h43 => ((try dsimp only); (first | with_reducible exact q | with_reducible exact keepV1_allocD q | with_reducible exact keepV1_alloc q | with_reducible exact keepV1_set mc md q | fail))
                      clear hK K hH41
                      (try simp only [Act.put, List.setIfInBounds_toArray, List.set_cons_zero, List.set_cons_succ])
                      refine wpAnyH_ready (rs := [15]) (by kernel_rfl) (by simp) ?_
                      refine AllReadyH.cons (o := { dst := some 77, op := Go.Op.call { callee := Go.Callee.builtin Go.Builtin.append, args := #[Go.Operand.tmp 63, Go.Operand.tmp 76], argTypes := #[23, 23] }, type := 23, pos := "l2_ver.go:166", after := #[{ on := 1, ground := Go.Ground.data }, { on := 14, ground := Go.Ground.data }, { on := 12, ground := Go.Ground.chain }], guard := none }) rfl (fun K hK => ?s45) ?m45
                      case s45 =>
                        (refine step_append_lies _ (by rfl) _ _ 23 (by rfl) W2.heap.size 45 i0 (.agg #[.string ⟨#[]⟩, .slice none 0 0]) 2 40 Try.underlying23 hi0 hz0 hz1 hz2 rfl (by omega) v cs.length (cs.flatMap objCells) (by rfl) (HO.out.alloc _) ⟨wC.heap.size, 0, none⟩ 1 1 [.string os[k].key, .slice (some ⟨g, 0, none⟩) (vs.length - F) cp] (by rfl) (by rfl) (World.news_of_block (heap_alloc_new wC _)) (fun u hu => (by simp at hu; rcases hu with rfl | rfl <;> rfl)) (by omega) (by unfold maxLen; omega) (by omega) (by simp; omega) _ rfl ?_; intro gg cq wD hown hgrow hat hlt2; have q := keepV1_far hgrow nc nd (keepV1_alloc q); have hbxD := (hbxC.alloc _).kept hgrow hne; have hxD := hbxD.cell; have hfD := hbxD.frozen; have X := Lib.hid (And.intro hown hgrow); clear hown hgrow hat hlt2)
                        refine hK.out _ _ ?h45 (fun hH45 => ?g45)
                        case h45 => ((try dsimp only); (first | with_reducible exact q | with_reducible exact keepV1_allocD q | with_reducible exact keepV1_alloc q | with_reducible exact keepV1_set mc md q | fail))
                        clear hK K hH43
                        (try simp only [Act.put, List.setIfInBounds_toArray, List.set_cons_zero, List.set_cons_succ])
                        refine wpAnyH_take (i := 16) (oi := { dst := some 78, op := Go.Op.fieldAddr 25 (Go.Operand.tmp 5) 0, type := 0, pos := "l2_ver.go:166", after := #[{ on := 0, ground := Go.Ground.phase }, { on := 1, ground := Go.Ground.phase }, { on := 2, ground := Go.Ground.phase }, { on := 3, ground := Go.Ground.phase }, { on := 4, ground := Go.Ground.phase }, { on := 5, ground := Go.Ground.phase }, { on := 6, ground := Go.Ground.phase }, { on := 7, ground := Go.Ground.phase }, { on := 8, ground := Go.Ground.phase }, { on := 9, ground := Go.Ground.phase }, { on := 10, ground := Go.Ground.phase }, { on := 11, ground := Go.Ground.phase }, { on := 12, ground := Go.Ground.phase }, { on := 13, ground := Go.Ground.phase }, { on := 14, ground := Go.Ground.phase }, { on := 15, ground := Go.Ground.phase }], guard := none }) (v := ?v46) rfl (by kernel_rfl) (by kernel_rfl) (by kernel_rfl) (fun _ _ _ h => h) (Or.inl ⟨by rfl, ?y46⟩) hH45 ?r46
                        case y46 => (intro w hSw; (try dsimp only at hSw); go_simp; (try with_reducible rfl))
                        (try simp only [Act.put, List.setIfInBounds_toArray, List.set_cons_zero, List.set_cons_succ])
                        refine wpAnyH_ready (rs := [17]) (by kernel_rfl) (by simp) ?_
                        refine AllReadyH.cons (o := { dst := none, op := Go.Op.store 23 (Go.Operand.tmp 78) (Go.Operand.tmp 77), type := 0, pos := "l2_ver.go:166", after := #[{ on := 16, ground := Go.Ground.data }, { on := 15, ground := Go.Ground.data }, { on := 15, ground := Go.Ground.chain }, { on := 0, ground := Go.Ground.phase }, { on := 1, ground := Go.Ground.phase }, { on := 2, ground := Go.Ground.phase }, { on := 3, ground := Go.Ground.phase }, { on := 4, ground := Go.Ground.phase }, { on := 5, ground := Go.Ground.phase }, { on := 6, ground := Go.Ground.phase }, { on := 7, ground := Go.Ground.phase }, { on := 8, ground := Go.Ground.phase }, { on := 9, ground := Go.Ground.phase }, { on := 10, ground := Go.Ground.phase }, { on := 11, ground := Go.Ground.phase }, { on := 12, ground := Go.Ground.phase }, { on := 13, ground := Go.Ground.phase }, { on := 14, ground := Go.Ground.phase }, { on := 15, ground := Go.Ground.phase }], guard := none }) rfl (fun K hK => ?s48) ?m48
                        case s48 =>
                          go_simp
                          refine hK.out _ _ ?h48 (fun hH48 => ?g48)
                          case h48 => ((try dsimp only); (first | with_reducible exact q | with_reducible exact keepV1_allocD q | with_reducible exact keepV1_alloc q | with_reducible exact keepV1_set mc md q | fail))
                          clear hK K hH45
                          (try simp only [Act.put, List.setIfInBounds_toArray, List.set_cons_zero, List.set_cons_succ])
                          refine wpAnyH_done (by kernel_rfl) ?_ _
                          clear hH48
                          obtain ⟨hown, hgrow⟩ := X.out
                          have hI := HI.out
                          simp only [Nat.zero_add, List.nil_append] at hI hown hgrow
                          rw [← hDL.out] at hI hown hgrow
                          obtain ⟨pa, pc, pe, p1, p2, p3, p4, p5⟩ := own_versH hI
                          injection pe with pe1 pe2 pe3
                          subst pe1 pe3
                          have HPush := Gv.push (o := ⟨os[k].key, some ⟨g, 0, none⟩, cp, vs.drop (F)⟩) HG.out HC.out hsz p1 p2 p3 p4 p5 (by first | exact hown | (rw [objCells]; simpa using hown)) hgrow
                          obtain ⟨hbx, hG2⟩ := HPush
                          have hTD := Lib.hid ((turned_grown (HT.out.trans (Turned.of_below (HC.out.alloc HC.out.size _))) hgrow (fun j hj => (HO.out.lt j hj).1)).setCell (p := ⟨W1.heap.size, 0, none⟩) rfl (.slice (some ⟨gg, 0, none⟩) (cs.length + 1) cq))
                          have hG2 := Lib.hid hG2
                          clear hown hgrow hI p1 p2 p3 p4 p5 hbx X HI
                          go_wp2_with fail
                          go_roundw
                          case rel => exact ⟨k + 1, cs ++ [⟨os[k].key, some ⟨g, 0, none⟩, cp, vs.drop (F)⟩], _, by omega, by go_num, hTD.out, hG2.out, by rw [List.map_append, HK.out, List.take_succ_eq_append_getElem hlt, pruneIn_yes (o := os[k]) (by rw [HVS.out, ← HU.out]; omega), HVS.out, ← HU.out]; rfl⟩
                          case measure => simp [intOf]; omega
                        exact AllReadyH.nil
                      exact AllReadyH.nil
                    exact AllReadyH.nil
                  refine AllReadyH.cons (o := { dst := some 76, op := Go.Op.buildSlice 23 1 #[(0, Go.Operand.tmp 75)], type := 23, pos := "l2_ver.go:166", after := #[{ on := 13, ground := Go.Ground.data }], guard := none }) rfl (fun K hK => ?s49) ?m49
                  case s49 =>
                    go_simp
                    refine hK.out _ _ ?h49 (fun hH49 => ?g49)
                    case h49 => ((try dsimp only); (first | with_reducible exact q | with_reducible exact keepV1_allocD q | with_reducible exact keepV1_alloc q | with_reducible exact keepV1_set mc md q | fail))
                    clear hK K hH38
                    (try simp only [Act.put, List.setIfInBounds_toArray, List.set_cons_zero, List.set_cons_succ])
                    refine wpAnyH_ready (rs := [1]) (by kernel_rfl) (by simp) ?_
                    refine AllReadyH.cons (o := { dst := some 63, op := Go.Op.load 23 (Go.Operand.tmp 62), type := 23, pos := "l2_ver.go:166", after := #[{ on := 0, ground := Go.Ground.data }], guard := none }) rfl (fun K hK => ?s51) ?m51
                    case s51 =>
                      go_simp
                      refine hK.out _ _ ?h51 (fun hH51 => ?g51)
                      case h51 => ((try dsimp only); (first | with_reducible exact q | with_reducible exact keepV1_allocD q | with_reducible exact keepV1_alloc q | with_reducible exact keepV1_set mc md q | fail))
                      clear hK K hH49
                      (try simp only [Act.put, List.setIfInBounds_toArray, List.set_cons_zero, List.set_cons_succ])
                      refine wpAnyH_ready (rs := [15]) (by kernel_rfl) (by simp) ?_
                      refine AllReadyH.cons (o := { dst := some 77, op := Go.Op.call { callee := Go.Callee.builtin Go.Builtin.append, args := #[Go.Operand.tmp 63, Go.Operand.tmp 76], argTypes := #[23, 23] }, type := 23, pos := "l2_ver.go:166", after := #[{ on := 1, ground := Go.Ground.data }, { on := 14, ground := Go.Ground.data }, { on := 12, ground := Go.Ground.chain }], guard := none }) rfl (fun K hK => ?s53) ?m53
                      case s53 =>
                        (refine step_append_lies _ (by rfl) _ _ 23 (by rfl) W2.heap.size 45 i0 (.agg #[.string ⟨#[]⟩, .slice none 0 0]) 2 40 Try.underlying23 hi0 hz0 hz1 hz2 rfl (by omega) v cs.length (cs.flatMap objCells) (by rfl) (HO.out.alloc _) ⟨wC.heap.size, 0, none⟩ 1 1 [.string os[k].key, .slice (some ⟨g, 0, none⟩) (vs.length - F) cp] (by rfl) (by rfl) (World.news_of_block (heap_alloc_new wC _)) (fun u hu => (by simp at hu; rcases hu with rfl | rfl <;> rfl)) (by omega) (by unfold maxLen; omega) (by omega) (by simp; omega) _ rfl ?_; intro gg cq wD hown hgrow hat hlt2; have q := keepV1_far hgrow nc nd (keepV1_alloc q); have hbxD := (hbxC.alloc _).kept hgrow hne; have hxD := hbxD.cell; have hfD := hbxD.frozen; have X := Lib.hid (And.intro hown hgrow); clear hown hgrow hat hlt2)
                        refine hK.out _ _ ?h53 (fun hH53 => ?g53)
                        case h53 => ((try dsimp only); (first | with_reducible exact q | with_reducible exact keepV1_allocD q | with_reducible exact keepV1_alloc q | with_reducible exact keepV1_set mc md q | fail))
                        clear hK K hH51
                        (try simp only [Act.put, List.setIfInBounds_toArray, List.set_cons_zero, List.set_cons_succ])
                        refine wpAnyH_take (i := 16) (oi := { dst := some 78, op := Go.Op.fieldAddr 25 (Go.Operand.tmp 5) 0, type := 0, pos := "l2_ver.go:166", after := #[{ on := 0, ground := Go.Ground.phase }, { on := 1, ground := Go.Ground.phase }, { on := 2, ground := Go.Ground.phase }, { on := 3, ground := Go.Ground.phase }, { on := 4, ground := Go.Ground.phase }, { on := 5, ground := Go.Ground.phase }, { on := 6, ground := Go.Ground.phase }, { on := 7, ground := Go.Ground.phase }, { on := 8, ground := Go.Ground.phase }, { on := 9, ground := Go.Ground.phase }, { on := 10, ground := Go.Ground.phase }, { on := 11, ground := Go.Ground.phase }, { on := 12, ground := Go.Ground.phase }, { on := 13, ground := Go.Ground.phase }, { on := 14, ground := Go.Ground.phase }, { on := 15, ground := Go.Ground.phase }], guard := none }) (v := ?v54) rfl (by kernel_rfl) (by kernel_rfl) (by kernel_rfl) (fun _ _ _ h => h) (Or.inl ⟨by rfl, ?y54⟩) hH53 ?r54
                        case y54 => (intro w hSw; (try dsimp only at hSw); go_simp; (try with_reducible rfl))
                        (try simp only [Act.put, List.setIfInBounds_toArray, List.set_cons_zero, List.set_cons_succ])
                        refine wpAnyH_ready (rs := [17]) (by kernel_rfl) (by simp) ?_
                        refine AllReadyH.cons (o := { dst := none, op := Go.Op.store 23 (Go.Operand.tmp 78) (Go.Operand.tmp 77), type := 0, pos := "l2_ver.go:166", after := #[{ on := 16, ground := Go.Ground.data }, { on := 15, ground := Go.Ground.data }, { on := 15, ground := Go.Ground.chain }, { on := 0, ground := Go.Ground.phase }, { on := 1, ground := Go.Ground.phase }, { on := 2, ground := Go.Ground.phase }, { on := 3, ground := Go.Ground.phase }, { on := 4, ground := Go.Ground.phase }, { on := 5, ground := Go.Ground.phase }, { on := 6, ground := Go.Ground.phase }, { on := 7, ground := Go.Ground.phase }, { on := 8, ground := Go.Ground.phase }, { on := 9, ground := Go.Ground.phase }, { on := 10, ground := Go.Ground.phase }, { on := 11, ground := Go.Ground.phase }, { on := 12, ground := Go.Ground.phase }, { on := 13, ground := Go.Ground.phase }, { on := 14, ground := Go.Ground.phase }, { on := 15, ground := Go.Ground.phase }], guard := none }) rfl (fun K hK => ?s56) ?m56
                        case s56 =>
                          go_simp
                          refine hK.out _ _ ?h56 (fun hH56 => ?g56)
                          case h56 => ((try dsimp only); (first | with_reducible exact q | with_reducible exact keepV1_allocD q | with_reducible exact keepV1_alloc q | with_reducible exact keepV1_set mc md q | fail))
                          clear hK K hH53
                          (try simp only [Act.put, List.setIfInBounds_toArray, List.set_cons_zero, List.set_cons_succ])
                          refine wpAnyH_done (by kernel_rfl) ?_ _
                          clear hH56
                          obtain ⟨hown, hgrow⟩ := X.out
                          have hI := HI.out
                          simp only [Nat.zero_add, List.nil_append] at hI hown hgrow
                          rw [← hDL.out] at hI hown hgrow
                          obtain ⟨pa, pc, pe, p1, p2, p3, p4, p5⟩ := own_versH hI
                          injection pe with pe1 pe2 pe3
                          subst pe1 pe3
                          have HPush := Gv.push (o := ⟨os[k].key, some ⟨g, 0, none⟩, cp, vs.drop (F)⟩) HG.out HC.out hsz p1 p2 p3 p4 p5 (by first | exact hown | (rw [objCells]; simpa using hown)) hgrow
                          obtain ⟨hbx, hG2⟩ := HPush
                          have hTD := Lib.hid ((turned_grown (HT.out.trans (Turned.of_below (HC.out.alloc HC.out.size _))) hgrow (fun j hj => (HO.out.lt j hj).1)).setCell (p := ⟨W1.heap.size, 0, none⟩) rfl (.slice (some ⟨gg, 0, none⟩) (cs.length + 1) cq))
                          have hG2 := Lib.hid hG2
                          clear hown hgrow hI p1 p2 p3 p4 p5 hbx X HI
                          go_wp2_with fail
                          go_roundw
                          case rel => exact ⟨k + 1, cs ++ [⟨os[k].key, some ⟨g, 0, none⟩, cp, vs.drop (F)⟩], _, by omega, by go_num, hTD.out, hG2.out, by rw [List.map_append, HK.out, List.take_succ_eq_append_getElem hlt, pruneIn_yes (o := os[k]) (by rw [HVS.out, ← HU.out]; omega), HVS.out, ← HU.out]; rfl⟩
                          case measure => simp [intOf]; omega
                        exact AllReadyH.nil
                      exact AllReadyH.nil
                    exact AllReadyH.nil
                  exact AllReadyH.nil
                exact AllReadyH.nil
              exact AllReadyH.nil
            · rw [hgF] at e2
              rw [if_pos ⟨hpF, hgF⟩] at hU
              have HU := Lib.hid hU
              clear hU
              by_cases hFn : F + 1 < vs.length
              · skip
                have q1 : (0 : Int) ≤ (F : Int) + 1 := by omega
                have q2 : (F : Int) + 1 ≤ (vs.length : Int) := by omega
                have q3 : (F : Int) + 1 ≤ (os[k].cap : Int) := by omega
                have q4 : ((F : Int) + 1).toNat = F + 1 := by omega
                have q5 : ¬ os[k].cap = F + 1 := by omega
                have q6 : (F : Int) + 1 < (vs.length : Int) := by omega
                have hDL := Lib.hid (show (vs.drop (F + 1)).length = vs.length - (F + 1) by simp)
                have hDV := Lib.hid (HX.out.drop (F + 1))
                have hx := HG.out.box.cell
                have hfx := HG.out.box.frozen
                have hne := HG.out.ne
                have nc : some w.heap.size ≠ v.ownBlock := own_neV HG.out.own (.inl (by omega))
                have nd : some b1 ≠ v.ownBlock := own_neV HG.out.own (.inl (by omega))
                have hcl : cs.length ≤ k := by have := congrArg List.length HK.out; have h2 := pruneIn_len id (os.take k); rw [← this] at h2; simp at h2; omega
                have q : V.drew.cell? ⟨w.heap.size, 0, none⟩ = some (.slice (some ⟨b1, o1, none⟩) os.length cap) ∧ V.drew.cell? ⟨b1, o1 + k * 2, none⟩ = some (.string os[k].key) ∧ w.heap.size < V.drew.heap.size ∧ b1 < V.drew.heap.size := ⟨c0, d0, (by show w.heap.size < V.heap.size; omega), hb1⟩
                have HO := Lib.hid HG.out.own
                have hxA : (V.alloc (.cells #[] 27)).drew.cell? ⟨W1.heap.size, 0, none⟩ = some v := (HG.out.box.alloc _).cell
                have mc : w.heap.size ≠ W1.heap.size := by omega
                have md : b1 ≠ W1.heap.size := by omega
                have q0 : V.cell? ⟨w.heap.size, 0, none⟩ = some (.slice (some ⟨b1, o1, none⟩) os.length cap) ∧ V.cell? ⟨b1, o1 + k * 2, none⟩ = some (.string os[k].key) ∧ w.heap.size < V.heap.size ∧ b1 < V.heap.size := q
                have hzz : W2.heap.size ≤ V.heap.size := hsz
                go_wp2_with fail
                clear c0 d0 d1
                refine wp_region_held_drew (S := (fun u => u.cell? ⟨w.heap.size, 0, none⟩ = some (.slice (some ⟨b1, o1, none⟩) os.length cap) ∧ u.cell? ⟨b1, o1 + k * 2, none⟩ = some (.string os[k].key) ∧ w.heap.size < u.heap.size ∧ b1 < u.heap.size)) (by kernel_rfl) q (fun hH0 => ?_)
                refine wpAnyH_take (i := 0) (oi := { dst := some 62, op := Go.Op.fieldAddr 25 (Go.Operand.tmp 5) 0, type := 0, pos := "l2_ver.go:166", after := #[], guard := none }) (v := ?v57) rfl (by kernel_rfl) (by kernel_rfl) (by kernel_rfl) (fun _ _ _ h => h) (Or.inl ⟨by rfl, ?y57⟩) hH0 ?r57
                case y57 => (intro w hSw; (try dsimp only at hSw); go_simp; (try with_reducible rfl))
                (try simp only [Act.put, List.setIfInBounds_toArray, List.set_cons_zero, List.set_cons_succ])
                refine wpAnyH_take (i := 2) (oi := { dst := some 64, op := Go.Op.fieldAddr 25 (Go.Operand.tmp 2) 0, type := 0, pos := "l2_ver.go:166", after := #[], guard := none }) (v := ?v58) rfl (by kernel_rfl) (by kernel_rfl) (by kernel_rfl) (fun _ _ _ h => h) (Or.inl ⟨by rfl, ?y58⟩) hH0 ?r58
                case y58 => (intro w hSw; (try dsimp only at hSw); go_simp; (try with_reducible rfl))
                (try simp only [Act.put, List.setIfInBounds_toArray, List.set_cons_zero, List.set_cons_succ])
                refine wpAnyH_take (i := 3) (oi := { dst := some 65, op := Go.Op.load 23 (Go.Operand.tmp 64), type := 23, pos := "l2_ver.go:166", after := #[{ on := 2, ground := Go.Ground.data }], guard := none }) (v := ?v59) rfl (by kernel_rfl) (by kernel_rfl) (by kernel_rfl) (fun _ _ _ h => h) (Or.inl ⟨by rfl, ?y59⟩) hH0 ?r59
                case y59 => (intro w hSw; (try dsimp only at hSw); go_simp; (try with_reducible rfl))
                (try simp only [Act.put, List.setIfInBounds_toArray, List.set_cons_zero, List.set_cons_succ])
                refine wpAnyH_take (i := 4) (oi := { dst := some 66, op := Go.Op.move (Go.Operand.tmp 6), type := 3, pos := "l2_ver.go:166", after := #[], guard := none }) (v := ?v60) rfl (by kernel_rfl) (by kernel_rfl) (by kernel_rfl) (fun _ _ _ h => h) (Or.inl ⟨by rfl, ?y60⟩) hH0 ?r60
                case y60 => (intro w hSw; (try dsimp only at hSw); go_simp; (try with_reducible rfl))
                (try simp only [Act.put, List.setIfInBounds_toArray, List.set_cons_zero, List.set_cons_succ])
                refine wpAnyH_take (i := 5) (oi := { dst := some 67, op := Go.Op.indexAddr 23 (Go.Operand.tmp 65) (Go.Operand.tmp 66), type := 0, pos := "l2_ver.go:166", after := #[{ on := 3, ground := Go.Ground.data }, { on := 4, ground := Go.Ground.data }], guard := none }) (v := ?v61) rfl (by kernel_rfl) (by kernel_rfl) (by kernel_rfl) (fun _ _ _ h => h) (Or.inl ⟨by rfl, ?y61⟩) hH0 ?r61
                case y61 => (intro w hSw; (try dsimp only at hSw); go_simp; (try with_reducible rfl))
                (try simp only [Act.put, List.setIfInBounds_toArray, List.set_cons_zero, List.set_cons_succ])
                refine wpAnyH_take (i := 6) (oi := { dst := some 68, op := Go.Op.fieldAddr 45 (Go.Operand.tmp 67) 0, type := 0, pos := "l2_ver.go:166", after := #[{ on := 5, ground := Go.Ground.data }], guard := none }) (v := ?v62) rfl (by kernel_rfl) (by kernel_rfl) (by kernel_rfl) (fun _ _ _ h => h) (Or.inl ⟨by rfl, ?y62⟩) hH0 ?r62
                case y62 => (intro w hSw; (try dsimp only at hSw); go_simp; (try with_reducible rfl))
                (try simp only [Act.put, List.setIfInBounds_toArray, List.set_cons_zero, List.set_cons_succ])
                refine wpAnyH_take (i := 7) (oi := { dst := some 69, op := Go.Op.load 9 (Go.Operand.tmp 68), type := 9, pos := "l2_ver.go:166", after := #[{ on := 6, ground := Go.Ground.data }], guard := none }) (v := ?v63) rfl (by kernel_rfl) (by kernel_rfl) (by kernel_rfl) (fun _ _ _ h => h) (Or.inl ⟨by rfl, ?y63⟩) hH0 ?r63
                case y63 => (intro w hSw; (try dsimp only at hSw); go_simp; (try with_reducible rfl))
                (try simp only [Act.put, List.setIfInBounds_toArray, List.set_cons_zero, List.set_cons_succ])
                refine wpAnyH_take (i := 9) (oi := { dst := some 71, op := Go.Op.move (Go.Operand.tmp 7), type := 43, pos := "l2_ver.go:166", after := #[], guard := none }) (v := ?v64) rfl (by kernel_rfl) (by kernel_rfl) (by kernel_rfl) (fun _ _ _ h => h) (Or.inl ⟨by rfl, ?y64⟩) hH0 ?r64
                case y64 => (intro w hSw; (try dsimp only at hSw); go_simp; (try with_reducible rfl))
                (try simp only [Act.put, List.setIfInBounds_toArray, List.set_cons_zero, List.set_cons_succ])
                refine wpAnyH_take (i := 10) (oi := { dst := some 72, op := Go.Op.move (Go.Operand.tmp 8), type := 3, pos := "l2_ver.go:166", after := #[], guard := none }) (v := ?v65) rfl (by kernel_rfl) (by kernel_rfl) (by kernel_rfl) (fun _ _ _ h => h) (Or.inl ⟨by rfl, ?y65⟩) hH0 ?r65
                case y65 => (intro w hSw; (try dsimp only at hSw); go_simp; (try with_reducible rfl))
                (try simp only [Act.put, List.setIfInBounds_toArray, List.set_cons_zero, List.set_cons_succ])
                refine wpAnyH_take (i := 11) (oi := { dst := some 73, op := Go.Op.slice 43 (Go.Operand.tmp 71) (some (Go.Operand.tmp 72)) none none, type := 43, pos := "l2_ver.go:166", after := #[{ on := 9, ground := Go.Ground.data }, { on := 10, ground := Go.Ground.data }], guard := none }) (v := ?v66) rfl (by kernel_rfl) (by kernel_rfl) (by kernel_rfl) (fun _ _ _ h => h) (Or.inl ⟨by rfl, ?y66⟩) hH0 ?r66
                case y66 => (intro w hSw; (try dsimp only at hSw); go_simp; (try with_reducible rfl))
                (try simp only [Act.put, List.setIfInBounds_toArray, List.set_cons_zero, List.set_cons_succ])
                refine wpAnyH_ready (rs := [1, 8]) (by kernel_rfl) (by simp) ?_
                refine AllReadyH.cons (o := { dst := some 63, op := Go.Op.load 23 (Go.Operand.tmp 62), type := 23, pos := "l2_ver.go:166", after := #[{ on := 0, ground := Go.Ground.data }], guard := none }) rfl (fun K hK => ?s68) ?m68
                case s68 =>
                  go_simp
                  refine hK.out _ _ ?h68 (fun hH68 => ?g68)
                  case h68 => ((try dsimp only); (first | with_reducible exact q | with_reducible exact keepV1_allocD q | with_reducible exact keepV1_alloc q | with_reducible exact keepV1_set mc md q | fail))
                  clear hK K hH0
                  (try simp only [Act.put, List.setIfInBounds_toArray, List.set_cons_zero, List.set_cons_succ])
                  refine wpAnyH_ready (rs := [8]) (by kernel_rfl) (by simp) ?_
                  refine AllReadyH.cons (o := { dst := some 70, op := Go.Op.buildSlice 43 0 #[], type := 43, pos := "l2_ver.go:166", after := #[], guard := none }) rfl (fun K hK => ?s70) ?m70
                  case s70 =>
                    go_simp
                    refine hK.out _ _ ?h70 (fun hH70 => ?g70)
                    case h70 => ((try dsimp only); (first | with_reducible exact q | with_reducible exact keepV1_allocD q | with_reducible exact keepV1_alloc q | with_reducible exact keepV1_set mc md q | fail))
                    clear hK K hH68
                    (try simp only [Act.put, List.setIfInBounds_toArray, List.set_cons_zero, List.set_cons_succ])
                    refine wpAnyH_ready (rs := [12]) (by kernel_rfl) (by simp) ?_
                    refine AllReadyH.cons (o := { dst := some 74, op := Go.Op.call { callee := Go.Callee.builtin Go.Builtin.append, args := #[Go.Operand.tmp 70, Go.Operand.tmp 73], argTypes := #[43, 43] }, type := 43, pos := "l2_ver.go:166", after := #[{ on := 8, ground := Go.Ground.data }, { on := 11, ground := Go.Ground.data }], guard := none }) rfl (fun K hK => ?s72) ?m72
                    case s72 =>
                      (refine step_append_verM (by rfl) _ _ 43 (by rfl) Try.underlying43 V.heap.size (.slice (some ⟨V.heap.size, 0, none⟩) 0 0) 0 [] (by rfl) (emptyVers (heap_alloc_new _ _) (Nat.le_refl _)) (some ⟨b2, o2 + (F + 1) * 3, none⟩) (vs.drop (F + 1)) (vs.length - (F + 1)) _ (by rfl) hDL.out (.inl ⟨_, _, rfl⟩) (hDV.out.below (((Below.refl _ _).alloc (Nat.le_refl _) _).drew)) (by have := hDL.out; omega) (by simp) (by simp) ?_; intro g cp wC hown hgrow; have hbC := below_appD hgrow; have q := keepV1 hbC q0; have hbxC := HG.out.box.kept (grown_of_belowV hbC) (by simp); have hxC := hbxC.cell; have hxT := fun o => (hbxC.alloc o).cell; have HI := Lib.hid hown; have HO := Lib.hid (Go.Proofs.Ytjijichgoodocaa.ownsRow_of_below HO.out hbC); have hzz := Nat.le_trans hzz hbC.size; have HC := Lib.hid hbC; clear hown hgrow hbC)
                      refine hK.out _ _ ?h72 (fun hH72 => ?g72)
                      case h72 => ((try dsimp only); (first | with_reducible exact q | with_reducible exact keepV1_allocD q | with_reducible exact keepV1_alloc q | with_reducible exact keepV1_set mc md q | fail))
                      clear hK K hH70
                      (try simp only [Act.put, List.setIfInBounds_toArray, List.set_cons_zero, List.set_cons_succ])
                      refine wpAnyH_take (i := 13) (oi := { dst := some 75, op := Go.Op.build 45 #[(0, Go.Operand.tmp 69), (1, Go.Operand.tmp 74)], type := 45, pos := "l2_ver.go:166", after := #[{ on := 7, ground := Go.Ground.data }, { on := 12, ground := Go.Ground.data }], guard := none }) (v := ?v73) rfl (by kernel_rfl) (by kernel_rfl) (by kernel_rfl) (fun _ _ _ h => h) (Or.inl ⟨by rfl, ?y73⟩) hH72 ?r73
                      case y73 => (intro w hSw; (try dsimp only at hSw); go_simp; (try with_reducible rfl))
                      (try simp only [Act.put, List.setIfInBounds_toArray, List.set_cons_zero, List.set_cons_succ])
                      refine wpAnyH_ready (rs := [14]) (by kernel_rfl) (by simp) ?_
                      refine AllReadyH.cons (o := { dst := some 76, op := Go.Op.buildSlice 23 1 #[(0, Go.Operand.tmp 75)], type := 23, pos := "l2_ver.go:166", after := #[{ on := 13, ground := Go.Ground.data }], guard := none }) rfl (fun K hK => ?s75) ?m75
                      case s75 =>
                        go_simp
                        refine hK.out _ _ ?h75 (fun hH75 => ?g75)
                        case h75 => ((try dsimp only); (first | with_reducible exact q | with_reducible exact keepV1_allocD q | with_reducible exact keepV1_alloc q | with_reducible exact keepV1_set mc md q | fail))
                        clear hK K hH72
                        (try simp only [Act.put, List.setIfInBounds_toArray, List.set_cons_zero, List.set_cons_succ])
                        refine wpAnyH_ready (rs := [15]) (by kernel_rfl) (by simp) ?_
                        refine AllReadyH.cons (o := { dst := some 77, op := Go.Op.call { callee := Go.Callee.builtin Go.Builtin.append, args := #[Go.Operand.tmp 63, Go.Operand.tmp 76], argTypes := #[23, 23] }, type := 23, pos := "l2_ver.go:166", after := #[{ on := 1, ground := Go.Ground.data }, { on := 14, ground := Go.Ground.data }, { on := 12, ground := Go.Ground.chain }], guard := none }) rfl (fun K hK => ?s77) ?m77
                        case s77 =>
                          (refine step_append_lies _ (by rfl) _ _ 23 (by rfl) W2.heap.size 45 i0 (.agg #[.string ⟨#[]⟩, .slice none 0 0]) 2 40 Try.underlying23 hi0 hz0 hz1 hz2 rfl (by omega) v cs.length (cs.flatMap objCells) (by rfl) (HO.out.alloc _) ⟨wC.heap.size, 0, none⟩ 1 1 [.string os[k].key, .slice (some ⟨g, 0, none⟩) (vs.length - (F + 1)) cp] (by rfl) (by rfl) (World.news_of_block (heap_alloc_new wC _)) (fun u hu => (by simp at hu; rcases hu with rfl | rfl <;> rfl)) (by omega) (by unfold maxLen; omega) (by omega) (by simp; omega) _ rfl ?_; intro gg cq wD hown hgrow hat hlt2; have q := keepV1_far hgrow nc nd (keepV1_alloc q); have hbxD := (hbxC.alloc _).kept hgrow hne; have hxD := hbxD.cell; have hfD := hbxD.frozen; have X := Lib.hid (And.intro hown hgrow); clear hown hgrow hat hlt2)
                          refine hK.out _ _ ?h77 (fun hH77 => ?g77)
                          case h77 => ((try dsimp only); (first | with_reducible exact q | with_reducible exact keepV1_allocD q | with_reducible exact keepV1_alloc q | with_reducible exact keepV1_set mc md q | fail))
                          clear hK K hH75
                          (try simp only [Act.put, List.setIfInBounds_toArray, List.set_cons_zero, List.set_cons_succ])
                          refine wpAnyH_take (i := 16) (oi := { dst := some 78, op := Go.Op.fieldAddr 25 (Go.Operand.tmp 5) 0, type := 0, pos := "l2_ver.go:166", after := #[{ on := 0, ground := Go.Ground.phase }, { on := 1, ground := Go.Ground.phase }, { on := 2, ground := Go.Ground.phase }, { on := 3, ground := Go.Ground.phase }, { on := 4, ground := Go.Ground.phase }, { on := 5, ground := Go.Ground.phase }, { on := 6, ground := Go.Ground.phase }, { on := 7, ground := Go.Ground.phase }, { on := 8, ground := Go.Ground.phase }, { on := 9, ground := Go.Ground.phase }, { on := 10, ground := Go.Ground.phase }, { on := 11, ground := Go.Ground.phase }, { on := 12, ground := Go.Ground.phase }, { on := 13, ground := Go.Ground.phase }, { on := 14, ground := Go.Ground.phase }, { on := 15, ground := Go.Ground.phase }], guard := none }) (v := ?v78) rfl (by kernel_rfl) (by kernel_rfl) (by kernel_rfl) (fun _ _ _ h => h) (Or.inl ⟨by rfl, ?y78⟩) hH77 ?r78
                          case y78 => (intro w hSw; (try dsimp only at hSw); go_simp; (try with_reducible rfl))
                          (try simp only [Act.put, List.setIfInBounds_toArray, List.set_cons_zero, List.set_cons_succ])
                          refine wpAnyH_ready (rs := [17]) (by kernel_rfl) (by simp) ?_
                          refine AllReadyH.cons (o := { dst := none, op := Go.Op.store 23 (Go.Operand.tmp 78) (Go.Operand.tmp 77), type := 0, pos := "l2_ver.go:166", after := #[{ on := 16, ground := Go.Ground.data }, { on := 15, ground := Go.Ground.data }, { on := 15, ground := Go.Ground.chain }, { on := 0, ground := Go.Ground.phase }, { on := 1, ground := Go.Ground.phase }, { on := 2, ground := Go.Ground.phase }, { on := 3, ground := Go.Ground.phase }, { on := 4, ground := Go.Ground.phase }, { on := 5, ground := Go.Ground.phase }, { on := 6, ground := Go.Ground.phase }, { on := 7, ground := Go.Ground.phase }, { on := 8, ground := Go.Ground.phase }, { on := 9, ground := Go.Ground.phase }, { on := 10, ground := Go.Ground.phase }, { on := 11, ground := Go.Ground.phase }, { on := 12, ground := Go.Ground.phase }, { on := 13, ground := Go.Ground.phase }, { on := 14, ground := Go.Ground.phase }, { on := 15, ground := Go.Ground.phase }], guard := none }) rfl (fun K hK => ?s80) ?m80
                          case s80 =>
                            go_simp
                            refine hK.out _ _ ?h80 (fun hH80 => ?g80)
                            case h80 => ((try dsimp only); (first | with_reducible exact q | with_reducible exact keepV1_allocD q | with_reducible exact keepV1_alloc q | with_reducible exact keepV1_set mc md q | fail))
                            clear hK K hH77
                            (try simp only [Act.put, List.setIfInBounds_toArray, List.set_cons_zero, List.set_cons_succ])
                            refine wpAnyH_done (by kernel_rfl) ?_ _
                            clear hH80
                            obtain ⟨hown, hgrow⟩ := X.out
                            have hI := HI.out
                            simp only [Nat.zero_add, List.nil_append] at hI hown hgrow
                            rw [← hDL.out] at hI hown hgrow
                            obtain ⟨pa, pc, pe, p1, p2, p3, p4, p5⟩ := own_versH hI
                            injection pe with pe1 pe2 pe3
                            subst pe1 pe3
                            have HPush := Gv.push (o := ⟨os[k].key, some ⟨g, 0, none⟩, cp, vs.drop (F + 1)⟩) HG.out HC.out hsz p1 p2 p3 p4 p5 (by first | exact hown | (rw [objCells]; simpa using hown)) hgrow
                            obtain ⟨hbx, hG2⟩ := HPush
                            have hTD := Lib.hid ((turned_grown (HT.out.trans (Turned.of_below (HC.out.alloc HC.out.size _))) hgrow (fun j hj => (HO.out.lt j hj).1)).setCell (p := ⟨W1.heap.size, 0, none⟩) rfl (.slice (some ⟨gg, 0, none⟩) (cs.length + 1) cq))
                            have hG2 := Lib.hid hG2
                            clear hown hgrow hI p1 p2 p3 p4 p5 hbx X HI
                            go_wp2_with fail
                            go_roundw
                            case rel => exact ⟨k + 1, cs ++ [⟨os[k].key, some ⟨g, 0, none⟩, cp, vs.drop (F + 1)⟩], _, by omega, by go_num, hTD.out, hG2.out, by rw [List.map_append, HK.out, List.take_succ_eq_append_getElem hlt, pruneIn_yes (o := os[k]) (by rw [HVS.out, ← HU.out]; omega), HVS.out, ← HU.out]; rfl⟩
                            case measure => simp [intOf]; omega
                          exact AllReadyH.nil
                        exact AllReadyH.nil
                      exact AllReadyH.nil
                    exact AllReadyH.nil
                  exact AllReadyH.nil
                refine AllReadyH.cons (o := { dst := some 70, op := Go.Op.buildSlice 43 0 #[], type := 43, pos := "l2_ver.go:166", after := #[], guard := none }) rfl (fun K hK => ?s81) ?m81
                case s81 =>
                  go_simp
                  refine hK.out _ _ ?h81 (fun hH81 => ?g81)
                  case h81 => ((try dsimp only); (first | with_reducible exact q | with_reducible exact keepV1_allocD q | with_reducible exact keepV1_alloc q | with_reducible exact keepV1_set mc md q | fail))
                  clear hK K hH0
                  (try simp only [Act.put, List.setIfInBounds_toArray, List.set_cons_zero, List.set_cons_succ])
                  refine wpAnyH_ready (rs := [1, 12]) (by kernel_rfl) (by simp) ?_
                  refine AllReadyH.cons (o := { dst := some 63, op := Go.Op.load 23 (Go.Operand.tmp 62), type := 23, pos := "l2_ver.go:166", after := #[{ on := 0, ground := Go.Ground.data }], guard := none }) rfl (fun K hK => ?s83) ?m83
                  case s83 =>
                    go_simp
                    refine hK.out _ _ ?h83 (fun hH83 => ?g83)
                    case h83 => ((try dsimp only); (first | with_reducible exact q | with_reducible exact keepV1_allocD q | with_reducible exact keepV1_alloc q | with_reducible exact keepV1_set mc md q | fail))
                    clear hK K hH81
                    (try simp only [Act.put, List.setIfInBounds_toArray, List.set_cons_zero, List.set_cons_succ])
                    refine wpAnyH_ready (rs := [12]) (by kernel_rfl) (by simp) ?_
                    refine AllReadyH.cons (o := { dst := some 74, op := Go.Op.call { callee := Go.Callee.builtin Go.Builtin.append, args := #[Go.Operand.tmp 70, Go.Operand.tmp 73], argTypes := #[43, 43] }, type := 43, pos := "l2_ver.go:166", after := #[{ on := 8, ground := Go.Ground.data }, { on := 11, ground := Go.Ground.data }], guard := none }) rfl (fun K hK => ?s85) ?m85
                    case s85 =>
                      (refine step_append_verM (by rfl) _ _ 43 (by rfl) Try.underlying43 V.heap.size (.slice (some ⟨V.heap.size, 0, none⟩) 0 0) 0 [] (by rfl) (emptyVers (heap_alloc_new _ _) (Nat.le_refl _)) (some ⟨b2, o2 + (F + 1) * 3, none⟩) (vs.drop (F + 1)) (vs.length - (F + 1)) _ (by rfl) hDL.out (.inl ⟨_, _, rfl⟩) (hDV.out.below (((Below.refl _ _).alloc (Nat.le_refl _) _).drew)) (by have := hDL.out; omega) (by simp) (by simp) ?_; intro g cp wC hown hgrow; have hbC := below_appD hgrow; have q := keepV1 hbC q0; have hbxC := HG.out.box.kept (grown_of_belowV hbC) (by simp); have hxC := hbxC.cell; have hxT := fun o => (hbxC.alloc o).cell; have HI := Lib.hid hown; have HO := Lib.hid (Go.Proofs.Ytjijichgoodocaa.ownsRow_of_below HO.out hbC); have hzz := Nat.le_trans hzz hbC.size; have HC := Lib.hid hbC; clear hown hgrow hbC)
                      refine hK.out _ _ ?h85 (fun hH85 => ?g85)
                      case h85 => ((try dsimp only); (first | with_reducible exact q | with_reducible exact keepV1_allocD q | with_reducible exact keepV1_alloc q | with_reducible exact keepV1_set mc md q | fail))
                      clear hK K hH83
                      (try simp only [Act.put, List.setIfInBounds_toArray, List.set_cons_zero, List.set_cons_succ])
                      refine wpAnyH_take (i := 13) (oi := { dst := some 75, op := Go.Op.build 45 #[(0, Go.Operand.tmp 69), (1, Go.Operand.tmp 74)], type := 45, pos := "l2_ver.go:166", after := #[{ on := 7, ground := Go.Ground.data }, { on := 12, ground := Go.Ground.data }], guard := none }) (v := ?v86) rfl (by kernel_rfl) (by kernel_rfl) (by kernel_rfl) (fun _ _ _ h => h) (Or.inl ⟨by rfl, ?y86⟩) hH85 ?r86
                      case y86 => (intro w hSw; (try dsimp only at hSw); go_simp; (try with_reducible rfl))
                      (try simp only [Act.put, List.setIfInBounds_toArray, List.set_cons_zero, List.set_cons_succ])
                      refine wpAnyH_ready (rs := [14]) (by kernel_rfl) (by simp) ?_
                      refine AllReadyH.cons (o := { dst := some 76, op := Go.Op.buildSlice 23 1 #[(0, Go.Operand.tmp 75)], type := 23, pos := "l2_ver.go:166", after := #[{ on := 13, ground := Go.Ground.data }], guard := none }) rfl (fun K hK => ?s88) ?m88
                      case s88 =>
                        go_simp
                        refine hK.out _ _ ?h88 (fun hH88 => ?g88)
                        case h88 => ((try dsimp only); (first | with_reducible exact q | with_reducible exact keepV1_allocD q | with_reducible exact keepV1_alloc q | with_reducible exact keepV1_set mc md q | fail))
                        clear hK K hH85
                        (try simp only [Act.put, List.setIfInBounds_toArray, List.set_cons_zero, List.set_cons_succ])
                        refine wpAnyH_ready (rs := [15]) (by kernel_rfl) (by simp) ?_
                        refine AllReadyH.cons (o := { dst := some 77, op := Go.Op.call { callee := Go.Callee.builtin Go.Builtin.append, args := #[Go.Operand.tmp 63, Go.Operand.tmp 76], argTypes := #[23, 23] }, type := 23, pos := "l2_ver.go:166", after := #[{ on := 1, ground := Go.Ground.data }, { on := 14, ground := Go.Ground.data }, { on := 12, ground := Go.Ground.chain }], guard := none }) rfl (fun K hK => ?s90) ?m90
                        case s90 =>
                          (refine step_append_lies _ (by rfl) _ _ 23 (by rfl) W2.heap.size 45 i0 (.agg #[.string ⟨#[]⟩, .slice none 0 0]) 2 40 Try.underlying23 hi0 hz0 hz1 hz2 rfl (by omega) v cs.length (cs.flatMap objCells) (by rfl) (HO.out.alloc _) ⟨wC.heap.size, 0, none⟩ 1 1 [.string os[k].key, .slice (some ⟨g, 0, none⟩) (vs.length - (F + 1)) cp] (by rfl) (by rfl) (World.news_of_block (heap_alloc_new wC _)) (fun u hu => (by simp at hu; rcases hu with rfl | rfl <;> rfl)) (by omega) (by unfold maxLen; omega) (by omega) (by simp; omega) _ rfl ?_; intro gg cq wD hown hgrow hat hlt2; have q := keepV1_far hgrow nc nd (keepV1_alloc q); have hbxD := (hbxC.alloc _).kept hgrow hne; have hxD := hbxD.cell; have hfD := hbxD.frozen; have X := Lib.hid (And.intro hown hgrow); clear hown hgrow hat hlt2)
                          refine hK.out _ _ ?h90 (fun hH90 => ?g90)
                          case h90 => ((try dsimp only); (first | with_reducible exact q | with_reducible exact keepV1_allocD q | with_reducible exact keepV1_alloc q | with_reducible exact keepV1_set mc md q | fail))
                          clear hK K hH88
                          (try simp only [Act.put, List.setIfInBounds_toArray, List.set_cons_zero, List.set_cons_succ])
                          refine wpAnyH_take (i := 16) (oi := { dst := some 78, op := Go.Op.fieldAddr 25 (Go.Operand.tmp 5) 0, type := 0, pos := "l2_ver.go:166", after := #[{ on := 0, ground := Go.Ground.phase }, { on := 1, ground := Go.Ground.phase }, { on := 2, ground := Go.Ground.phase }, { on := 3, ground := Go.Ground.phase }, { on := 4, ground := Go.Ground.phase }, { on := 5, ground := Go.Ground.phase }, { on := 6, ground := Go.Ground.phase }, { on := 7, ground := Go.Ground.phase }, { on := 8, ground := Go.Ground.phase }, { on := 9, ground := Go.Ground.phase }, { on := 10, ground := Go.Ground.phase }, { on := 11, ground := Go.Ground.phase }, { on := 12, ground := Go.Ground.phase }, { on := 13, ground := Go.Ground.phase }, { on := 14, ground := Go.Ground.phase }, { on := 15, ground := Go.Ground.phase }], guard := none }) (v := ?v91) rfl (by kernel_rfl) (by kernel_rfl) (by kernel_rfl) (fun _ _ _ h => h) (Or.inl ⟨by rfl, ?y91⟩) hH90 ?r91
                          case y91 => (intro w hSw; (try dsimp only at hSw); go_simp; (try with_reducible rfl))
                          (try simp only [Act.put, List.setIfInBounds_toArray, List.set_cons_zero, List.set_cons_succ])
                          refine wpAnyH_ready (rs := [17]) (by kernel_rfl) (by simp) ?_
                          refine AllReadyH.cons (o := { dst := none, op := Go.Op.store 23 (Go.Operand.tmp 78) (Go.Operand.tmp 77), type := 0, pos := "l2_ver.go:166", after := #[{ on := 16, ground := Go.Ground.data }, { on := 15, ground := Go.Ground.data }, { on := 15, ground := Go.Ground.chain }, { on := 0, ground := Go.Ground.phase }, { on := 1, ground := Go.Ground.phase }, { on := 2, ground := Go.Ground.phase }, { on := 3, ground := Go.Ground.phase }, { on := 4, ground := Go.Ground.phase }, { on := 5, ground := Go.Ground.phase }, { on := 6, ground := Go.Ground.phase }, { on := 7, ground := Go.Ground.phase }, { on := 8, ground := Go.Ground.phase }, { on := 9, ground := Go.Ground.phase }, { on := 10, ground := Go.Ground.phase }, { on := 11, ground := Go.Ground.phase }, { on := 12, ground := Go.Ground.phase }, { on := 13, ground := Go.Ground.phase }, { on := 14, ground := Go.Ground.phase }, { on := 15, ground := Go.Ground.phase }], guard := none }) rfl (fun K hK => ?s93) ?m93
                          case s93 =>
                            go_simp
                            refine hK.out _ _ ?h93 (fun hH93 => ?g93)
                            case h93 => ((try dsimp only); (first | with_reducible exact q | with_reducible exact keepV1_allocD q | with_reducible exact keepV1_alloc q | with_reducible exact keepV1_set mc md q | fail))
                            clear hK K hH90
                            (try simp only [Act.put, List.setIfInBounds_toArray, List.set_cons_zero, List.set_cons_succ])
                            refine wpAnyH_done (by kernel_rfl) ?_ _
                            clear hH93
                            obtain ⟨hown, hgrow⟩ := X.out
                            have hI := HI.out
                            simp only [Nat.zero_add, List.nil_append] at hI hown hgrow
                            rw [← hDL.out] at hI hown hgrow
                            obtain ⟨pa, pc, pe, p1, p2, p3, p4, p5⟩ := own_versH hI
                            injection pe with pe1 pe2 pe3
                            subst pe1 pe3
                            have HPush := Gv.push (o := ⟨os[k].key, some ⟨g, 0, none⟩, cp, vs.drop (F + 1)⟩) HG.out HC.out hsz p1 p2 p3 p4 p5 (by first | exact hown | (rw [objCells]; simpa using hown)) hgrow
                            obtain ⟨hbx, hG2⟩ := HPush
                            have hTD := Lib.hid ((turned_grown (HT.out.trans (Turned.of_below (HC.out.alloc HC.out.size _))) hgrow (fun j hj => (HO.out.lt j hj).1)).setCell (p := ⟨W1.heap.size, 0, none⟩) rfl (.slice (some ⟨gg, 0, none⟩) (cs.length + 1) cq))
                            have hG2 := Lib.hid hG2
                            clear hown hgrow hI p1 p2 p3 p4 p5 hbx X HI
                            go_wp2_with fail
                            go_roundw
                            case rel => exact ⟨k + 1, cs ++ [⟨os[k].key, some ⟨g, 0, none⟩, cp, vs.drop (F + 1)⟩], _, by omega, by go_num, hTD.out, hG2.out, by rw [List.map_append, HK.out, List.take_succ_eq_append_getElem hlt, pruneIn_yes (o := os[k]) (by rw [HVS.out, ← HU.out]; omega), HVS.out, ← HU.out]; rfl⟩
                            case measure => simp [intOf]; omega
                          exact AllReadyH.nil
                        exact AllReadyH.nil
                      exact AllReadyH.nil
                    exact AllReadyH.nil
                  refine AllReadyH.cons (o := { dst := some 74, op := Go.Op.call { callee := Go.Callee.builtin Go.Builtin.append, args := #[Go.Operand.tmp 70, Go.Operand.tmp 73], argTypes := #[43, 43] }, type := 43, pos := "l2_ver.go:166", after := #[{ on := 8, ground := Go.Ground.data }, { on := 11, ground := Go.Ground.data }], guard := none }) rfl (fun K hK => ?s94) ?m94
                  case s94 =>
                    (refine step_append_verM (by rfl) _ _ 43 (by rfl) Try.underlying43 V.heap.size (.slice (some ⟨V.heap.size, 0, none⟩) 0 0) 0 [] (by rfl) (emptyVers (heap_alloc_new _ _) (Nat.le_refl _)) (some ⟨b2, o2 + (F + 1) * 3, none⟩) (vs.drop (F + 1)) (vs.length - (F + 1)) _ (by rfl) hDL.out (.inl ⟨_, _, rfl⟩) (hDV.out.below (((Below.refl _ _).alloc (Nat.le_refl _) _).drew)) (by have := hDL.out; omega) (by simp) (by simp) ?_; intro g cp wC hown hgrow; have hbC := below_appD hgrow; have q := keepV1 hbC q0; have hbxC := HG.out.box.kept (grown_of_belowV hbC) (by simp); have hxC := hbxC.cell; have hxT := fun o => (hbxC.alloc o).cell; have HI := Lib.hid hown; have HO := Lib.hid (Go.Proofs.Ytjijichgoodocaa.ownsRow_of_below HO.out hbC); have hzz := Nat.le_trans hzz hbC.size; have HC := Lib.hid hbC; clear hown hgrow hbC)
                    refine hK.out _ _ ?h94 (fun hH94 => ?g94)
                    case h94 => ((try dsimp only); (first | with_reducible exact q | with_reducible exact keepV1_allocD q | with_reducible exact keepV1_alloc q | with_reducible exact keepV1_set mc md q | fail))
                    clear hK K hH81
                    (try simp only [Act.put, List.setIfInBounds_toArray, List.set_cons_zero, List.set_cons_succ])
                    refine wpAnyH_take (i := 13) (oi := { dst := some 75, op := Go.Op.build 45 #[(0, Go.Operand.tmp 69), (1, Go.Operand.tmp 74)], type := 45, pos := "l2_ver.go:166", after := #[{ on := 7, ground := Go.Ground.data }, { on := 12, ground := Go.Ground.data }], guard := none }) (v := ?v95) rfl (by kernel_rfl) (by kernel_rfl) (by kernel_rfl) (fun _ _ _ h => h) (Or.inl ⟨by rfl, ?y95⟩) hH94 ?r95
                    case y95 => (intro w hSw; (try dsimp only at hSw); go_simp; (try with_reducible rfl))
                    (try simp only [Act.put, List.setIfInBounds_toArray, List.set_cons_zero, List.set_cons_succ])
                    refine wpAnyH_ready (rs := [1, 14]) (by kernel_rfl) (by simp) ?_
                    refine AllReadyH.cons (o := { dst := some 63, op := Go.Op.load 23 (Go.Operand.tmp 62), type := 23, pos := "l2_ver.go:166", after := #[{ on := 0, ground := Go.Ground.data }], guard := none }) rfl (fun K hK => ?s97) ?m97
                    case s97 =>
                      go_simp
                      refine hK.out _ _ ?h97 (fun hH97 => ?g97)
                      case h97 => ((try dsimp only); (first | with_reducible exact q | with_reducible exact keepV1_allocD q | with_reducible exact keepV1_alloc q | with_reducible exact keepV1_set mc md q | fail))
                      clear hK K hH94
                      (try simp only [Act.put, List.setIfInBounds_toArray, List.set_cons_zero, List.set_cons_succ])
                      refine wpAnyH_ready (rs := [14]) (by kernel_rfl) (by simp) ?_
                      refine AllReadyH.cons (o := { dst := some 76, op := Go.Op.buildSlice 23 1 #[(0, Go.Operand.tmp 75)], type := 23, pos := "l2_ver.go:166", after := #[{ on := 13, ground := Go.Ground.data }], guard := none }) rfl (fun K hK => ?s99) ?m99
                      case s99 =>
                        go_simp
                        refine hK.out _ _ ?h99 (fun hH99 => ?g99)
                        case h99 => ((try dsimp only); (first | with_reducible exact q | with_reducible exact keepV1_allocD q | with_reducible exact keepV1_alloc q | with_reducible exact keepV1_set mc md q | fail))
                        clear hK K hH97
                        (try simp only [Act.put, List.setIfInBounds_toArray, List.set_cons_zero, List.set_cons_succ])
                        refine wpAnyH_ready (rs := [15]) (by kernel_rfl) (by simp) ?_
                        refine AllReadyH.cons (o := { dst := some 77, op := Go.Op.call { callee := Go.Callee.builtin Go.Builtin.append, args := #[Go.Operand.tmp 63, Go.Operand.tmp 76], argTypes := #[23, 23] }, type := 23, pos := "l2_ver.go:166", after := #[{ on := 1, ground := Go.Ground.data }, { on := 14, ground := Go.Ground.data }, { on := 12, ground := Go.Ground.chain }], guard := none }) rfl (fun K hK => ?s101) ?m101
                        case s101 =>
                          (refine step_append_lies _ (by rfl) _ _ 23 (by rfl) W2.heap.size 45 i0 (.agg #[.string ⟨#[]⟩, .slice none 0 0]) 2 40 Try.underlying23 hi0 hz0 hz1 hz2 rfl (by omega) v cs.length (cs.flatMap objCells) (by rfl) (HO.out.alloc _) ⟨wC.heap.size, 0, none⟩ 1 1 [.string os[k].key, .slice (some ⟨g, 0, none⟩) (vs.length - (F + 1)) cp] (by rfl) (by rfl) (World.news_of_block (heap_alloc_new wC _)) (fun u hu => (by simp at hu; rcases hu with rfl | rfl <;> rfl)) (by omega) (by unfold maxLen; omega) (by omega) (by simp; omega) _ rfl ?_; intro gg cq wD hown hgrow hat hlt2; have q := keepV1_far hgrow nc nd (keepV1_alloc q); have hbxD := (hbxC.alloc _).kept hgrow hne; have hxD := hbxD.cell; have hfD := hbxD.frozen; have X := Lib.hid (And.intro hown hgrow); clear hown hgrow hat hlt2)
                          refine hK.out _ _ ?h101 (fun hH101 => ?g101)
                          case h101 => ((try dsimp only); (first | with_reducible exact q | with_reducible exact keepV1_allocD q | with_reducible exact keepV1_alloc q | with_reducible exact keepV1_set mc md q | fail))
                          clear hK K hH99
                          (try simp only [Act.put, List.setIfInBounds_toArray, List.set_cons_zero, List.set_cons_succ])
                          refine wpAnyH_take (i := 16) (oi := { dst := some 78, op := Go.Op.fieldAddr 25 (Go.Operand.tmp 5) 0, type := 0, pos := "l2_ver.go:166", after := #[{ on := 0, ground := Go.Ground.phase }, { on := 1, ground := Go.Ground.phase }, { on := 2, ground := Go.Ground.phase }, { on := 3, ground := Go.Ground.phase }, { on := 4, ground := Go.Ground.phase }, { on := 5, ground := Go.Ground.phase }, { on := 6, ground := Go.Ground.phase }, { on := 7, ground := Go.Ground.phase }, { on := 8, ground := Go.Ground.phase }, { on := 9, ground := Go.Ground.phase }, { on := 10, ground := Go.Ground.phase }, { on := 11, ground := Go.Ground.phase }, { on := 12, ground := Go.Ground.phase }, { on := 13, ground := Go.Ground.phase }, { on := 14, ground := Go.Ground.phase }, { on := 15, ground := Go.Ground.phase }], guard := none }) (v := ?v102) rfl (by kernel_rfl) (by kernel_rfl) (by kernel_rfl) (fun _ _ _ h => h) (Or.inl ⟨by rfl, ?y102⟩) hH101 ?r102
                          case y102 => (intro w hSw; (try dsimp only at hSw); go_simp; (try with_reducible rfl))
                          (try simp only [Act.put, List.setIfInBounds_toArray, List.set_cons_zero, List.set_cons_succ])
                          refine wpAnyH_ready (rs := [17]) (by kernel_rfl) (by simp) ?_
                          refine AllReadyH.cons (o := { dst := none, op := Go.Op.store 23 (Go.Operand.tmp 78) (Go.Operand.tmp 77), type := 0, pos := "l2_ver.go:166", after := #[{ on := 16, ground := Go.Ground.data }, { on := 15, ground := Go.Ground.data }, { on := 15, ground := Go.Ground.chain }, { on := 0, ground := Go.Ground.phase }, { on := 1, ground := Go.Ground.phase }, { on := 2, ground := Go.Ground.phase }, { on := 3, ground := Go.Ground.phase }, { on := 4, ground := Go.Ground.phase }, { on := 5, ground := Go.Ground.phase }, { on := 6, ground := Go.Ground.phase }, { on := 7, ground := Go.Ground.phase }, { on := 8, ground := Go.Ground.phase }, { on := 9, ground := Go.Ground.phase }, { on := 10, ground := Go.Ground.phase }, { on := 11, ground := Go.Ground.phase }, { on := 12, ground := Go.Ground.phase }, { on := 13, ground := Go.Ground.phase }, { on := 14, ground := Go.Ground.phase }, { on := 15, ground := Go.Ground.phase }], guard := none }) rfl (fun K hK => ?s104) ?m104
                          case s104 =>
                            go_simp
                            refine hK.out _ _ ?h104 (fun hH104 => ?g104)
                            case h104 => ((try dsimp only); (first | with_reducible exact q | with_reducible exact keepV1_allocD q | with_reducible exact keepV1_alloc q | with_reducible exact keepV1_set mc md q | fail))
                            clear hK K hH101
                            (try simp only [Act.put, List.setIfInBounds_toArray, List.set_cons_zero, List.set_cons_succ])
                            refine wpAnyH_done (by kernel_rfl) ?_ _
                            clear hH104
                            obtain ⟨hown, hgrow⟩ := X.out
                            have hI := HI.out
                            simp only [Nat.zero_add, List.nil_append] at hI hown hgrow
                            rw [← hDL.out] at hI hown hgrow
                            obtain ⟨pa, pc, pe, p1, p2, p3, p4, p5⟩ := own_versH hI
                            injection pe with pe1 pe2 pe3
                            subst pe1 pe3
                            have HPush := Gv.push (o := ⟨os[k].key, some ⟨g, 0, none⟩, cp, vs.drop (F + 1)⟩) HG.out HC.out hsz p1 p2 p3 p4 p5 (by first | exact hown | (rw [objCells]; simpa using hown)) hgrow
                            obtain ⟨hbx, hG2⟩ := HPush
                            have hTD := Lib.hid ((turned_grown (HT.out.trans (Turned.of_below (HC.out.alloc HC.out.size _))) hgrow (fun j hj => (HO.out.lt j hj).1)).setCell (p := ⟨W1.heap.size, 0, none⟩) rfl (.slice (some ⟨gg, 0, none⟩) (cs.length + 1) cq))
                            have hG2 := Lib.hid hG2
                            clear hown hgrow hI p1 p2 p3 p4 p5 hbx X HI
                            go_wp2_with fail
                            go_roundw
                            case rel => exact ⟨k + 1, cs ++ [⟨os[k].key, some ⟨g, 0, none⟩, cp, vs.drop (F + 1)⟩], _, by omega, by go_num, hTD.out, hG2.out, by rw [List.map_append, HK.out, List.take_succ_eq_append_getElem hlt, pruneIn_yes (o := os[k]) (by rw [HVS.out, ← HU.out]; omega), HVS.out, ← HU.out]; rfl⟩
                            case measure => simp [intOf]; omega
                          exact AllReadyH.nil
                        exact AllReadyH.nil
                      exact AllReadyH.nil
                    refine AllReadyH.cons (o := { dst := some 76, op := Go.Op.buildSlice 23 1 #[(0, Go.Operand.tmp 75)], type := 23, pos := "l2_ver.go:166", after := #[{ on := 13, ground := Go.Ground.data }], guard := none }) rfl (fun K hK => ?s105) ?m105
                    case s105 =>
                      go_simp
                      refine hK.out _ _ ?h105 (fun hH105 => ?g105)
                      case h105 => ((try dsimp only); (first | with_reducible exact q | with_reducible exact keepV1_allocD q | with_reducible exact keepV1_alloc q | with_reducible exact keepV1_set mc md q | fail))
                      clear hK K hH94
                      (try simp only [Act.put, List.setIfInBounds_toArray, List.set_cons_zero, List.set_cons_succ])
                      refine wpAnyH_ready (rs := [1]) (by kernel_rfl) (by simp) ?_
                      refine AllReadyH.cons (o := { dst := some 63, op := Go.Op.load 23 (Go.Operand.tmp 62), type := 23, pos := "l2_ver.go:166", after := #[{ on := 0, ground := Go.Ground.data }], guard := none }) rfl (fun K hK => ?s107) ?m107
                      case s107 =>
                        go_simp
                        refine hK.out _ _ ?h107 (fun hH107 => ?g107)
                        case h107 => ((try dsimp only); (first | with_reducible exact q | with_reducible exact keepV1_allocD q | with_reducible exact keepV1_alloc q | with_reducible exact keepV1_set mc md q | fail))
                        clear hK K hH105
                        (try simp only [Act.put, List.setIfInBounds_toArray, List.set_cons_zero, List.set_cons_succ])
                        refine wpAnyH_ready (rs := [15]) (by kernel_rfl) (by simp) ?_
                        refine AllReadyH.cons (o := { dst := some 77, op := Go.Op.call { callee := Go.Callee.builtin Go.Builtin.append, args := #[Go.Operand.tmp 63, Go.Operand.tmp 76], argTypes := #[23, 23] }, type := 23, pos := "l2_ver.go:166", after := #[{ on := 1, ground := Go.Ground.data }, { on := 14, ground := Go.Ground.data }, { on := 12, ground := Go.Ground.chain }], guard := none }) rfl (fun K hK => ?s109) ?m109
                        case s109 =>
                          (refine step_append_lies _ (by rfl) _ _ 23 (by rfl) W2.heap.size 45 i0 (.agg #[.string ⟨#[]⟩, .slice none 0 0]) 2 40 Try.underlying23 hi0 hz0 hz1 hz2 rfl (by omega) v cs.length (cs.flatMap objCells) (by rfl) (HO.out.alloc _) ⟨wC.heap.size, 0, none⟩ 1 1 [.string os[k].key, .slice (some ⟨g, 0, none⟩) (vs.length - (F + 1)) cp] (by rfl) (by rfl) (World.news_of_block (heap_alloc_new wC _)) (fun u hu => (by simp at hu; rcases hu with rfl | rfl <;> rfl)) (by omega) (by unfold maxLen; omega) (by omega) (by simp; omega) _ rfl ?_; intro gg cq wD hown hgrow hat hlt2; have q := keepV1_far hgrow nc nd (keepV1_alloc q); have hbxD := (hbxC.alloc _).kept hgrow hne; have hxD := hbxD.cell; have hfD := hbxD.frozen; have X := Lib.hid (And.intro hown hgrow); clear hown hgrow hat hlt2)
                          refine hK.out _ _ ?h109 (fun hH109 => ?g109)
                          case h109 => ((try dsimp only); (first | with_reducible exact q | with_reducible exact keepV1_allocD q | with_reducible exact keepV1_alloc q | with_reducible exact keepV1_set mc md q | fail))
                          clear hK K hH107
                          (try simp only [Act.put, List.setIfInBounds_toArray, List.set_cons_zero, List.set_cons_succ])
                          refine wpAnyH_take (i := 16) (oi := { dst := some 78, op := Go.Op.fieldAddr 25 (Go.Operand.tmp 5) 0, type := 0, pos := "l2_ver.go:166", after := #[{ on := 0, ground := Go.Ground.phase }, { on := 1, ground := Go.Ground.phase }, { on := 2, ground := Go.Ground.phase }, { on := 3, ground := Go.Ground.phase }, { on := 4, ground := Go.Ground.phase }, { on := 5, ground := Go.Ground.phase }, { on := 6, ground := Go.Ground.phase }, { on := 7, ground := Go.Ground.phase }, { on := 8, ground := Go.Ground.phase }, { on := 9, ground := Go.Ground.phase }, { on := 10, ground := Go.Ground.phase }, { on := 11, ground := Go.Ground.phase }, { on := 12, ground := Go.Ground.phase }, { on := 13, ground := Go.Ground.phase }, { on := 14, ground := Go.Ground.phase }, { on := 15, ground := Go.Ground.phase }], guard := none }) (v := ?v110) rfl (by kernel_rfl) (by kernel_rfl) (by kernel_rfl) (fun _ _ _ h => h) (Or.inl ⟨by rfl, ?y110⟩) hH109 ?r110
                          case y110 => (intro w hSw; (try dsimp only at hSw); go_simp; (try with_reducible rfl))
                          (try simp only [Act.put, List.setIfInBounds_toArray, List.set_cons_zero, List.set_cons_succ])
                          refine wpAnyH_ready (rs := [17]) (by kernel_rfl) (by simp) ?_
                          refine AllReadyH.cons (o := { dst := none, op := Go.Op.store 23 (Go.Operand.tmp 78) (Go.Operand.tmp 77), type := 0, pos := "l2_ver.go:166", after := #[{ on := 16, ground := Go.Ground.data }, { on := 15, ground := Go.Ground.data }, { on := 15, ground := Go.Ground.chain }, { on := 0, ground := Go.Ground.phase }, { on := 1, ground := Go.Ground.phase }, { on := 2, ground := Go.Ground.phase }, { on := 3, ground := Go.Ground.phase }, { on := 4, ground := Go.Ground.phase }, { on := 5, ground := Go.Ground.phase }, { on := 6, ground := Go.Ground.phase }, { on := 7, ground := Go.Ground.phase }, { on := 8, ground := Go.Ground.phase }, { on := 9, ground := Go.Ground.phase }, { on := 10, ground := Go.Ground.phase }, { on := 11, ground := Go.Ground.phase }, { on := 12, ground := Go.Ground.phase }, { on := 13, ground := Go.Ground.phase }, { on := 14, ground := Go.Ground.phase }, { on := 15, ground := Go.Ground.phase }], guard := none }) rfl (fun K hK => ?s112) ?m112
                          case s112 =>
                            go_simp
                            refine hK.out _ _ ?h112 (fun hH112 => ?g112)
                            case h112 => ((try dsimp only); (first | with_reducible exact q | with_reducible exact keepV1_allocD q | with_reducible exact keepV1_alloc q | with_reducible exact keepV1_set mc md q | fail))
                            clear hK K hH109
                            (try simp only [Act.put, List.setIfInBounds_toArray, List.set_cons_zero, List.set_cons_succ])
                            refine wpAnyH_done (by kernel_rfl) ?_ _
                            clear hH112
                            obtain ⟨hown, hgrow⟩ := X.out
                            have hI := HI.out
                            simp only [Nat.zero_add, List.nil_append] at hI hown hgrow
                            rw [← hDL.out] at hI hown hgrow
                            obtain ⟨pa, pc, pe, p1, p2, p3, p4, p5⟩ := own_versH hI
                            injection pe with pe1 pe2 pe3
                            subst pe1 pe3
                            have HPush := Gv.push (o := ⟨os[k].key, some ⟨g, 0, none⟩, cp, vs.drop (F + 1)⟩) HG.out HC.out hsz p1 p2 p3 p4 p5 (by first | exact hown | (rw [objCells]; simpa using hown)) hgrow
                            obtain ⟨hbx, hG2⟩ := HPush
                            have hTD := Lib.hid ((turned_grown (HT.out.trans (Turned.of_below (HC.out.alloc HC.out.size _))) hgrow (fun j hj => (HO.out.lt j hj).1)).setCell (p := ⟨W1.heap.size, 0, none⟩) rfl (.slice (some ⟨gg, 0, none⟩) (cs.length + 1) cq))
                            have hG2 := Lib.hid hG2
                            clear hown hgrow hI p1 p2 p3 p4 p5 hbx X HI
                            go_wp2_with fail
                            go_roundw
                            case rel => exact ⟨k + 1, cs ++ [⟨os[k].key, some ⟨g, 0, none⟩, cp, vs.drop (F + 1)⟩], _, by omega, by go_num, hTD.out, hG2.out, by rw [List.map_append, HK.out, List.take_succ_eq_append_getElem hlt, pruneIn_yes (o := os[k]) (by rw [HVS.out, ← HU.out]; omega), HVS.out, ← HU.out]; rfl⟩
                            case measure => simp [intOf]; omega
                          exact AllReadyH.nil
                        exact AllReadyH.nil
                      exact AllReadyH.nil
                    exact AllReadyH.nil
                  exact AllReadyH.nil
                exact AllReadyH.nil
              · go_wp2_with fail
                go_roundw
                case rel => exact ⟨k + 1, cs, v, by omega, by go_num, HT.out, HG.out, by rw [HK.out, List.take_succ_eq_append_getElem hlt, pruneIn_no (o := os[k]) (by rw [HVS.out, ← HU.out]; omega)]⟩
                case measure => simp [intOf]; omega
          · rw [if_neg (fun h => hpF h.1)] at hU
            have HU := Lib.hid hU
            clear hU
            have q1 : (0 : Int) ≤ (F : Int) := by omega
            have q2 : (F : Int) ≤ (vs.length : Int) := by omega
            have q3 : (F : Int) ≤ (os[k].cap : Int) := by omega
            have q4 : ((F : Int)).toNat = F := by omega
            have q5 : ¬ os[k].cap = F := by omega
            have q6 : (F : Int) < (vs.length : Int) := by omega
            have hDL := Lib.hid (show (vs.drop (F)).length = vs.length - (F) by simp)
            have hDV := Lib.hid (HX.out.drop (F))
            have hx := HG.out.box.cell
            have hfx := HG.out.box.frozen
            have hne := HG.out.ne
            have nc : some w.heap.size ≠ v.ownBlock := own_neV HG.out.own (.inl (by omega))
            have nd : some b1 ≠ v.ownBlock := own_neV HG.out.own (.inl (by omega))
            have hcl : cs.length ≤ k := by have := congrArg List.length HK.out; have h2 := pruneIn_len id (os.take k); rw [← this] at h2; simp at h2; omega
            have q : V.drew.cell? ⟨w.heap.size, 0, none⟩ = some (.slice (some ⟨b1, o1, none⟩) os.length cap) ∧ V.drew.cell? ⟨b1, o1 + k * 2, none⟩ = some (.string os[k].key) ∧ w.heap.size < V.drew.heap.size ∧ b1 < V.drew.heap.size := ⟨c0, d0, (by show w.heap.size < V.heap.size; omega), hb1⟩
            have HO := Lib.hid HG.out.own
            have hxA : (V.alloc (.cells #[] 27)).drew.cell? ⟨W1.heap.size, 0, none⟩ = some v := (HG.out.box.alloc _).cell
            have mc : w.heap.size ≠ W1.heap.size := by omega
            have md : b1 ≠ W1.heap.size := by omega
            have q0 : V.cell? ⟨w.heap.size, 0, none⟩ = some (.slice (some ⟨b1, o1, none⟩) os.length cap) ∧ V.cell? ⟨b1, o1 + k * 2, none⟩ = some (.string os[k].key) ∧ w.heap.size < V.heap.size ∧ b1 < V.heap.size := q
            have hzz : W2.heap.size ≤ V.heap.size := hsz
            go_wp2_with fail
            clear c0 d0 d1
            refine wp_region_held_drew (S := (fun u => u.cell? ⟨w.heap.size, 0, none⟩ = some (.slice (some ⟨b1, o1, none⟩) os.length cap) ∧ u.cell? ⟨b1, o1 + k * 2, none⟩ = some (.string os[k].key) ∧ w.heap.size < u.heap.size ∧ b1 < u.heap.size)) (by kernel_rfl) q (fun hH0 => ?_)
            refine wpAnyH_take (i := 0) (oi := { dst := some 62, op := Go.Op.fieldAddr 25 (Go.Operand.tmp 5) 0, type := 0, pos := "l2_ver.go:166", after := #[], guard := none }) (v := ?v113) rfl (by kernel_rfl) (by kernel_rfl) (by kernel_rfl) (fun _ _ _ h => h) (Or.inl ⟨by rfl, ?y113⟩) hH0 ?r113
            case y113 => (intro w hSw; (try dsimp only at hSw); go_simp; (try with_reducible rfl))
            (try simp only [Act.put, List.setIfInBounds_toArray, List.set_cons_zero, List.set_cons_succ])
            refine wpAnyH_take (i := 2) (oi := { dst := some 64, op := Go.Op.fieldAddr 25 (Go.Operand.tmp 2) 0, type := 0, pos := "l2_ver.go:166", after := #[], guard := none }) (v := ?v114) rfl (by kernel_rfl) (by kernel_rfl) (by kernel_rfl) (fun _ _ _ h => h) (Or.inl ⟨by rfl, ?y114⟩) hH0 ?r114
            case y114 => (intro w hSw; (try dsimp only at hSw); go_simp; (try with_reducible rfl))
            (try simp only [Act.put, List.setIfInBounds_toArray, List.set_cons_zero, List.set_cons_succ])
            refine wpAnyH_take (i := 3) (oi := { dst := some 65, op := Go.Op.load 23 (Go.Operand.tmp 64), type := 23, pos := "l2_ver.go:166", after := #[{ on := 2, ground := Go.Ground.data }], guard := none }) (v := ?v115) rfl (by kernel_rfl) (by kernel_rfl) (by kernel_rfl) (fun _ _ _ h => h) (Or.inl ⟨by rfl, ?y115⟩) hH0 ?r115
            case y115 => (intro w hSw; (try dsimp only at hSw); go_simp; (try with_reducible rfl))
            (try simp only [Act.put, List.setIfInBounds_toArray, List.set_cons_zero, List.set_cons_succ])
            refine wpAnyH_take (i := 4) (oi := { dst := some 66, op := Go.Op.move (Go.Operand.tmp 6), type := 3, pos := "l2_ver.go:166", after := #[], guard := none }) (v := ?v116) rfl (by kernel_rfl) (by kernel_rfl) (by kernel_rfl) (fun _ _ _ h => h) (Or.inl ⟨by rfl, ?y116⟩) hH0 ?r116
            case y116 => (intro w hSw; (try dsimp only at hSw); go_simp; (try with_reducible rfl))
            (try simp only [Act.put, List.setIfInBounds_toArray, List.set_cons_zero, List.set_cons_succ])
            refine wpAnyH_take (i := 5) (oi := { dst := some 67, op := Go.Op.indexAddr 23 (Go.Operand.tmp 65) (Go.Operand.tmp 66), type := 0, pos := "l2_ver.go:166", after := #[{ on := 3, ground := Go.Ground.data }, { on := 4, ground := Go.Ground.data }], guard := none }) (v := ?v117) rfl (by kernel_rfl) (by kernel_rfl) (by kernel_rfl) (fun _ _ _ h => h) (Or.inl ⟨by rfl, ?y117⟩) hH0 ?r117
            case y117 => (intro w hSw; (try dsimp only at hSw); go_simp; (try with_reducible rfl))
            (try simp only [Act.put, List.setIfInBounds_toArray, List.set_cons_zero, List.set_cons_succ])
            refine wpAnyH_take (i := 6) (oi := { dst := some 68, op := Go.Op.fieldAddr 45 (Go.Operand.tmp 67) 0, type := 0, pos := "l2_ver.go:166", after := #[{ on := 5, ground := Go.Ground.data }], guard := none }) (v := ?v118) rfl (by kernel_rfl) (by kernel_rfl) (by kernel_rfl) (fun _ _ _ h => h) (Or.inl ⟨by rfl, ?y118⟩) hH0 ?r118
            case y118 => (intro w hSw; (try dsimp only at hSw); go_simp; (try with_reducible rfl))
            (try simp only [Act.put, List.setIfInBounds_toArray, List.set_cons_zero, List.set_cons_succ])
            refine wpAnyH_take (i := 7) (oi := { dst := some 69, op := Go.Op.load 9 (Go.Operand.tmp 68), type := 9, pos := "l2_ver.go:166", after := #[{ on := 6, ground := Go.Ground.data }], guard := none }) (v := ?v119) rfl (by kernel_rfl) (by kernel_rfl) (by kernel_rfl) (fun _ _ _ h => h) (Or.inl ⟨by rfl, ?y119⟩) hH0 ?r119
            case y119 => (intro w hSw; (try dsimp only at hSw); go_simp; (try with_reducible rfl))
            (try simp only [Act.put, List.setIfInBounds_toArray, List.set_cons_zero, List.set_cons_succ])
            refine wpAnyH_take (i := 9) (oi := { dst := some 71, op := Go.Op.move (Go.Operand.tmp 7), type := 43, pos := "l2_ver.go:166", after := #[], guard := none }) (v := ?v120) rfl (by kernel_rfl) (by kernel_rfl) (by kernel_rfl) (fun _ _ _ h => h) (Or.inl ⟨by rfl, ?y120⟩) hH0 ?r120
            case y120 => (intro w hSw; (try dsimp only at hSw); go_simp; (try with_reducible rfl))
            (try simp only [Act.put, List.setIfInBounds_toArray, List.set_cons_zero, List.set_cons_succ])
            refine wpAnyH_take (i := 10) (oi := { dst := some 72, op := Go.Op.move (Go.Operand.tmp 8), type := 3, pos := "l2_ver.go:166", after := #[], guard := none }) (v := ?v121) rfl (by kernel_rfl) (by kernel_rfl) (by kernel_rfl) (fun _ _ _ h => h) (Or.inl ⟨by rfl, ?y121⟩) hH0 ?r121
            case y121 => (intro w hSw; (try dsimp only at hSw); go_simp; (try with_reducible rfl))
            (try simp only [Act.put, List.setIfInBounds_toArray, List.set_cons_zero, List.set_cons_succ])
            refine wpAnyH_take (i := 11) (oi := { dst := some 73, op := Go.Op.slice 43 (Go.Operand.tmp 71) (some (Go.Operand.tmp 72)) none none, type := 43, pos := "l2_ver.go:166", after := #[{ on := 9, ground := Go.Ground.data }, { on := 10, ground := Go.Ground.data }], guard := none }) (v := ?v122) rfl (by kernel_rfl) (by kernel_rfl) (by kernel_rfl) (fun _ _ _ h => h) (Or.inl ⟨by rfl, ?y122⟩) hH0 ?r122
            case y122 => (intro w hSw; (try dsimp only at hSw); go_simp; (try with_reducible rfl))
            (try simp only [Act.put, List.setIfInBounds_toArray, List.set_cons_zero, List.set_cons_succ])
            refine wpAnyH_ready (rs := [1, 8]) (by kernel_rfl) (by simp) ?_
            refine AllReadyH.cons (o := { dst := some 63, op := Go.Op.load 23 (Go.Operand.tmp 62), type := 23, pos := "l2_ver.go:166", after := #[{ on := 0, ground := Go.Ground.data }], guard := none }) rfl (fun K hK => ?s124) ?m124
            case s124 =>
              go_simp
              refine hK.out _ _ ?h124 (fun hH124 => ?g124)
              case h124 => ((try dsimp only); (first | with_reducible exact q | with_reducible exact keepV1_allocD q | with_reducible exact keepV1_alloc q | with_reducible exact keepV1_set mc md q | fail))
              clear hK K hH0
              (try simp only [Act.put, List.setIfInBounds_toArray, List.set_cons_zero, List.set_cons_succ])
              refine wpAnyH_ready (rs := [8]) (by kernel_rfl) (by simp) ?_
              refine AllReadyH.cons (o := { dst := some 70, op := Go.Op.buildSlice 43 0 #[], type := 43, pos := "l2_ver.go:166", after := #[], guard := none }) rfl (fun K hK => ?s126) ?m126
              case s126 =>
                go_simp
                refine hK.out _ _ ?h126 (fun hH126 => ?g126)
                case h126 => ((try dsimp only); (first | with_reducible exact q | with_reducible exact keepV1_allocD q | with_reducible exact keepV1_alloc q | with_reducible exact keepV1_set mc md q | fail))
                clear hK K hH124
                (try simp only [Act.put, List.setIfInBounds_toArray, List.set_cons_zero, List.set_cons_succ])
                refine wpAnyH_ready (rs := [12]) (by kernel_rfl) (by simp) ?_
                refine AllReadyH.cons (o := { dst := some 74, op := Go.Op.call { callee := Go.Callee.builtin Go.Builtin.append, args := #[Go.Operand.tmp 70, Go.Operand.tmp 73], argTypes := #[43, 43] }, type := 43, pos := "l2_ver.go:166", after := #[{ on := 8, ground := Go.Ground.data }, { on := 11, ground := Go.Ground.data }], guard := none }) rfl (fun K hK => ?s128) ?m128
                case s128 =>
                  (refine step_append_verM (by rfl) _ _ 43 (by rfl) Try.underlying43 V.heap.size (.slice (some ⟨V.heap.size, 0, none⟩) 0 0) 0 [] (by rfl) (emptyVers (heap_alloc_new _ _) (Nat.le_refl _)) (some ⟨b2, o2 + (F) * 3, none⟩) (vs.drop (F)) (vs.length - (F)) _ (by rfl) hDL.out (.inl ⟨_, _, rfl⟩) (hDV.out.below (((Below.refl _ _).alloc (Nat.le_refl _) _).drew)) (by have := hDL.out; omega) (by simp) (by simp) ?_; intro g cp wC hown hgrow; have hbC := below_appD hgrow; have q := keepV1 hbC q0; have hbxC := HG.out.box.kept (grown_of_belowV hbC) (by simp); have hxC := hbxC.cell; have hxT := fun o => (hbxC.alloc o).cell; have HI := Lib.hid hown; have HO := Lib.hid (Go.Proofs.Ytjijichgoodocaa.ownsRow_of_below HO.out hbC); have hzz := Nat.le_trans hzz hbC.size; have HC := Lib.hid hbC; clear hown hgrow hbC)
                  refine hK.out _ _ ?h128 (fun hH128 => ?g128)
                  case h128 => ((try dsimp only); (first | with_reducible exact q | with_reducible exact keepV1_allocD q | with_reducible exact keepV1_alloc q | with_reducible exact keepV1_set mc md q | fail))
                  clear hK K hH126
                  (try simp only [Act.put, List.setIfInBounds_toArray, List.set_cons_zero, List.set_cons_succ])
                  refine wpAnyH_take (i := 13) (oi := { dst := some 75, op := Go.Op.build 45 #[(0, Go.Operand.tmp 69), (1, Go.Operand.tmp 74)], type := 45, pos := "l2_ver.go:166", after := #[{ on := 7, ground := Go.Ground.data }, { on := 12, ground := Go.Ground.data }], guard := none }) (v := ?v129) rfl (by kernel_rfl) (by kernel_rfl) (by kernel_rfl) (fun _ _ _ h => h) (Or.inl ⟨by rfl, ?y129⟩) hH128 ?r129
                  case y129 => (intro w hSw; (try dsimp only at hSw); go_simp; (try with_reducible rfl))
                  (try simp only [Act.put, List.setIfInBounds_toArray, List.set_cons_zero, List.set_cons_succ])
                  refine wpAnyH_ready (rs := [14]) (by kernel_rfl) (by simp) ?_
                  refine AllReadyH.cons (o := { dst := some 76, op := Go.Op.buildSlice 23 1 #[(0, Go.Operand.tmp 75)], type := 23, pos := "l2_ver.go:166", after := #[{ on := 13, ground := Go.Ground.data }], guard := none }) rfl (fun K hK => ?s131) ?m131
                  case s131 =>
                    go_simp
                    refine hK.out _ _ ?h131 (fun hH131 => ?g131)
                    case h131 => ((try dsimp only); (first | with_reducible exact q | with_reducible exact keepV1_allocD q | with_reducible exact keepV1_alloc q | with_reducible exact keepV1_set mc md q | fail))
                    clear hK K hH128
                    (try simp only [Act.put, List.setIfInBounds_toArray, List.set_cons_zero, List.set_cons_succ])
                    refine wpAnyH_ready (rs := [15]) (by kernel_rfl) (by simp) ?_
                    refine AllReadyH.cons (o := { dst := some 77, op := Go.Op.call { callee := Go.Callee.builtin Go.Builtin.append, args := #[Go.Operand.tmp 63, Go.Operand.tmp 76], argTypes := #[23, 23] }, type := 23, pos := "l2_ver.go:166", after := #[{ on := 1, ground := Go.Ground.data }, { on := 14, ground := Go.Ground.data }, { on := 12, ground := Go.Ground.chain }], guard := none }) rfl (fun K hK => ?s133) ?m133
                    case s133 =>
                      (refine step_append_lies _ (by rfl) _ _ 23 (by rfl) W2.heap.size 45 i0 (.agg #[.string ⟨#[]⟩, .slice none 0 0]) 2 40 Try.underlying23 hi0 hz0 hz1 hz2 rfl (by omega) v cs.length (cs.flatMap objCells) (by rfl) (HO.out.alloc _) ⟨wC.heap.size, 0, none⟩ 1 1 [.string os[k].key, .slice (some ⟨g, 0, none⟩) (vs.length - F) cp] (by rfl) (by rfl) (World.news_of_block (heap_alloc_new wC _)) (fun u hu => (by simp at hu; rcases hu with rfl | rfl <;> rfl)) (by omega) (by unfold maxLen; omega) (by omega) (by simp; omega) _ rfl ?_; intro gg cq wD hown hgrow hat hlt2; have q := keepV1_far hgrow nc nd (keepV1_alloc q); have hbxD := (hbxC.alloc _).kept hgrow hne; have hxD := hbxD.cell; have hfD := hbxD.frozen; have X := Lib.hid (And.intro hown hgrow); clear hown hgrow hat hlt2)
                      refine hK.out _ _ ?h133 (fun hH133 => ?g133)
                      case h133 => ((try dsimp only); (first | with_reducible exact q | with_reducible exact keepV1_allocD q | with_reducible exact keepV1_alloc q | with_reducible exact keepV1_set mc md q | fail))
                      clear hK K hH131
                      (try simp only [Act.put, List.setIfInBounds_toArray, List.set_cons_zero, List.set_cons_succ])
                      refine wpAnyH_take (i := 16) (oi := { dst := some 78, op := Go.Op.fieldAddr 25 (Go.Operand.tmp 5) 0, type := 0, pos := "l2_ver.go:166", after := #[{ on := 0, ground := Go.Ground.phase }, { on := 1, ground := Go.Ground.phase }, { on := 2, ground := Go.Ground.phase }, { on := 3, ground := Go.Ground.phase }, { on := 4, ground := Go.Ground.phase }, { on := 5, ground := Go.Ground.phase }, { on := 6, ground := Go.Ground.phase }, { on := 7, ground := Go.Ground.phase }, { on := 8, ground := Go.Ground.phase }, { on := 9, ground := Go.Ground.phase }, { on := 10, ground := Go.Ground.phase }, { on := 11, ground := Go.Ground.phase }, { on := 12, ground := Go.Ground.phase }, { on := 13, ground := Go.Ground.phase }, { on := 14, ground := Go.Ground.phase }, { on := 15, ground := Go.Ground.phase }], guard := none }) (v := ?v134) rfl (by kernel_rfl) (by kernel_rfl) (by kernel_rfl) (fun _ _ _ h => h) (Or.inl ⟨by rfl, ?y134⟩) hH133 ?r134
                      case y134 => (intro w hSw; (try dsimp only at hSw); go_simp; (try with_reducible rfl))
                      (try simp only [Act.put, List.setIfInBounds_toArray, List.set_cons_zero, List.set_cons_succ])
                      refine wpAnyH_ready (rs := [17]) (by kernel_rfl) (by simp) ?_
                      refine AllReadyH.cons (o := { dst := none, op := Go.Op.store 23 (Go.Operand.tmp 78) (Go.Operand.tmp 77), type := 0, pos := "l2_ver.go:166", after := #[{ on := 16, ground := Go.Ground.data }, { on := 15, ground := Go.Ground.data }, { on := 15, ground := Go.Ground.chain }, { on := 0, ground := Go.Ground.phase }, { on := 1, ground := Go.Ground.phase }, { on := 2, ground := Go.Ground.phase }, { on := 3, ground := Go.Ground.phase }, { on := 4, ground := Go.Ground.phase }, { on := 5, ground := Go.Ground.phase }, { on := 6, ground := Go.Ground.phase }, { on := 7, ground := Go.Ground.phase }, { on := 8, ground := Go.Ground.phase }, { on := 9, ground := Go.Ground.phase }, { on := 10, ground := Go.Ground.phase }, { on := 11, ground := Go.Ground.phase }, { on := 12, ground := Go.Ground.phase }, { on := 13, ground := Go.Ground.phase }, { on := 14, ground := Go.Ground.phase }, { on := 15, ground := Go.Ground.phase }], guard := none }) rfl (fun K hK => ?s136) ?m136
                      case s136 =>
                        go_simp
                        refine hK.out _ _ ?h136 (fun hH136 => ?g136)
                        case h136 => ((try dsimp only); (first | with_reducible exact q | with_reducible exact keepV1_allocD q | with_reducible exact keepV1_alloc q | with_reducible exact keepV1_set mc md q | fail))
                        clear hK K hH133
                        (try simp only [Act.put, List.setIfInBounds_toArray, List.set_cons_zero, List.set_cons_succ])
                        refine wpAnyH_done (by kernel_rfl) ?_ _
                        clear hH136
                        obtain ⟨hown, hgrow⟩ := X.out
                        have hI := HI.out
                        simp only [Nat.zero_add, List.nil_append] at hI hown hgrow
                        rw [← hDL.out] at hI hown hgrow
                        obtain ⟨pa, pc, pe, p1, p2, p3, p4, p5⟩ := own_versH hI
                        injection pe with pe1 pe2 pe3
                        subst pe1 pe3
                        have HPush := Gv.push (o := ⟨os[k].key, some ⟨g, 0, none⟩, cp, vs.drop (F)⟩) HG.out HC.out hsz p1 p2 p3 p4 p5 (by first | exact hown | (rw [objCells]; simpa using hown)) hgrow
                        obtain ⟨hbx, hG2⟩ := HPush
                        have hTD := Lib.hid ((turned_grown (HT.out.trans (Turned.of_below (HC.out.alloc HC.out.size _))) hgrow (fun j hj => (HO.out.lt j hj).1)).setCell (p := ⟨W1.heap.size, 0, none⟩) rfl (.slice (some ⟨gg, 0, none⟩) (cs.length + 1) cq))
                        have hG2 := Lib.hid hG2
                        clear hown hgrow hI p1 p2 p3 p4 p5 hbx X HI
                        go_wp2_with fail
                        go_roundw
                        case rel => exact ⟨k + 1, cs ++ [⟨os[k].key, some ⟨g, 0, none⟩, cp, vs.drop (F)⟩], _, by omega, by go_num, hTD.out, hG2.out, by rw [List.map_append, HK.out, List.take_succ_eq_append_getElem hlt, pruneIn_yes (o := os[k]) (by rw [HVS.out, ← HU.out]; omega), HVS.out, ← HU.out]; rfl⟩
                        case measure => simp [intOf]; omega
                      exact AllReadyH.nil
                    exact AllReadyH.nil
                  exact AllReadyH.nil
                exact AllReadyH.nil
              exact AllReadyH.nil
            refine AllReadyH.cons (o := { dst := some 70, op := Go.Op.buildSlice 43 0 #[], type := 43, pos := "l2_ver.go:166", after := #[], guard := none }) rfl (fun K hK => ?s137) ?m137
            case s137 =>
              go_simp
              refine hK.out _ _ ?h137 (fun hH137 => ?g137)
              case h137 => ((try dsimp only); (first | with_reducible exact q | with_reducible exact keepV1_allocD q | with_reducible exact keepV1_alloc q | with_reducible exact keepV1_set mc md q | fail))
              clear hK K hH0
              (try simp only [Act.put, List.setIfInBounds_toArray, List.set_cons_zero, List.set_cons_succ])
              refine wpAnyH_ready (rs := [1, 12]) (by kernel_rfl) (by simp) ?_
              refine AllReadyH.cons (o := { dst := some 63, op := Go.Op.load 23 (Go.Operand.tmp 62), type := 23, pos := "l2_ver.go:166", after := #[{ on := 0, ground := Go.Ground.data }], guard := none }) rfl (fun K hK => ?s139) ?m139
              case s139 =>
                go_simp
                refine hK.out _ _ ?h139 (fun hH139 => ?g139)
                case h139 => ((try dsimp only); (first | with_reducible exact q | with_reducible exact keepV1_allocD q | with_reducible exact keepV1_alloc q | with_reducible exact keepV1_set mc md q | fail))
                clear hK K hH137
                (try simp only [Act.put, List.setIfInBounds_toArray, List.set_cons_zero, List.set_cons_succ])
                refine wpAnyH_ready (rs := [12]) (by kernel_rfl) (by simp) ?_
                refine AllReadyH.cons (o := { dst := some 74, op := Go.Op.call { callee := Go.Callee.builtin Go.Builtin.append, args := #[Go.Operand.tmp 70, Go.Operand.tmp 73], argTypes := #[43, 43] }, type := 43, pos := "l2_ver.go:166", after := #[{ on := 8, ground := Go.Ground.data }, { on := 11, ground := Go.Ground.data }], guard := none }) rfl (fun K hK => ?s141) ?m141
                case s141 =>
                  (refine step_append_verM (by rfl) _ _ 43 (by rfl) Try.underlying43 V.heap.size (.slice (some ⟨V.heap.size, 0, none⟩) 0 0) 0 [] (by rfl) (emptyVers (heap_alloc_new _ _) (Nat.le_refl _)) (some ⟨b2, o2 + (F) * 3, none⟩) (vs.drop (F)) (vs.length - (F)) _ (by rfl) hDL.out (.inl ⟨_, _, rfl⟩) (hDV.out.below (((Below.refl _ _).alloc (Nat.le_refl _) _).drew)) (by have := hDL.out; omega) (by simp) (by simp) ?_; intro g cp wC hown hgrow; have hbC := below_appD hgrow; have q := keepV1 hbC q0; have hbxC := HG.out.box.kept (grown_of_belowV hbC) (by simp); have hxC := hbxC.cell; have hxT := fun o => (hbxC.alloc o).cell; have HI := Lib.hid hown; have HO := Lib.hid (Go.Proofs.Ytjijichgoodocaa.ownsRow_of_below HO.out hbC); have hzz := Nat.le_trans hzz hbC.size; have HC := Lib.hid hbC; clear hown hgrow hbC)
                  refine hK.out _ _ ?h141 (fun hH141 => ?g141)
                  case h141 => ((try dsimp only); (first | with_reducible exact q | with_reducible exact keepV1_allocD q | with_reducible exact keepV1_alloc q | with_reducible exact keepV1_set mc md q | fail))
                  clear hK K hH139
                  (try simp only [Act.put, List.setIfInBounds_toArray, List.set_cons_zero, List.set_cons_succ])
                  refine wpAnyH_take (i := 13) (oi := { dst := some 75, op := Go.Op.build 45 #[(0, Go.Operand.tmp 69), (1, Go.Operand.tmp 74)], type := 45, pos := "l2_ver.go:166", after := #[{ on := 7, ground := Go.Ground.data }, { on := 12, ground := Go.Ground.data }], guard := none }) (v := ?v142) rfl (by kernel_rfl) (by kernel_rfl) (by kernel_rfl) (fun _ _ _ h => h) (Or.inl ⟨by rfl, ?y142⟩) hH141 ?r142
                  case y142 => (intro w hSw; (try dsimp only at hSw); go_simp; (try with_reducible rfl))
                  (try simp only [Act.put, List.setIfInBounds_toArray, List.set_cons_zero, List.set_cons_succ])
                  refine wpAnyH_ready (rs := [14]) (by kernel_rfl) (by simp) ?_
                  refine AllReadyH.cons (o := { dst := some 76, op := Go.Op.buildSlice 23 1 #[(0, Go.Operand.tmp 75)], type := 23, pos := "l2_ver.go:166", after := #[{ on := 13, ground := Go.Ground.data }], guard := none }) rfl (fun K hK => ?s144) ?m144
                  case s144 =>
                    go_simp
                    refine hK.out _ _ ?h144 (fun hH144 => ?g144)
                    case h144 => ((try dsimp only); (first | with_reducible exact q | with_reducible exact keepV1_allocD q | with_reducible exact keepV1_alloc q | with_reducible exact keepV1_set mc md q | fail))
                    clear hK K hH141
                    (try simp only [Act.put, List.setIfInBounds_toArray, List.set_cons_zero, List.set_cons_succ])
                    refine wpAnyH_ready (rs := [15]) (by kernel_rfl) (by simp) ?_
                    refine AllReadyH.cons (o := { dst := some 77, op := Go.Op.call { callee := Go.Callee.builtin Go.Builtin.append, args := #[Go.Operand.tmp 63, Go.Operand.tmp 76], argTypes := #[23, 23] }, type := 23, pos := "l2_ver.go:166", after := #[{ on := 1, ground := Go.Ground.data }, { on := 14, ground := Go.Ground.data }, { on := 12, ground := Go.Ground.chain }], guard := none }) rfl (fun K hK => ?s146) ?m146
                    case s146 =>
                      (refine step_append_lies _ (by rfl) _ _ 23 (by rfl) W2.heap.size 45 i0 (.agg #[.string ⟨#[]⟩, .slice none 0 0]) 2 40 Try.underlying23 hi0 hz0 hz1 hz2 rfl (by omega) v cs.length (cs.flatMap objCells) (by rfl) (HO.out.alloc _) ⟨wC.heap.size, 0, none⟩ 1 1 [.string os[k].key, .slice (some ⟨g, 0, none⟩) (vs.length - F) cp] (by rfl) (by rfl) (World.news_of_block (heap_alloc_new wC _)) (fun u hu => (by simp at hu; rcases hu with rfl | rfl <;> rfl)) (by omega) (by unfold maxLen; omega) (by omega) (by simp; omega) _ rfl ?_; intro gg cq wD hown hgrow hat hlt2; have q := keepV1_far hgrow nc nd (keepV1_alloc q); have hbxD := (hbxC.alloc _).kept hgrow hne; have hxD := hbxD.cell; have hfD := hbxD.frozen; have X := Lib.hid (And.intro hown hgrow); clear hown hgrow hat hlt2)
                      refine hK.out _ _ ?h146 (fun hH146 => ?g146)
                      case h146 => ((try dsimp only); (first | with_reducible exact q | with_reducible exact keepV1_allocD q | with_reducible exact keepV1_alloc q | with_reducible exact keepV1_set mc md q | fail))
                      clear hK K hH144
                      (try simp only [Act.put, List.setIfInBounds_toArray, List.set_cons_zero, List.set_cons_succ])
                      refine wpAnyH_take (i := 16) (oi := { dst := some 78, op := Go.Op.fieldAddr 25 (Go.Operand.tmp 5) 0, type := 0, pos := "l2_ver.go:166", after := #[{ on := 0, ground := Go.Ground.phase }, { on := 1, ground := Go.Ground.phase }, { on := 2, ground := Go.Ground.phase }, { on := 3, ground := Go.Ground.phase }, { on := 4, ground := Go.Ground.phase }, { on := 5, ground := Go.Ground.phase }, { on := 6, ground := Go.Ground.phase }, { on := 7, ground := Go.Ground.phase }, { on := 8, ground := Go.Ground.phase }, { on := 9, ground := Go.Ground.phase }, { on := 10, ground := Go.Ground.phase }, { on := 11, ground := Go.Ground.phase }, { on := 12, ground := Go.Ground.phase }, { on := 13, ground := Go.Ground.phase }, { on := 14, ground := Go.Ground.phase }, { on := 15, ground := Go.Ground.phase }], guard := none }) (v := ?v147) rfl (by kernel_rfl) (by kernel_rfl) (by kernel_rfl) (fun _ _ _ h => h) (Or.inl ⟨by rfl, ?y147⟩) hH146 ?r147
                      case y147 => (intro w hSw; (try dsimp only at hSw); go_simp; (try with_reducible rfl))
                      (try simp only [Act.put, List.setIfInBounds_toArray, List.set_cons_zero, List.set_cons_succ])
                      refine wpAnyH_ready (rs := [17]) (by kernel_rfl) (by simp) ?_
                      refine AllReadyH.cons (o := { dst := none, op := Go.Op.store 23 (Go.Operand.tmp 78) (Go.Operand.tmp 77), type := 0, pos := "l2_ver.go:166", after := #[{ on := 16, ground := Go.Ground.data }, { on := 15, ground := Go.Ground.data }, { on := 15, ground := Go.Ground.chain }, { on := 0, ground := Go.Ground.phase }, { on := 1, ground := Go.Ground.phase }, { on := 2, ground := Go.Ground.phase }, { on := 3, ground := Go.Ground.phase }, { on := 4, ground := Go.Ground.phase }, { on := 5, ground := Go.Ground.phase }, { on := 6, ground := Go.Ground.phase }, { on := 7, ground := Go.Ground.phase }, { on := 8, ground := Go.Ground.phase }, { on := 9, ground := Go.Ground.phase }, { on := 10, ground := Go.Ground.phase }, { on := 11, ground := Go.Ground.phase }, { on := 12, ground := Go.Ground.phase }, { on := 13, ground := Go.Ground.phase }, { on := 14, ground := Go.Ground.phase }, { on := 15, ground := Go.Ground.phase }], guard := none }) rfl (fun K hK => ?s149) ?m149
                      case s149 =>
                        go_simp
                        refine hK.out _ _ ?h149 (fun hH149 => ?g149)
                        case h149 => ((try dsimp only); (first | with_reducible exact q | with_reducible exact keepV1_allocD q | with_reducible exact keepV1_alloc q | with_reducible exact keepV1_set mc md q | fail))
                        clear hK K hH146
                        (try simp only [Act.put, List.setIfInBounds_toArray, List.set_cons_zero, List.set_cons_succ])
                        refine wpAnyH_done (by kernel_rfl) ?_ _
                        clear hH149
                        obtain ⟨hown, hgrow⟩ := X.out
                        have hI := HI.out
                        simp only [Nat.zero_add, List.nil_append] at hI hown hgrow
                        rw [← hDL.out] at hI hown hgrow
                        obtain ⟨pa, pc, pe, p1, p2, p3, p4, p5⟩ := own_versH hI
                        injection pe with pe1 pe2 pe3
                        subst pe1 pe3
                        have HPush := Gv.push (o := ⟨os[k].key, some ⟨g, 0, none⟩, cp, vs.drop (F)⟩) HG.out HC.out hsz p1 p2 p3 p4 p5 (by first | exact hown | (rw [objCells]; simpa using hown)) hgrow
                        obtain ⟨hbx, hG2⟩ := HPush
                        have hTD := Lib.hid ((turned_grown (HT.out.trans (Turned.of_below (HC.out.alloc HC.out.size _))) hgrow (fun j hj => (HO.out.lt j hj).1)).setCell (p := ⟨W1.heap.size, 0, none⟩) rfl (.slice (some ⟨gg, 0, none⟩) (cs.length + 1) cq))
                        have hG2 := Lib.hid hG2
                        clear hown hgrow hI p1 p2 p3 p4 p5 hbx X HI
                        go_wp2_with fail
                        go_roundw
                        case rel => exact ⟨k + 1, cs ++ [⟨os[k].key, some ⟨g, 0, none⟩, cp, vs.drop (F)⟩], _, by omega, by go_num, hTD.out, hG2.out, by rw [List.map_append, HK.out, List.take_succ_eq_append_getElem hlt, pruneIn_yes (o := os[k]) (by rw [HVS.out, ← HU.out]; omega), HVS.out, ← HU.out]; rfl⟩
                        case measure => simp [intOf]; omega
                      exact AllReadyH.nil
                    exact AllReadyH.nil
                  exact AllReadyH.nil
                exact AllReadyH.nil
              refine AllReadyH.cons (o := { dst := some 74, op := Go.Op.call { callee := Go.Callee.builtin Go.Builtin.append, args := #[Go.Operand.tmp 70, Go.Operand.tmp 73], argTypes := #[43, 43] }, type := 43, pos := "l2_ver.go:166", after := #[{ on := 8, ground := Go.Ground.data }, { on := 11, ground := Go.Ground.data }], guard := none }) rfl (fun K hK => ?s150) ?m150
              case s150 =>
                (refine step_append_verM (by rfl) _ _ 43 (by rfl) Try.underlying43 V.heap.size (.slice (some ⟨V.heap.size, 0, none⟩) 0 0) 0 [] (by rfl) (emptyVers (heap_alloc_new _ _) (Nat.le_refl _)) (some ⟨b2, o2 + (F) * 3, none⟩) (vs.drop (F)) (vs.length - (F)) _ (by rfl) hDL.out (.inl ⟨_, _, rfl⟩) (hDV.out.below (((Below.refl _ _).alloc (Nat.le_refl _) _).drew)) (by have := hDL.out; omega) (by simp) (by simp) ?_; intro g cp wC hown hgrow; have hbC := below_appD hgrow; have q := keepV1 hbC q0; have hbxC := HG.out.box.kept (grown_of_belowV hbC) (by simp); have hxC := hbxC.cell; have hxT := fun o => (hbxC.alloc o).cell; have HI := Lib.hid hown; have HO := Lib.hid (Go.Proofs.Ytjijichgoodocaa.ownsRow_of_below HO.out hbC); have hzz := Nat.le_trans hzz hbC.size; have HC := Lib.hid hbC; clear hown hgrow hbC)
                refine hK.out _ _ ?h150 (fun hH150 => ?g150)
                case h150 => ((try dsimp only); (first | with_reducible exact q | with_reducible exact keepV1_allocD q | with_reducible exact keepV1_alloc q | with_reducible exact keepV1_set mc md q | fail))
                clear hK K hH137
                (try simp only [Act.put, List.setIfInBounds_toArray, List.set_cons_zero, List.set_cons_succ])
                refine wpAnyH_take (i := 13) (oi := { dst := some 75, op := Go.Op.build 45 #[(0, Go.Operand.tmp 69), (1, Go.Operand.tmp 74)], type := 45, pos := "l2_ver.go:166", after := #[{ on := 7, ground := Go.Ground.data }, { on := 12, ground := Go.Ground.data }], guard := none }) (v := ?v151) rfl (by kernel_rfl) (by kernel_rfl) (by kernel_rfl) (fun _ _ _ h => h) (Or.inl ⟨by rfl, ?y151⟩) hH150 ?r151
                case y151 => (intro w hSw; (try dsimp only at hSw); go_simp; (try with_reducible rfl))
                (try simp only [Act.put, List.setIfInBounds_toArray, List.set_cons_zero, List.set_cons_succ])
                refine wpAnyH_ready (rs := [1, 14]) (by kernel_rfl) (by simp) ?_
                refine AllReadyH.cons (o := { dst := some 63, op := Go.Op.load 23 (Go.Operand.tmp 62), type := 23, pos := "l2_ver.go:166", after := #[{ on := 0, ground := Go.Ground.data }], guard := none }) rfl (fun K hK => ?s153) ?m153
                case s153 =>
                  go_simp
                  refine hK.out _ _ ?h153 (fun hH153 => ?g153)
                  case h153 => ((try dsimp only); (first | with_reducible exact q | with_reducible exact keepV1_allocD q | with_reducible exact keepV1_alloc q | with_reducible exact keepV1_set mc md q | fail))
                  clear hK K hH150
                  (try simp only [Act.put, List.setIfInBounds_toArray, List.set_cons_zero, List.set_cons_succ])
                  refine wpAnyH_ready (rs := [14]) (by kernel_rfl) (by simp) ?_
                  refine AllReadyH.cons (o := { dst := some 76, op := Go.Op.buildSlice 23 1 #[(0, Go.Operand.tmp 75)], type := 23, pos := "l2_ver.go:166", after := #[{ on := 13, ground := Go.Ground.data }], guard := none }) rfl (fun K hK => ?s155) ?m155
                  case s155 =>
                    go_simp
                    refine hK.out _ _ ?h155 (fun hH155 => ?g155)
                    case h155 => ((try dsimp only); (first | with_reducible exact q | with_reducible exact keepV1_allocD q | with_reducible exact keepV1_alloc q | with_reducible exact keepV1_set mc md q | fail))
                    clear hK K hH153
                    (try simp only [Act.put, List.setIfInBounds_toArray, List.set_cons_zero, List.set_cons_succ])
                    refine wpAnyH_ready (rs := [15]) (by kernel_rfl) (by simp) ?_
                    refine AllReadyH.cons (o := { dst := some 77, op := Go.Op.call { callee := Go.Callee.builtin Go.Builtin.append, args := #[Go.Operand.tmp 63, Go.Operand.tmp 76], argTypes := #[23, 23] }, type := 23, pos := "l2_ver.go:166", after := #[{ on := 1, ground := Go.Ground.data }, { on := 14, ground := Go.Ground.data }, { on := 12, ground := Go.Ground.chain }], guard := none }) rfl (fun K hK => ?s157) ?m157
                    case s157 =>
                      (refine step_append_lies _ (by rfl) _ _ 23 (by rfl) W2.heap.size 45 i0 (.agg #[.string ⟨#[]⟩, .slice none 0 0]) 2 40 Try.underlying23 hi0 hz0 hz1 hz2 rfl (by omega) v cs.length (cs.flatMap objCells) (by rfl) (HO.out.alloc _) ⟨wC.heap.size, 0, none⟩ 1 1 [.string os[k].key, .slice (some ⟨g, 0, none⟩) (vs.length - F) cp] (by rfl) (by rfl) (World.news_of_block (heap_alloc_new wC _)) (fun u hu => (by simp at hu; rcases hu with rfl | rfl <;> rfl)) (by omega) (by unfold maxLen; omega) (by omega) (by simp; omega) _ rfl ?_; intro gg cq wD hown hgrow hat hlt2; have q := keepV1_far hgrow nc nd (keepV1_alloc q); have hbxD := (hbxC.alloc _).kept hgrow hne; have hxD := hbxD.cell; have hfD := hbxD.frozen; have X := Lib.hid (And.intro hown hgrow); clear hown hgrow hat hlt2)
                      refine hK.out _ _ ?h157 (fun hH157 => ?g157)
                      case h157 => ((try dsimp only); (first | with_reducible exact q | with_reducible exact keepV1_allocD q | with_reducible exact keepV1_alloc q | with_reducible exact keepV1_set mc md q | fail))
                      clear hK K hH155
                      (try simp only [Act.put, List.setIfInBounds_toArray, List.set_cons_zero, List.set_cons_succ])
                      refine wpAnyH_take (i := 16) (oi := { dst := some 78, op := Go.Op.fieldAddr 25 (Go.Operand.tmp 5) 0, type := 0, pos := "l2_ver.go:166", after := #[{ on := 0, ground := Go.Ground.phase }, { on := 1, ground := Go.Ground.phase }, { on := 2, ground := Go.Ground.phase }, { on := 3, ground := Go.Ground.phase }, { on := 4, ground := Go.Ground.phase }, { on := 5, ground := Go.Ground.phase }, { on := 6, ground := Go.Ground.phase }, { on := 7, ground := Go.Ground.phase }, { on := 8, ground := Go.Ground.phase }, { on := 9, ground := Go.Ground.phase }, { on := 10, ground := Go.Ground.phase }, { on := 11, ground := Go.Ground.phase }, { on := 12, ground := Go.Ground.phase }, { on := 13, ground := Go.Ground.phase }, { on := 14, ground := Go.Ground.phase }, { on := 15, ground := Go.Ground.phase }], guard := none }) (v := ?v158) rfl (by kernel_rfl) (by kernel_rfl) (by kernel_rfl) (fun _ _ _ h => h) (Or.inl ⟨by rfl, ?y158⟩) hH157 ?r158
                      case y158 => (intro w hSw; (try dsimp only at hSw); go_simp; (try with_reducible rfl))
                      (try simp only [Act.put, List.setIfInBounds_toArray, List.set_cons_zero, List.set_cons_succ])
                      refine wpAnyH_ready (rs := [17]) (by kernel_rfl) (by simp) ?_
                      refine AllReadyH.cons (o := { dst := none, op := Go.Op.store 23 (Go.Operand.tmp 78) (Go.Operand.tmp 77), type := 0, pos := "l2_ver.go:166", after := #[{ on := 16, ground := Go.Ground.data }, { on := 15, ground := Go.Ground.data }, { on := 15, ground := Go.Ground.chain }, { on := 0, ground := Go.Ground.phase }, { on := 1, ground := Go.Ground.phase }, { on := 2, ground := Go.Ground.phase }, { on := 3, ground := Go.Ground.phase }, { on := 4, ground := Go.Ground.phase }, { on := 5, ground := Go.Ground.phase }, { on := 6, ground := Go.Ground.phase }, { on := 7, ground := Go.Ground.phase }, { on := 8, ground := Go.Ground.phase }, { on := 9, ground := Go.Ground.phase }, { on := 10, ground := Go.Ground.phase }, { on := 11, ground := Go.Ground.phase }, { on := 12, ground := Go.Ground.phase }, { on := 13, ground := Go.Ground.phase }, { on := 14, ground := Go.Ground.phase }, { on := 15, ground := Go.Ground.phase }], guard := none }) rfl (fun K hK => ?s160) ?m160
                      case s160 =>
                        go_simp
                        refine hK.out _ _ ?h160 (fun hH160 => ?g160)
                        case h160 => ((try dsimp only); (first | with_reducible exact q | with_reducible exact keepV1_allocD q | with_reducible exact keepV1_alloc q | with_reducible exact keepV1_set mc md q | fail))
                        clear hK K hH157
                        (try simp only [Act.put, List.setIfInBounds_toArray, List.set_cons_zero, List.set_cons_succ])
                        refine wpAnyH_done (by kernel_rfl) ?_ _
                        clear hH160
                        obtain ⟨hown, hgrow⟩ := X.out
                        have hI := HI.out
                        simp only [Nat.zero_add, List.nil_append] at hI hown hgrow
                        rw [← hDL.out] at hI hown hgrow
                        obtain ⟨pa, pc, pe, p1, p2, p3, p4, p5⟩ := own_versH hI
                        injection pe with pe1 pe2 pe3
                        subst pe1 pe3
                        have HPush := Gv.push (o := ⟨os[k].key, some ⟨g, 0, none⟩, cp, vs.drop (F)⟩) HG.out HC.out hsz p1 p2 p3 p4 p5 (by first | exact hown | (rw [objCells]; simpa using hown)) hgrow
                        obtain ⟨hbx, hG2⟩ := HPush
                        have hTD := Lib.hid ((turned_grown (HT.out.trans (Turned.of_below (HC.out.alloc HC.out.size _))) hgrow (fun j hj => (HO.out.lt j hj).1)).setCell (p := ⟨W1.heap.size, 0, none⟩) rfl (.slice (some ⟨gg, 0, none⟩) (cs.length + 1) cq))
                        have hG2 := Lib.hid hG2
                        clear hown hgrow hI p1 p2 p3 p4 p5 hbx X HI
                        go_wp2_with fail
                        go_roundw
                        case rel => exact ⟨k + 1, cs ++ [⟨os[k].key, some ⟨g, 0, none⟩, cp, vs.drop (F)⟩], _, by omega, by go_num, hTD.out, hG2.out, by rw [List.map_append, HK.out, List.take_succ_eq_append_getElem hlt, pruneIn_yes (o := os[k]) (by rw [HVS.out, ← HU.out]; omega), HVS.out, ← HU.out]; rfl⟩
                        case measure => simp [intOf]; omega
                      exact AllReadyH.nil
                    exact AllReadyH.nil
                  exact AllReadyH.nil
                refine AllReadyH.cons (o := { dst := some 76, op := Go.Op.buildSlice 23 1 #[(0, Go.Operand.tmp 75)], type := 23, pos := "l2_ver.go:166", after := #[{ on := 13, ground := Go.Ground.data }], guard := none }) rfl (fun K hK => ?s161) ?m161
                case s161 =>
                  go_simp
                  refine hK.out _ _ ?h161 (fun hH161 => ?g161)
                  case h161 => ((try dsimp only); (first | with_reducible exact q | with_reducible exact keepV1_allocD q | with_reducible exact keepV1_alloc q | with_reducible exact keepV1_set mc md q | fail))
                  clear hK K hH150
                  (try simp only [Act.put, List.setIfInBounds_toArray, List.set_cons_zero, List.set_cons_succ])
                  refine wpAnyH_ready (rs := [1]) (by kernel_rfl) (by simp) ?_
                  refine AllReadyH.cons (o := { dst := some 63, op := Go.Op.load 23 (Go.Operand.tmp 62), type := 23, pos := "l2_ver.go:166", after := #[{ on := 0, ground := Go.Ground.data }], guard := none }) rfl (fun K hK => ?s163) ?m163
                  case s163 =>
                    go_simp
                    refine hK.out _ _ ?h163 (fun hH163 => ?g163)
                    case h163 => ((try dsimp only); (first | with_reducible exact q | with_reducible exact keepV1_allocD q | with_reducible exact keepV1_alloc q | with_reducible exact keepV1_set mc md q | fail))
                    clear hK K hH161
                    (try simp only [Act.put, List.setIfInBounds_toArray, List.set_cons_zero, List.set_cons_succ])
                    refine wpAnyH_ready (rs := [15]) (by kernel_rfl) (by simp) ?_
                    refine AllReadyH.cons (o := { dst := some 77, op := Go.Op.call { callee := Go.Callee.builtin Go.Builtin.append, args := #[Go.Operand.tmp 63, Go.Operand.tmp 76], argTypes := #[23, 23] }, type := 23, pos := "l2_ver.go:166", after := #[{ on := 1, ground := Go.Ground.data }, { on := 14, ground := Go.Ground.data }, { on := 12, ground := Go.Ground.chain }], guard := none }) rfl (fun K hK => ?s165) ?m165
                    case s165 =>
                      (refine step_append_lies _ (by rfl) _ _ 23 (by rfl) W2.heap.size 45 i0 (.agg #[.string ⟨#[]⟩, .slice none 0 0]) 2 40 Try.underlying23 hi0 hz0 hz1 hz2 rfl (by omega) v cs.length (cs.flatMap objCells) (by rfl) (HO.out.alloc _) ⟨wC.heap.size, 0, none⟩ 1 1 [.string os[k].key, .slice (some ⟨g, 0, none⟩) (vs.length - F) cp] (by rfl) (by rfl) (World.news_of_block (heap_alloc_new wC _)) (fun u hu => (by simp at hu; rcases hu with rfl | rfl <;> rfl)) (by omega) (by unfold maxLen; omega) (by omega) (by simp; omega) _ rfl ?_; intro gg cq wD hown hgrow hat hlt2; have q := keepV1_far hgrow nc nd (keepV1_alloc q); have hbxD := (hbxC.alloc _).kept hgrow hne; have hxD := hbxD.cell; have hfD := hbxD.frozen; have X := Lib.hid (And.intro hown hgrow); clear hown hgrow hat hlt2)
                      refine hK.out _ _ ?h165 (fun hH165 => ?g165)
                      case h165 => ((try dsimp only); (first | with_reducible exact q | with_reducible exact keepV1_allocD q | with_reducible exact keepV1_alloc q | with_reducible exact keepV1_set mc md q | fail))
                      clear hK K hH163
                      (try simp only [Act.put, List.setIfInBounds_toArray, List.set_cons_zero, List.set_cons_succ])
                      refine wpAnyH_take (i := 16) (oi := { dst := some 78, op := Go.Op.fieldAddr 25 (Go.Operand.tmp 5) 0, type := 0, pos := "l2_ver.go:166", after := #[{ on := 0, ground := Go.Ground.phase }, { on := 1, ground := Go.Ground.phase }, { on := 2, ground := Go.Ground.phase }, { on := 3, ground := Go.Ground.phase }, { on := 4, ground := Go.Ground.phase }, { on := 5, ground := Go.Ground.phase }, { on := 6, ground := Go.Ground.phase }, { on := 7, ground := Go.Ground.phase }, { on := 8, ground := Go.Ground.phase }, { on := 9, ground := Go.Ground.phase }, { on := 10, ground := Go.Ground.phase }, { on := 11, ground := Go.Ground.phase }, { on := 12, ground := Go.Ground.phase }, { on := 13, ground := Go.Ground.phase }, { on := 14, ground := Go.Ground.phase }, { on := 15, ground := Go.Ground.phase }], guard := none }) (v := ?v166) rfl (by kernel_rfl) (by kernel_rfl) (by kernel_rfl) (fun _ _ _ h => h) (Or.inl ⟨by rfl, ?y166⟩) hH165 ?r166
                      case y166 => (intro w hSw; (try dsimp only at hSw); go_simp; (try with_reducible rfl))
                      (try simp only [Act.put, List.setIfInBounds_toArray, List.set_cons_zero, List.set_cons_succ])
                      refine wpAnyH_ready (rs := [17]) (by kernel_rfl) (by simp) ?_
                      refine AllReadyH.cons (o := { dst := none, op := Go.Op.store 23 (Go.Operand.tmp 78) (Go.Operand.tmp 77), type := 0, pos := "l2_ver.go:166", after := #[{ on := 16, ground := Go.Ground.data }, { on := 15, ground := Go.Ground.data }, { on := 15, ground := Go.Ground.chain }, { on := 0, ground := Go.Ground.phase }, { on := 1, ground := Go.Ground.phase }, { on := 2, ground := Go.Ground.phase }, { on := 3, ground := Go.Ground.phase }, { on := 4, ground := Go.Ground.phase }, { on := 5, ground := Go.Ground.phase }, { on := 6, ground := Go.Ground.phase }, { on := 7, ground := Go.Ground.phase }, { on := 8, ground := Go.Ground.phase }, { on := 9, ground := Go.Ground.phase }, { on := 10, ground := Go.Ground.phase }, { on := 11, ground := Go.Ground.phase }, { on := 12, ground := Go.Ground.phase }, { on := 13, ground := Go.Ground.phase }, { on := 14, ground := Go.Ground.phase }, { on := 15, ground := Go.Ground.phase }], guard := none }) rfl (fun K hK => ?s168) ?m168
                      case s168 =>
                        go_simp
                        refine hK.out _ _ ?h168 (fun hH168 => ?g168)
                        case h168 => ((try dsimp only); (first | with_reducible exact q | with_reducible exact keepV1_allocD q | with_reducible exact keepV1_alloc q | with_reducible exact keepV1_set mc md q | fail))
                        clear hK K hH165
                        (try simp only [Act.put, List.setIfInBounds_toArray, List.set_cons_zero, List.set_cons_succ])
                        refine wpAnyH_done (by kernel_rfl) ?_ _
                        clear hH168
                        obtain ⟨hown, hgrow⟩ := X.out
                        have hI := HI.out
                        simp only [Nat.zero_add, List.nil_append] at hI hown hgrow
                        rw [← hDL.out] at hI hown hgrow
                        obtain ⟨pa, pc, pe, p1, p2, p3, p4, p5⟩ := own_versH hI
                        injection pe with pe1 pe2 pe3
                        subst pe1 pe3
                        have HPush := Gv.push (o := ⟨os[k].key, some ⟨g, 0, none⟩, cp, vs.drop (F)⟩) HG.out HC.out hsz p1 p2 p3 p4 p5 (by first | exact hown | (rw [objCells]; simpa using hown)) hgrow
                        obtain ⟨hbx, hG2⟩ := HPush
                        have hTD := Lib.hid ((turned_grown (HT.out.trans (Turned.of_below (HC.out.alloc HC.out.size _))) hgrow (fun j hj => (HO.out.lt j hj).1)).setCell (p := ⟨W1.heap.size, 0, none⟩) rfl (.slice (some ⟨gg, 0, none⟩) (cs.length + 1) cq))
                        have hG2 := Lib.hid hG2
                        clear hown hgrow hI p1 p2 p3 p4 p5 hbx X HI
                        go_wp2_with fail
                        go_roundw
                        case rel => exact ⟨k + 1, cs ++ [⟨os[k].key, some ⟨g, 0, none⟩, cp, vs.drop (F)⟩], _, by omega, by go_num, hTD.out, hG2.out, by rw [List.map_append, HK.out, List.take_succ_eq_append_getElem hlt, pruneIn_yes (o := os[k]) (by rw [HVS.out, ← HU.out]; omega), HVS.out, ← HU.out]; rfl⟩
                        case measure => simp [intOf]; omega
                      exact AllReadyH.nil
                    exact AllReadyH.nil
                  exact AllReadyH.nil
                exact AllReadyH.nil
              exact AllReadyH.nil
            exact AllReadyH.nil
    · obtain rfl : k = os.length := by omega
      obtain ⟨va, vc, rfl, hA⟩ := HG.out.out (lo := W2.heap.size) (Nat.le_refl _)
      have hx := HG.out.box.cell
      have hr2 : W2.cell? ⟨w.heap.size + 1, 0, none⟩ = some (.slice none 0 0) := by assumption
      have hfr2 : W2.frozen? ⟨w.heap.size + 1, 0, none⟩ = false := by assumption
      have r0 := (HT.out.cell (p := ⟨w.heap.size + 1, 0, none⟩) (show w.heap.size + 1 < W2.heap.size by omega) (show ¬ (w.heap.size + 1 = W1.heap.size) by omega)).trans hr2
      have fr0 := (HT.out.frozen (p := ⟨w.heap.size + 1, 0, none⟩) (show w.heap.size + 1 < W2.heap.size by omega) (show ¬ (w.heap.size + 1 = W1.heap.size) by omega)).trans hfr2
      have HA := Lib.hid hA
      have hrl : w.heap.size + 1 < V.heap.size := by omega
      clear hA
      go_wp2_with fail
      refine bodyPost_ret (v := .agg #[.slice va cs.length vc]) (by simp [results, Try.results39, go_sem, *]) rfl ?_
      refine ⟨va, cs, vc, by rw [HK.out, List.take_length, pruneF, if_pos HY.out]; rfl, rfl, ?_, HBw.out.setCell (p := ⟨w.heap.size + 1, 0, none⟩) (show w.heap.size ≤ w.heap.size + 1 by omega) _⟩
      exact (HA.out.turned (S := fun b => b = w.heap.size + 1) (fun b h1 h2 e => by omega) ((Turned.refl (fun b => b = w.heap.size + 1) _).setCell (p := ⟨w.heap.size + 1, 0, none⟩) rfl _)).lower (by omega)
end Go.Proofs.Ytjijichgoodocaa
