/- The law FnVmapCut: a map in pieces is the map. -/
import Derived.Test.YtjijichgoodocaaFvD
import Derived.Test.YtjijichgoodocaaDrawV
import Derived.Test.YtjijichgoodocaaLawV
import Derived.Test.YtjijichgoodocaaMeetP
namespace Go.Proofs.Ytjijichgoodocaa
open Go.RowKit

/-- Nothing old has turned; kept whole. -/
def KpB (W u : World) : Prop := Below W.heap.size W u
theorem KpB.refl (W : World) : KpB W W := Below.refl _ _
theorem KpB.b {W u : World} (h : KpB W u) : Below W.heap.size W u := h
theorem KpB.cell {W u : World} (h : KpB W u) {p : Addr} (hp : p.block < W.heap.size) : u.cell? p = W.cell? p := Below.cell h hp
theorem KpB.go {W u v : World} (h : KpB W u) (hb : Below u.heap.size u v) : KpB W v := Below.trans h (hb.mono (Below.size h))
theorem KpB.drewB {W u : World} (h : KpB W u) : KpB W u.drew := Below.drew h
theorem KpB.allocB {W u : World} {o : Obj} (h : KpB W u) : KpB W (u.alloc o) := Below.alloc h (Below.size h) o
theorem KpB.setB {W u : World} {g o : Nat} {x : Value} (h : KpB W u) (hg : W.heap.size ≤ g) : KpB W (u.setCell ⟨g, o, none⟩ x) := Below.setCell (p := ⟨g, o, none⟩) h hg x
theorem kpB5 {c1 c2 c3 c4 c5 : Prop} {W u : World} (h : c1 ∧ c2 ∧ c3 ∧ c4 ∧ c5 ∧ KpB W u) : KpB W u := h.2.2.2.2.2
/-- A box with a map in it, new since W. -/
def NewMr (W : World) (kvs : List Kv) (p : Value) (u : World) : Prop :=
  ∃ g a cs c, p = .pointer (some ⟨g, 0, none⟩) ∧ Below W.heap.size W u ∧ W.heap.size ≤ g ∧ g < u.heap.size ∧ u.cell? ⟨g, 0, none⟩ = some (.slice a cs.length c) ∧ cs.map ObjD.kv = kvs ∧ Mr u a cs
/-- What is known of a list of keys and versions that is small. -/
theorem newMr_A {W u : World} {kvs : List Kv} {cs : List ObjD} {a : Option Addr} {c lo hi : Nat} {t : TypeId} (hB : KpB W u) (e : cs.map ObjD.kv = kvs) (h : VmAt u lo hi a cs) (hf : kvFits kvs) (hn : kvs.length ≤ 1000) (hv : ∀ p ∈ kvs, p.2.length ≤ 1000) :
    NewMr W kvs (.pointer (some ⟨u.heap.size, 0, none⟩)) (u.alloc (.cells #[.slice a cs.length c] t)) :=
  ⟨u.heap.size, a, cs, c, rfl, KpB.allocB hB, Below.size hB, by simp, by simp, e, (mr_of_at h e hf hn hv).below ((Below.refl _ _).alloc (Nat.le_refl _) _)⟩
theorem newMr_B {W u : World} {kvs : List Kv} {cs : List ObjD} {a : Option Addr} {c lo hi g : Nat} (hB : KpB W u) (e : cs.map ObjD.kv = kvs) (h : VmAt u lo hi a cs) (hf : kvFits kvs) (hn : kvs.length ≤ 1000) (hv : ∀ p ∈ kvs, p.2.length ≤ 1000) (z : Zr1 g u) (hg : W.heap.size ≤ g) (hs : g < lo) :
    NewMr W kvs (.pointer (some ⟨g, 0, none⟩)) (u.setCell ⟨g, 0, none⟩ (.slice a cs.length c)) := by
  obtain ⟨h1, _, h7⟩ := z
  exact ⟨g, a, cs, c, rfl, KpB.setB hB hg, hg, by simpa using h7, by simp [go_sem, h1, h7], e, mr_of_at (h.setAway (.inl hs)) e hf hn hv⟩
theorem spanCut_m (lo hi key : ByteArray) (w : World) (hlo : lo.size ≤ maxLen) (hhi : hi.size ≤ maxLen) (hkey : key.size ≤ maxLen) :
    Calls Try.prog 33 #[.agg #[.string lo, .string hi], .string key] w fun e w' => ∃ a1 a2 b1 b2 ok, ok = cutOkB lo hi key ∧ (ok = true → lo = a1 ∧ key = a2 ∧ key = b1 ∧ hi = b2) ∧ a1.size ≤ maxLen ∧ a2.size ≤ maxLen ∧ b1.size ≤ maxLen ∧ b2.size ≤ maxLen ∧ e = .returned (.tuple #[.agg #[.string a1, .string a2], .agg #[.string b1, .string b2], .bool ok]) ∧ Below w.heap.size w w' := by
  cases h : cutOkB lo hi key
  · exact (cut_no lo hi key w hlo hhi hkey h).mono fun e w' ⟨he, hb⟩ => ⟨_, _, _, _, false, rfl, (fun q => by cases q), Nat.zero_le _, Nat.zero_le _, Nat.zero_le _, Nat.zero_le _, he, hb⟩
  · exact (cut_yes lo hi key w hlo hhi hkey h).mono fun e w' ⟨he, hb⟩ => ⟨_, _, _, _, true, rfl, fun _ => ⟨rfl, rfl, rfl, rfl⟩, hlo, hkey, hkey, hhi, he, hb⟩
theorem cut_has {lo hi : ByteArray} {os xs : List ObjD} {p : Kv} (e : xs.map ObjD.kv = cutF lo hi (os.map ObjD.kv)) (hx : KvOk (xs.map ObjD.kv)) (ho : KvOk (os.map ObjD.kv)) (hs : spanOkB lo hi = true) (hp : p ∈ xs.map ObjD.kv) : spanHasB lo hi p.1 = true := by
  have h1 := (hx.vers hp).1
  rw [e, cutF_yes ho hs] at hp
  have h2 := (List.mem_filter.1 hp).2
  unfold spanHasB
  rw [hs, h1, h2]; rfl
theorem cut2_len {w : World} {a : Option Addr} {os : List ObjD} (_ : Mr w a os) (h : os.length ≤ 20) {lo hi lo2 hi2 : ByteArray} : (cutF lo hi (os.map ObjD.kv)).length + (cutF lo2 hi2 (os.map ObjD.kv)).length ≤ 1000 := by
  have h1 := cutF_len lo hi (os.map ObjD.kv)
  have h2 := cutF_len lo2 hi2 (os.map ObjD.kv)
  rw [List.length_map] at h1 h2
  omega

theorem vmapJoin_k {a b : Option Addr} {os ps : List ObjD} {w : World} {k1 k2 jk : List Kv} {jb : Bool} (h : Mr w a os) (k : Mr w b ps) (c1 c2 : Nat) (e1 : os.map ObjD.kv = k1) (e2 : ps.map ObjD.kv = k2) (hk : jk = joinF k1 k2) (hj : jb = joinB k1 k2) (hl : k1.length + k2.length ≤ 1000) : Calls Try.prog 34 #[.agg #[.slice a os.length c1], .agg #[.slice b ps.length c2]] w (VmOutB jk jb w) := by
  subst e1 e2 hk hj
  exact vmapJoin_any a b os ps c1 c2 w h.inn k.inn h.fits k.fits h.pl k.pl h.n k.n h.vn k.vn

set_option maxRecDepth 100000 in
set_option maxHeartbeats 8000000 in
theorem fnVmapCut_law (a : Option Addr) (len cap : Nat) (am2 : Option Addr) (len2 cap2 : Nat) (w : World) (h : BytesIn w a len cap) (h2 : BytesIn w am2 len2 cap2) :
    Calls Try.prog 6 #[.slice a len cap, .slice am2 len2 cap2] w fun e w' => e = .returned (.bool true) ∧ Below w.heap.size w w' := by
  have hcm := h.2.1
  have hlc := h.1
  have hcm2 := h2.2.1
  have hlc2 := h2.1
  have H := Lib.hid h
  clear h
  unfold maxLen at hcm hcm2
  by_cases hl : 1048576 < len
  · go_enter Try.func6, Try.ntmps6
    go_wp2_with fail
    go_ret
    exact ⟨rfl, Below.refl _ _⟩
  by_cases hl2 : 1048576 < len2
  · go_enter Try.func6, Try.ntmps6
    go_wp2_with fail
    go_ret
    exact ⟨rfl, Below.refl _ _⟩
  go_enter Try.func6, Try.ntmps6
  go_wp2_with fail
  refine (drawVmapCut_any a len cap _ H.out).mono ?_
  rintro e w1 ⟨os, am, c, lo, hi, hlo, hhi, rfl, hD, hb⟩
  have HB := Lib.hid hb
  have HD := Lib.hid hD.mr
  have HM := Lib.hid (h2.below hb)
  have HDL := Lib.hid (show os.length ≤ 20 from hD.len)
  have HLO := Lib.hid hlo
  have HHI := Lib.hid hhi
  clear hD hb H h2 hlo hhi
  obtain ⟨V_1, hV_1⟩ : ∃ V_1, (w1.alloc (.cells #[.slice am os.length c] 25)).alloc (.cells #[.string lo, .string hi] 47) = V_1 := ⟨_, rfl⟩
  have bV_1 : Below w1.heap.size w1 V_1 := by rw [← hV_1]; exact ((Below.refl _ _).alloc (Nat.le_refl _) _).alloc (by simp) _
  have c_2 : V_1.cell? ⟨w1.heap.size, 0, none⟩ = some (.slice am os.length c) := by rw [← hV_1]; simp [go_sem]
  have s_3 : w1.heap.size < V_1.heap.size := by rw [← hV_1]; simp <;> omega
  have k_4 : w1.heap.size < V_1.heap.size := s_3
  have c_5 : V_1.cell? ⟨w1.heap.size + 1, 0, none⟩ = some (.string lo) := by rw [← hV_1]; simp [go_sem]
  have c_6 : V_1.cell? ⟨w1.heap.size + 1, 1, none⟩ = some (.string hi) := by rw [← hV_1]; simp [go_sem]
  have s_7 : w1.heap.size + 1 < V_1.heap.size := by rw [← hV_1]; simp
  have k_8 : w1.heap.size + 1 < V_1.heap.size := s_7
  have H_9 := Lib.hid (HD.out.below bV_1)
  have H_10 := Lib.hid (HM.out.below bV_1)
  have HB := Lib.hid (HB.out.trans (bV_1.mono HB.out.size))
  have o_11 : w1.heap.size ≤ V_1.heap.size := bV_1.size
  clear bV_1
  go_wp2_with fail
  clear hV_1
  refine (vmapCut_m H_9.out c lo hi HLO.out HHI.out).mono ?_
  rintro e w2 ⟨ax, xs, cx, hkx, rfl, hmx, hb⟩
  have c_12 := (hb.cell (p := ⟨w1.heap.size, 0, none⟩) s_3).trans c_2
  have s_13 : w1.heap.size < w2.heap.size := Nat.lt_of_lt_of_le s_3 hb.size
  have c_14 := (hb.cell (p := ⟨w1.heap.size + 1, 0, none⟩) s_7).trans c_5
  have c_15 := (hb.cell (p := ⟨w1.heap.size + 1, 1, none⟩) s_7).trans c_6
  have s_16 : w1.heap.size + 1 < w2.heap.size := Nat.lt_of_lt_of_le s_7 hb.size
  have H_17 := Lib.hid (H_9.out.below hb)
  have H_18 := Lib.hid (H_10.out.below hb)
  have HB := Lib.hid (HB.out.trans (hb.mono HB.out.size))
  have o_19 : V_1.heap.size ≤ w2.heap.size := hb.size
  clear c_2 s_3 c_5 c_6 s_7
  have HX := Lib.hid hmx
  have HKX := Lib.hid hkx
  clear hb hmx hkx
  obtain ⟨V_20, hV_20⟩ : ∃ V_20, w2.alloc (.cells #[.slice ax xs.length cx] 25) = V_20 := ⟨_, rfl⟩
  have bV_20 : Below w2.heap.size w2 V_20 := by rw [← hV_20]; exact (Below.refl _ _).alloc (Nat.le_refl _) _
  have c_21 : V_20.cell? ⟨w2.heap.size, 0, none⟩ = some (.slice ax xs.length cx) := by rw [← hV_20]; simp [go_sem]
  have s_22 : w2.heap.size < V_20.heap.size := by rw [← hV_20]; simp
  have k_23 : w2.heap.size < V_20.heap.size := s_22
  have c_24 := (bV_20.cell (p := ⟨w1.heap.size, 0, none⟩) s_13).trans c_12
  have s_25 : w1.heap.size < V_20.heap.size := Nat.lt_of_lt_of_le s_13 bV_20.size
  have c_26 := (bV_20.cell (p := ⟨w1.heap.size + 1, 0, none⟩) s_16).trans c_14
  have c_27 := (bV_20.cell (p := ⟨w1.heap.size + 1, 1, none⟩) s_16).trans c_15
  have s_28 : w1.heap.size + 1 < V_20.heap.size := Nat.lt_of_lt_of_le s_16 bV_20.size
  have H_29 := Lib.hid (H_17.out.below bV_20)
  have H_30 := Lib.hid (H_18.out.below bV_20)
  have H_31 := Lib.hid (HX.out.below bV_20)
  have HB := Lib.hid (HB.out.trans (bV_20.mono HB.out.size))
  have o_32 : w2.heap.size ≤ V_20.heap.size := bV_20.size
  clear c_12 s_13 c_14 c_15 s_16
  clear bV_20
  obtain ⟨ok, hok⟩ := mok_ex os
  have HOK := Lib.hid hok
  clear hok
  obtain ⟨sok, hsok⟩ : ∃ b, spanOkB lo hi = b := ⟨_, rfl⟩
  have HSOK := Lib.hid hsok
  clear hsok
  go_wp2_with fail
  clear hV_20
  cases ok
  · skip
    go_cut [47] from 48 (fun t u => t = .bool true ∧ Below V_20.heap.size V_20 u)
    case first =>
      have hbq : Below V_20.heap.size V_20 V_20.drew := (Below.refl _ _).drew
      have qq := And.intro (c_21) (And.intro (c_24) (And.intro (c_26) (c_27)))
      refine wp_region_held_drew (S := (fun u => u.cell? ⟨w2.heap.size, 0, none⟩ = some (.slice ax xs.length cx) ∧ u.cell? ⟨w1.heap.size, 0, none⟩ = some (.slice am os.length c) ∧ u.cell? ⟨w1.heap.size + 1, 0, none⟩ = some (.string lo) ∧ u.cell? ⟨w1.heap.size + 1, 1, none⟩ = some (.string hi))) (by kernel_rfl) (by exact qq) (fun hH0 => ?_)
      refine wpAnyH_take (i := 0) (oi := { dst := Option.some 32, op := Go.Op.load 25 (Go.Operand.tmp 7), type := 25, pos := "laws.go:178", after := #[], guard := Option.none }) (v := ?v1) rfl (by kernel_rfl) (by kernel_rfl) (by kernel_rfl) (fun _ _ _ h => h) (Or.inl ⟨by rfl, ?y1⟩) hH0 ?r1
      case y1 => (intro w hSw; (try dsimp only at hSw); go_simp; (try with_reducible rfl))
      (try simp only [Act.put, List.setIfInBounds_toArray, List.set_cons_zero, List.set_cons_succ])
      refine wpAnyH_take (i := 1) (oi := { dst := Option.some 33, op := Go.Op.load 25 (Go.Operand.tmp 5), type := 25, pos := "laws.go:178", after := #[], guard := Option.none }) (v := ?v2) rfl (by kernel_rfl) (by kernel_rfl) (by kernel_rfl) (fun _ _ _ h => h) (Or.inl ⟨by rfl, ?y2⟩) hH0 ?r2
      case y2 => (intro w hSw; (try dsimp only at hSw); go_simp; (try with_reducible rfl))
      (try simp only [Act.put, List.setIfInBounds_toArray, List.set_cons_zero, List.set_cons_succ])
      refine wpAnyH_take (i := 2) (oi := { dst := Option.some 34, op := Go.Op.load 47 (Go.Operand.tmp 6), type := 47, pos := "laws.go:178", after := #[], guard := Option.none }) (v := ?v3) rfl (by kernel_rfl) (by kernel_rfl) (by kernel_rfl) (fun _ _ _ h => h) (Or.inl ⟨by rfl, ?y3⟩) hH0 ?r3
      case y3 => (intro w hSw; (try dsimp only at hSw); go_simp; (try with_reducible rfl))
      (try simp only [Act.put, List.setIfInBounds_toArray, List.set_cons_zero, List.set_cons_succ])
      refine wpAnyH_ready (rs := [3]) (by kernel_rfl) (by simp) ?_
      refine AllReadyH.cons (o := { dst := Option.some 35, op := Go.Op.call { callee := Go.Callee.value (Go.Operand.func 29), args := #[Go.Operand.tmp 33, Go.Operand.tmp 34], argTypes := #[25, 47] }, type := 25, pos := "laws.go:178", after := #[{ on := 1, ground := Go.Ground.data }, { on := 2, ground := Go.Ground.data }], guard := Option.none }) rfl (fun K hK => ?s5) ?m5
      case s5 =>
        (go_simp; (go_at_call 29; refine (specVmapCut_m (H_29.out.below hbq) c lo hi HLO.out HHI.out).mono ?_; rintro e v ⟨aA, csA, cA, hkA, rfl, hmA, hb⟩; have hbq := hbq.trans (hb.mono hbq.size); have qq := And.intro ((hbq.cell (p := ⟨w2.heap.size, 0, none⟩) s_22).trans c_21) (And.intro ((hbq.cell (p := ⟨w1.heap.size, 0, none⟩) s_25).trans c_24) (And.intro ((hbq.cell (p := ⟨w1.heap.size + 1, 0, none⟩) s_28).trans c_26) ((hbq.cell (p := ⟨w1.heap.size + 1, 1, none⟩) s_28).trans c_27))); clear hb; have HA := Lib.hid hmA; have HKA := Lib.hid hkA; clear hmA hkA); (try go_wp2_with fail))
        refine hK.out _ _ ?h5 (fun hH5 => ?g5)
        case h5 => ((try dsimp only); (first | with_reducible exact qq | exact qq))
        clear hK K hH0
        (try simp only [Act.put, List.setIfInBounds_toArray, List.set_cons_zero, List.set_cons_succ])
        refine wpAnyH_ready (rs := [4]) (by kernel_rfl) (by simp) ?_
        refine AllReadyH.cons (o := { dst := Option.some 36, op := Go.Op.call { callee := Go.Callee.value (Go.Operand.func 18), args := #[Go.Operand.tmp 32, Go.Operand.tmp 35], argTypes := #[25, 25] }, type := 4, pos := "laws.go:178", after := #[{ on := 0, ground := Go.Ground.data }, { on := 3, ground := Go.Ground.data }, { on := 3, ground := Go.Ground.chain }], guard := Option.none }) rfl (fun K hK => ?s7) ?m7
        case s7 =>
          (go_simp; (go_at_call 18; refine (caMap_m (H_31.out.below hbq) HA.out (HKX.out.trans HKA.out.symm) _ _).mono ?_; rintro e v ⟨rfl, hb⟩; have hbq := hbq.trans (hb.mono hbq.size); have qq := And.intro ((hbq.cell (p := ⟨w2.heap.size, 0, none⟩) s_22).trans c_21) (And.intro ((hbq.cell (p := ⟨w1.heap.size, 0, none⟩) s_25).trans c_24) (And.intro ((hbq.cell (p := ⟨w1.heap.size + 1, 0, none⟩) s_28).trans c_26) ((hbq.cell (p := ⟨w1.heap.size + 1, 1, none⟩) s_28).trans c_27))); clear hb); (try go_wp2_with fail))
          refine hK.out _ _ ?h7 (fun hH7 => ?g7)
          case h7 => ((try dsimp only); (first | with_reducible exact qq | exact qq))
          clear hK K hH5
          (try simp only [Act.put, List.setIfInBounds_toArray, List.set_cons_zero, List.set_cons_succ])
          refine wpAnyH_take (i := 5) (oi := { dst := Option.some 37, op := Go.Op.unOp Go.UnOp.not 4 (Go.Operand.tmp 36), type := 4, pos := "laws.go:178", after := #[{ on := 4, ground := Go.Ground.data }], guard := Option.none }) (v := ?v8) rfl (by kernel_rfl) (by kernel_rfl) (by kernel_rfl) (fun _ _ _ h => h) (Or.inl ⟨by rfl, ?y8⟩) hH7 ?r8
          case y8 => (intro w hSw; (try dsimp only at hSw); go_simp; (try with_reducible rfl))
          (try simp only [Act.put, List.setIfInBounds_toArray, List.set_cons_zero, List.set_cons_succ])
          refine wpAnyH_take (i := 6) (oi := { dst := Option.some 38, op := Go.Op.move (Go.Operand.tmp 37), type := 4, pos := "laws.go:178", after := #[{ on := 5, ground := Go.Ground.data }, { on := 4, ground := Go.Ground.chain }], guard := Option.none }) (v := ?v9) rfl (by kernel_rfl) (by kernel_rfl) (by kernel_rfl) (fun _ _ _ h => h) (Or.inl ⟨by rfl, ?y9⟩) hH7 ?r9
          case y9 => (intro w hSw; (try dsimp only at hSw); go_simp; (try with_reducible rfl))
          (try simp only [Act.put, List.setIfInBounds_toArray, List.set_cons_zero, List.set_cons_succ])
          refine wpAnyH_take (i := 7) (oi := { dst := Option.some 39, op := Go.Op.load 25 (Go.Operand.tmp 5), type := 25, pos := "laws.go:178", after := #[{ on := 6, ground := Go.Ground.guard }], guard := Option.some (6, Bool.false) }) (v := ?v10) rfl (by kernel_rfl) (by kernel_rfl) (by kernel_rfl) (fun _ _ _ h => h) (Or.inl ⟨by rfl, ?y10⟩) hH7 ?r10
          case y10 => (intro w hSw; (try dsimp only at hSw); go_simp; (try with_reducible rfl))
          (try simp only [Act.put, List.setIfInBounds_toArray, List.set_cons_zero, List.set_cons_succ])
          refine wpAnyH_ready (rs := [8]) (by kernel_rfl) (by simp) ?_
          refine AllReadyH.cons (o := { dst := Option.some 40, op := Go.Op.call { callee := Go.Callee.value (Go.Operand.func 19), args := #[Go.Operand.tmp 39], argTypes := #[25] }, type := 4, pos := "laws.go:178", after := #[{ on := 7, ground := Go.Ground.data }, { on := 6, ground := Go.Ground.chain }, { on := 6, ground := Go.Ground.guard }], guard := Option.some (6, Bool.false) }) rfl (fun K hK => ?s12) ?m12
          case s12 =>
            (go_simp; (go_at_call 19; refine (vmapOk_is HOK.out (H_29.out.below hbq) c).mono ?_; rintro e v ⟨rfl, hb⟩; have hbq := hbq.trans (hb.mono hbq.size); have qq := And.intro ((hbq.cell (p := ⟨w2.heap.size, 0, none⟩) s_22).trans c_21) (And.intro ((hbq.cell (p := ⟨w1.heap.size, 0, none⟩) s_25).trans c_24) (And.intro ((hbq.cell (p := ⟨w1.heap.size + 1, 0, none⟩) s_28).trans c_26) ((hbq.cell (p := ⟨w1.heap.size + 1, 1, none⟩) s_28).trans c_27))); clear hb); (try go_wp2_with fail))
            refine hK.out _ _ ?h12 (fun hH12 => ?g12)
            case h12 => ((try dsimp only); (first | with_reducible exact qq | exact qq))
            clear hK K hH7
            (try simp only [Act.put, List.setIfInBounds_toArray, List.set_cons_zero, List.set_cons_succ])
            refine wpAnyH_take (i := 9) (oi := { dst := Option.some 41, op := Go.Op.unOp Go.UnOp.not 4 (Go.Operand.tmp 40), type := 4, pos := "laws.go:178", after := #[{ on := 8, ground := Go.Ground.data }, { on := 6, ground := Go.Ground.guard }], guard := Option.some (6, Bool.false) }) (v := ?v13) rfl (by kernel_rfl) (by kernel_rfl) (by kernel_rfl) (fun _ _ _ h => h) (Or.inl ⟨by rfl, ?y13⟩) hH12 ?r13
            case y13 => (intro w hSw; (try dsimp only at hSw); go_simp; (try with_reducible rfl))
            (try simp only [Act.put, List.setIfInBounds_toArray, List.set_cons_zero, List.set_cons_succ])
            refine wpAnyH_take (i := 10) (oi := { dst := Option.some 42, op := Go.Op.pick (Go.Operand.tmp 38) (Go.Operand.const (Go.Value.bool Bool.true)) (Go.Operand.tmp 41), type := 4, pos := "laws.go:178", after := #[{ on := 6, ground := Go.Ground.data }, { on := 9, ground := Go.Ground.data }], guard := Option.none }) (v := ?v14) rfl (by kernel_rfl) (by kernel_rfl) (by kernel_rfl) (fun _ _ _ h => h) (Or.inl ⟨by rfl, ?y14⟩) hH12 ?r14
            case y14 => (intro w hSw; (try dsimp only at hSw); go_simp; (try with_reducible rfl))
            (try simp only [Act.put, List.setIfInBounds_toArray, List.set_cons_zero, List.set_cons_succ])
            refine wpAnyH_take (i := 11) (oi := { dst := Option.some 43, op := Go.Op.move (Go.Operand.tmp 42), type := 4, pos := "laws.go:178", after := #[{ on := 10, ground := Go.Ground.data }, { on := 8, ground := Go.Ground.chain }], guard := Option.none }) (v := ?v15) rfl (by kernel_rfl) (by kernel_rfl) (by kernel_rfl) (fun _ _ _ h => h) (Or.inl ⟨by rfl, ?y15⟩) hH12 ?r15
            case y15 => (intro w hSw; (try dsimp only at hSw); go_simp; (try with_reducible rfl))
            (try simp only [Act.put, List.setIfInBounds_toArray, List.set_cons_zero, List.set_cons_succ])
            refine wpAnyH_ready (rs := [12]) (by kernel_rfl) (by simp) ?_
            refine AllReadyH.cons (o := { dst := Option.some 44, op := Go.Op.load 47 (Go.Operand.tmp 6), type := 47, pos := "laws.go:178", after := #[{ on := 11, ground := Go.Ground.guard }], guard := Option.some (11, Bool.false) }) rfl (fun K hK => ?s17) ?m17
            case s17 =>
              go_simp
              refine hK.out _ _ ?h17 (fun hH17 => ?g17)
              case h17 => ((try dsimp only); (first | with_reducible exact qq | exact qq))
              clear hK K hH12
              (try simp only [Act.put, List.setIfInBounds_toArray, List.set_cons_zero, List.set_cons_succ])
              refine wpAnyH_ready (rs := [13]) (by kernel_rfl) (by simp) ?_
              refine AllReadyH.cons (o := { dst := Option.some 45, op := Go.Op.call { callee := Go.Callee.value (Go.Operand.func 30), args := #[Go.Operand.tmp 44], argTypes := #[47] }, type := 4, pos := "laws.go:178", after := #[{ on := 12, ground := Go.Ground.data }, { on := 11, ground := Go.Ground.chain }, { on := 11, ground := Go.Ground.guard }], guard := Option.some (11, Bool.false) }) rfl (fun K hK => ?s19) ?m19
              case s19 =>
                go_simp
                refine hK.out _ _ ?h19 (fun hH19 => ?g19)
                case h19 => ((try dsimp only); (first | with_reducible exact qq | exact qq))
                clear hK K hH17
                (try simp only [Act.put, List.setIfInBounds_toArray, List.set_cons_zero, List.set_cons_succ])
                refine wpAnyH_ready (rs := [14]) (by kernel_rfl) (by simp) ?_
                refine AllReadyH.cons (o := { dst := Option.some 46, op := Go.Op.unOp Go.UnOp.not 4 (Go.Operand.tmp 45), type := 4, pos := "laws.go:178", after := #[{ on := 13, ground := Go.Ground.data }, { on := 11, ground := Go.Ground.guard }], guard := Option.some (11, Bool.false) }) rfl (fun K hK => ?s21) ?m21
                case s21 =>
                  go_simp
                  refine hK.out _ _ ?h21 (fun hH21 => ?g21)
                  case h21 => ((try dsimp only); (first | with_reducible exact qq | exact qq))
                  clear hK K hH19
                  (try simp only [Act.put, List.setIfInBounds_toArray, List.set_cons_zero, List.set_cons_succ])
                  refine wpAnyH_take (i := 15) (oi := { dst := Option.some 47, op := Go.Op.pick (Go.Operand.tmp 43) (Go.Operand.const (Go.Value.bool Bool.true)) (Go.Operand.tmp 46), type := 4, pos := "laws.go:178", after := #[{ on := 11, ground := Go.Ground.data }, { on := 14, ground := Go.Ground.data }], guard := Option.none }) (v := ?v22) rfl (by kernel_rfl) (by kernel_rfl) (by kernel_rfl) (fun _ _ _ h => h) (Or.inl ⟨by rfl, ?y22⟩) hH21 ?r22
                  case y22 => (intro w hSw; (try dsimp only at hSw); go_simp; (try with_reducible rfl))
                  (try simp only [Act.put, List.setIfInBounds_toArray, List.set_cons_zero, List.set_cons_succ])
                  refine wpAnyH_done (by kernel_rfl) ?_ _
                  clear hH21
                  go_wp2_with fail
                  go_meet
                  exact ⟨rfl, hbq⟩
                exact AllReadyH.nil
              exact AllReadyH.nil
            exact AllReadyH.nil
          exact AllReadyH.nil
        exact AllReadyH.nil
      exact AllReadyH.nil
    case rest =>
      obtain ⟨rfl, hb⟩ := hcut
      obtain ⟨w3, rfl⟩ : ∃ x, x = wc := ⟨_, rfl⟩
      have c_1033 := (hb.cell (p := ⟨w1.heap.size, 0, none⟩) s_25).trans c_24
      have s_1034 : w1.heap.size < w3.heap.size := Nat.lt_of_lt_of_le s_25 hb.size
      have c_1035 := (hb.cell (p := ⟨w1.heap.size + 1, 0, none⟩) s_28).trans c_26
      have c_1036 := (hb.cell (p := ⟨w1.heap.size + 1, 1, none⟩) s_28).trans c_27
      have s_1037 : w1.heap.size + 1 < w3.heap.size := Nat.lt_of_lt_of_le s_28 hb.size
      have c_1038 := (hb.cell (p := ⟨w2.heap.size, 0, none⟩) s_22).trans c_21
      have s_1039 : w2.heap.size < w3.heap.size := Nat.lt_of_lt_of_le s_22 hb.size
      have H_1040 := Lib.hid (H_29.out.below hb)
      have H_1041 := Lib.hid (H_30.out.below hb)
      have H_1042 := Lib.hid (H_31.out.below hb)
      have HB := Lib.hid (HB.out.trans (hb.mono HB.out.size))
      have o_1043 : V_20.heap.size ≤ w3.heap.size := hb.size
      clear c_24 s_25 c_26 c_27 s_28 c_21 s_22
      clear hb
      go_wp2_with fail
      have hbq : Below w3.heap.size w3 w3.drew := (Below.refl _ _).drew
      have qq := And.intro (c_1038) (And.intro (c_1033) (And.intro (c_1035) (c_1036)))
      go_region_held3 (fun u => u.cell? ⟨w2.heap.size, 0, none⟩ = some (.slice ax xs.length cx) ∧ u.cell? ⟨w1.heap.size, 0, none⟩ = some (.slice am os.length c) ∧ u.cell? ⟨w1.heap.size + 1, 0, none⟩ = some (.string lo) ∧ u.cell? ⟨w1.heap.size + 1, 1, none⟩ = some (.string hi))
        (first | with_reducible exact qq | exact qq | fail)
        (first
          | (go_at_call 29; (with_reducible refine (specVmapCut_m (H_1040.out.below hbq) c lo hi HLO.out HHI.out).mono ?_); rintro e v ⟨aA, csA, cA, hkA, rfl, hmA, hb⟩; have hbq := hbq.trans (hb.mono hbq.size); have qq := And.intro ((hbq.cell (p := ⟨w2.heap.size, 0, none⟩) s_1039).trans c_1038) (And.intro ((hbq.cell (p := ⟨w1.heap.size, 0, none⟩) s_1034).trans c_1033) (And.intro ((hbq.cell (p := ⟨w1.heap.size + 1, 0, none⟩) s_1037).trans c_1035) ((hbq.cell (p := ⟨w1.heap.size + 1, 1, none⟩) s_1037).trans c_1036))); clear hb; have HA := Lib.hid hmA; have HKA := Lib.hid hkA; clear hmA hkA)
          | (go_at_call 18; (with_reducible refine (caMap_m (H_1042.out.below hbq) HA.out (HKX.out.trans HKA.out.symm) _ _).mono ?_); rintro e v ⟨rfl, hb⟩; have hbq := hbq.trans (hb.mono hbq.size); have qq := And.intro ((hbq.cell (p := ⟨w2.heap.size, 0, none⟩) s_1039).trans c_1038) (And.intro ((hbq.cell (p := ⟨w1.heap.size, 0, none⟩) s_1034).trans c_1033) (And.intro ((hbq.cell (p := ⟨w1.heap.size + 1, 0, none⟩) s_1037).trans c_1035) ((hbq.cell (p := ⟨w1.heap.size + 1, 1, none⟩) s_1037).trans c_1036))); clear hb)
          | fail)
      all_goals
        go_wp2_with fail
        go_ret
        exact ⟨rfl, HB.out.trans (hbq.mono HB.out.size)⟩
  cases sok
  · skip
    go_cut [47] from 48 (fun t u => t = .bool true ∧ Below V_20.heap.size V_20 u)
    case first =>
      have hbq : Below V_20.heap.size V_20 V_20.drew := (Below.refl _ _).drew
      have qq := And.intro (c_21) (And.intro (c_24) (And.intro (c_26) (c_27)))
      go_region_held3 (fun u => u.cell? ⟨w2.heap.size, 0, none⟩ = some (.slice ax xs.length cx) ∧ u.cell? ⟨w1.heap.size, 0, none⟩ = some (.slice am os.length c) ∧ u.cell? ⟨w1.heap.size + 1, 0, none⟩ = some (.string lo) ∧ u.cell? ⟨w1.heap.size + 1, 1, none⟩ = some (.string hi))
        (first | with_reducible exact qq | exact qq | fail)
        (first
          | (go_at_call 29; (with_reducible refine (specVmapCut_m (H_29.out.below hbq) c lo hi HLO.out HHI.out).mono ?_); rintro e v ⟨aA, csA, cA, hkA, rfl, hmA, hb⟩; have hbq := hbq.trans (hb.mono hbq.size); have qq := And.intro ((hbq.cell (p := ⟨w2.heap.size, 0, none⟩) s_22).trans c_21) (And.intro ((hbq.cell (p := ⟨w1.heap.size, 0, none⟩) s_25).trans c_24) (And.intro ((hbq.cell (p := ⟨w1.heap.size + 1, 0, none⟩) s_28).trans c_26) ((hbq.cell (p := ⟨w1.heap.size + 1, 1, none⟩) s_28).trans c_27))); clear hb; have HA := Lib.hid hmA; have HKA := Lib.hid hkA; clear hmA hkA)
          | (go_at_call 18; (with_reducible refine (caMap_m (H_31.out.below hbq) HA.out (HKX.out.trans HKA.out.symm) _ _).mono ?_); rintro e v ⟨rfl, hb⟩; have hbq := hbq.trans (hb.mono hbq.size); have qq := And.intro ((hbq.cell (p := ⟨w2.heap.size, 0, none⟩) s_22).trans c_21) (And.intro ((hbq.cell (p := ⟨w1.heap.size, 0, none⟩) s_25).trans c_24) (And.intro ((hbq.cell (p := ⟨w1.heap.size + 1, 0, none⟩) s_28).trans c_26) ((hbq.cell (p := ⟨w1.heap.size + 1, 1, none⟩) s_28).trans c_27))); clear hb)
          | (go_at_call 19; (with_reducible refine (vmapOk_is HOK.out (H_29.out.below hbq) c).mono ?_); rintro e v ⟨rfl, hb⟩; have hbq := hbq.trans (hb.mono hbq.size); have qq := And.intro ((hbq.cell (p := ⟨w2.heap.size, 0, none⟩) s_22).trans c_21) (And.intro ((hbq.cell (p := ⟨w1.heap.size, 0, none⟩) s_25).trans c_24) (And.intro ((hbq.cell (p := ⟨w1.heap.size + 1, 0, none⟩) s_28).trans c_26) ((hbq.cell (p := ⟨w1.heap.size + 1, 1, none⟩) s_28).trans c_27))); clear hb)
          | (go_at_call 30; (with_reducible refine (spanOk_is HSOK.out HLO.out HHI.out _).mono ?_); rintro e v ⟨rfl, hb⟩; have hbq := hbq.trans (hb.mono hbq.size); have qq := And.intro ((hbq.cell (p := ⟨w2.heap.size, 0, none⟩) s_22).trans c_21) (And.intro ((hbq.cell (p := ⟨w1.heap.size, 0, none⟩) s_25).trans c_24) (And.intro ((hbq.cell (p := ⟨w1.heap.size + 1, 0, none⟩) s_28).trans c_26) ((hbq.cell (p := ⟨w1.heap.size + 1, 1, none⟩) s_28).trans c_27))); clear hb)
          | fail)
      all_goals
        go_wp2_with fail
        go_meet
        exact ⟨rfl, hbq⟩
    case rest =>
      obtain ⟨rfl, hb⟩ := hcut
      obtain ⟨w3, rfl⟩ : ∃ x, x = wc := ⟨_, rfl⟩
      have c_1033 := (hb.cell (p := ⟨w1.heap.size, 0, none⟩) s_25).trans c_24
      have s_1034 : w1.heap.size < w3.heap.size := Nat.lt_of_lt_of_le s_25 hb.size
      have c_1035 := (hb.cell (p := ⟨w1.heap.size + 1, 0, none⟩) s_28).trans c_26
      have c_1036 := (hb.cell (p := ⟨w1.heap.size + 1, 1, none⟩) s_28).trans c_27
      have s_1037 : w1.heap.size + 1 < w3.heap.size := Nat.lt_of_lt_of_le s_28 hb.size
      have c_1038 := (hb.cell (p := ⟨w2.heap.size, 0, none⟩) s_22).trans c_21
      have s_1039 : w2.heap.size < w3.heap.size := Nat.lt_of_lt_of_le s_22 hb.size
      have H_1040 := Lib.hid (H_29.out.below hb)
      have H_1041 := Lib.hid (H_30.out.below hb)
      have H_1042 := Lib.hid (H_31.out.below hb)
      have HB := Lib.hid (HB.out.trans (hb.mono HB.out.size))
      have o_1043 : V_20.heap.size ≤ w3.heap.size := hb.size
      clear c_24 s_25 c_26 c_27 s_28 c_21 s_22
      clear hb
      go_wp2_with fail
      have hbq : Below w3.heap.size w3 w3.drew := (Below.refl _ _).drew
      have qq := And.intro (c_1038) (And.intro (c_1033) (And.intro (c_1035) (c_1036)))
      go_region_held3 (fun u => u.cell? ⟨w2.heap.size, 0, none⟩ = some (.slice ax xs.length cx) ∧ u.cell? ⟨w1.heap.size, 0, none⟩ = some (.slice am os.length c) ∧ u.cell? ⟨w1.heap.size + 1, 0, none⟩ = some (.string lo) ∧ u.cell? ⟨w1.heap.size + 1, 1, none⟩ = some (.string hi))
        (first | with_reducible exact qq | exact qq | fail)
        (first
          | (go_at_call 29; (with_reducible refine (specVmapCut_m (H_1040.out.below hbq) c lo hi HLO.out HHI.out).mono ?_); rintro e v ⟨aA, csA, cA, hkA, rfl, hmA, hb⟩; have hbq := hbq.trans (hb.mono hbq.size); have qq := And.intro ((hbq.cell (p := ⟨w2.heap.size, 0, none⟩) s_1039).trans c_1038) (And.intro ((hbq.cell (p := ⟨w1.heap.size, 0, none⟩) s_1034).trans c_1033) (And.intro ((hbq.cell (p := ⟨w1.heap.size + 1, 0, none⟩) s_1037).trans c_1035) ((hbq.cell (p := ⟨w1.heap.size + 1, 1, none⟩) s_1037).trans c_1036))); clear hb; have HA := Lib.hid hmA; have HKA := Lib.hid hkA; clear hmA hkA)
          | (go_at_call 18; (with_reducible refine (caMap_m (H_1042.out.below hbq) HA.out (HKX.out.trans HKA.out.symm) _ _).mono ?_); rintro e v ⟨rfl, hb⟩; have hbq := hbq.trans (hb.mono hbq.size); have qq := And.intro ((hbq.cell (p := ⟨w2.heap.size, 0, none⟩) s_1039).trans c_1038) (And.intro ((hbq.cell (p := ⟨w1.heap.size, 0, none⟩) s_1034).trans c_1033) (And.intro ((hbq.cell (p := ⟨w1.heap.size + 1, 0, none⟩) s_1037).trans c_1035) ((hbq.cell (p := ⟨w1.heap.size + 1, 1, none⟩) s_1037).trans c_1036))); clear hb)
          | fail)
      all_goals
        go_wp2_with fail
        go_ret
        exact ⟨rfl, HB.out.trans (hbq.mono HB.out.size)⟩
  · skip
    go_cut [47] from 48 (fun t u => t = .bool false ∧ Below V_20.heap.size V_20 u)
    case first =>
      have hbq : Below V_20.heap.size V_20 V_20.drew := (Below.refl _ _).drew
      have qq := And.intro (c_21) (And.intro (c_24) (And.intro (c_26) (c_27)))
      go_region_held3 (fun u => u.cell? ⟨w2.heap.size, 0, none⟩ = some (.slice ax xs.length cx) ∧ u.cell? ⟨w1.heap.size, 0, none⟩ = some (.slice am os.length c) ∧ u.cell? ⟨w1.heap.size + 1, 0, none⟩ = some (.string lo) ∧ u.cell? ⟨w1.heap.size + 1, 1, none⟩ = some (.string hi))
        (first | with_reducible exact qq | exact qq | fail)
        (first
          | (go_at_call 29; (with_reducible refine (specVmapCut_m (H_29.out.below hbq) c lo hi HLO.out HHI.out).mono ?_); rintro e v ⟨aA, csA, cA, hkA, rfl, hmA, hb⟩; have hbq := hbq.trans (hb.mono hbq.size); have qq := And.intro ((hbq.cell (p := ⟨w2.heap.size, 0, none⟩) s_22).trans c_21) (And.intro ((hbq.cell (p := ⟨w1.heap.size, 0, none⟩) s_25).trans c_24) (And.intro ((hbq.cell (p := ⟨w1.heap.size + 1, 0, none⟩) s_28).trans c_26) ((hbq.cell (p := ⟨w1.heap.size + 1, 1, none⟩) s_28).trans c_27))); clear hb; have HA := Lib.hid hmA; have HKA := Lib.hid hkA; clear hmA hkA)
          | (go_at_call 18; (with_reducible refine (caMap_m (H_31.out.below hbq) HA.out (HKX.out.trans HKA.out.symm) _ _).mono ?_); rintro e v ⟨rfl, hb⟩; have hbq := hbq.trans (hb.mono hbq.size); have qq := And.intro ((hbq.cell (p := ⟨w2.heap.size, 0, none⟩) s_22).trans c_21) (And.intro ((hbq.cell (p := ⟨w1.heap.size, 0, none⟩) s_25).trans c_24) (And.intro ((hbq.cell (p := ⟨w1.heap.size + 1, 0, none⟩) s_28).trans c_26) ((hbq.cell (p := ⟨w1.heap.size + 1, 1, none⟩) s_28).trans c_27))); clear hb)
          | (go_at_call 19; (with_reducible refine (vmapOk_is HOK.out (H_29.out.below hbq) c).mono ?_); rintro e v ⟨rfl, hb⟩; have hbq := hbq.trans (hb.mono hbq.size); have qq := And.intro ((hbq.cell (p := ⟨w2.heap.size, 0, none⟩) s_22).trans c_21) (And.intro ((hbq.cell (p := ⟨w1.heap.size, 0, none⟩) s_25).trans c_24) (And.intro ((hbq.cell (p := ⟨w1.heap.size + 1, 0, none⟩) s_28).trans c_26) ((hbq.cell (p := ⟨w1.heap.size + 1, 1, none⟩) s_28).trans c_27))); clear hb)
          | (go_at_call 30; (with_reducible refine (spanOk_is HSOK.out HLO.out HHI.out _).mono ?_); rintro e v ⟨rfl, hb⟩; have hbq := hbq.trans (hb.mono hbq.size); have qq := And.intro ((hbq.cell (p := ⟨w2.heap.size, 0, none⟩) s_22).trans c_21) (And.intro ((hbq.cell (p := ⟨w1.heap.size, 0, none⟩) s_25).trans c_24) (And.intro ((hbq.cell (p := ⟨w1.heap.size + 1, 0, none⟩) s_28).trans c_26) ((hbq.cell (p := ⟨w1.heap.size + 1, 1, none⟩) s_28).trans c_27))); clear hb)
          | fail)
      all_goals
        go_wp2_with fail
        go_meet
        exact ⟨rfl, hbq⟩
    case rest =>
      obtain ⟨rfl, hb⟩ := hcut
      obtain ⟨w3, rfl⟩ : ∃ x, x = wc := ⟨_, rfl⟩
      have c_1033 := (hb.cell (p := ⟨w1.heap.size, 0, none⟩) s_25).trans c_24
      have s_1034 : w1.heap.size < w3.heap.size := Nat.lt_of_lt_of_le s_25 hb.size
      have c_1035 := (hb.cell (p := ⟨w1.heap.size + 1, 0, none⟩) s_28).trans c_26
      have c_1036 := (hb.cell (p := ⟨w1.heap.size + 1, 1, none⟩) s_28).trans c_27
      have s_1037 : w1.heap.size + 1 < w3.heap.size := Nat.lt_of_lt_of_le s_28 hb.size
      have c_1038 := (hb.cell (p := ⟨w2.heap.size, 0, none⟩) s_22).trans c_21
      have s_1039 : w2.heap.size < w3.heap.size := Nat.lt_of_lt_of_le s_22 hb.size
      have H_1040 := Lib.hid (H_29.out.below hb)
      have H_1041 := Lib.hid (H_30.out.below hb)
      have H_1042 := Lib.hid (H_31.out.below hb)
      have HB := Lib.hid (HB.out.trans (hb.mono HB.out.size))
      have o_1043 : V_20.heap.size ≤ w3.heap.size := hb.size
      clear c_24 s_25 c_26 c_27 s_28 c_21 s_22
      clear hb
      go_wp2_with fail
      have HKO := Lib.hid ((mapOk_kv os).1 (HOK.out.1 rfl))
      have hxl := H_1042.out.len
      have HXK := Lib.hid (show KvOk (xs.map ObjD.kv) by rw [HKX.out]; exact cutF_ok HKO.out)
      go_loopw [8] (fun i wr => ∃ t : Nat, t ≤ xs.length ∧ i = .int .i64 t ∧ Below w3.heap.size w3 wr) (fun i _ => xs.length - (intOf i).toNat)
      case atStart => exact ⟨0, Nat.zero_le _, rfl, Below.refl _ _⟩
      case round =>
        obtain ⟨t, ht, rfl, hb⟩ := hrel
        obtain ⟨V4, rfl⟩ : ∃ V, V = wr := ⟨_, rfl⟩
        have HBV := Lib.hid hb
        have c_1044 := (hb.cell (p := ⟨w1.heap.size, 0, none⟩) s_1034).trans c_1033
        have s_1045 : w1.heap.size < V4.heap.size := Nat.lt_of_lt_of_le s_1034 hb.size
        have c_1046 := (hb.cell (p := ⟨w1.heap.size + 1, 0, none⟩) s_1037).trans c_1035
        have c_1047 := (hb.cell (p := ⟨w1.heap.size + 1, 1, none⟩) s_1037).trans c_1036
        have s_1048 : w1.heap.size + 1 < V4.heap.size := Nat.lt_of_lt_of_le s_1037 hb.size
        have c_1049 := (hb.cell (p := ⟨w2.heap.size, 0, none⟩) s_1039).trans c_1038
        have s_1050 : w2.heap.size < V4.heap.size := Nat.lt_of_lt_of_le s_1039 hb.size
        have H_1051 := Lib.hid (H_1040.out.below hb)
        have H_1052 := Lib.hid (H_1041.out.below hb)
        have H_1053 := Lib.hid (H_1042.out.below hb)
        have HB := Lib.hid (HB.out.trans (hb.mono HB.out.size))
        have o_1054 : w3.heap.size ≤ V4.heap.size := hb.size
        clear c_1033 s_1034 c_1035 c_1036 s_1037 c_1038 s_1039
        clear hb
        by_cases hlt : t < xs.length
        · skip
          have hmem := List.getElem_mem hlt
          rcases H_1053.out.inn with hnil | ⟨bb, oo, rfl, hbb, hcc⟩
          · rw [hnil] at hlt; simp at hlt
          obtain ⟨d0, -, -⟩ := hcc t hlt
          have hkv : xs[t].kv ∈ xs.map ObjD.kv := List.mem_map_of_mem hmem
          have hkz : xs[t].key.size ≤ maxLen := (H_1053.out.fits _ hmem).1
          have hsh : spanHasB lo hi xs[t].key = true := cut_has HKX.out HXK.out HKO.out HSOK.out hkv
          obtain ⟨ky, hky⟩ : ∃ s, xs[t].key = s := ⟨_, rfl⟩
          rw [hky] at d0 hkz hsh
          have HKZ := Lib.hid hkz
          have HSH := Lib.hid hsh
          clear hcc hmem hkv hkz hsh hky
          have i1 : (0 : Int) ≤ (t : Int) := by omega
          have i2 : (t : Int) < (xs.length : Int) := by omega
          go_wp2_with fail
          have hbq : Below V4.heap.size V4 V4.drew := (Below.refl _ _).drew
          have qq := And.intro c_1046 (And.intro c_1047 (And.intro c_1049 d0))
          go_region_held3 (fun u => u.cell? ⟨w1.heap.size + 1, 0, none⟩ = some (.string lo) ∧ u.cell? ⟨w1.heap.size + 1, 1, none⟩ = some (.string hi) ∧ u.cell? ⟨w2.heap.size, 0, none⟩ = some (.slice (some ⟨bb, oo, none⟩) xs.length cx) ∧ u.cell? ⟨bb, oo + t * 2, none⟩ = some (.string ky))
            (first | with_reducible exact qq | exact qq | fail)
            (first
              | (go_at_call 31; refine (has_is HSH.out HLO.out HHI.out HKZ.out _).mono ?_; rintro e v ⟨rfl, hb⟩; have hbq := hbq.trans (hb.mono hbq.size); have qq := And.intro ((hbq.cell (p := ⟨w1.heap.size + 1, 0, none⟩) s_1048).trans c_1046) (And.intro ((hbq.cell (p := ⟨w1.heap.size + 1, 1, none⟩) s_1048).trans c_1047) (And.intro ((hbq.cell (p := ⟨w2.heap.size, 0, none⟩) s_1050).trans c_1049) ((hbq.cell (p := ⟨bb, oo + t * 2, none⟩) hbb).trans d0))); clear hb)
              | fail)
          all_goals
            have HBV2 := Lib.hid (HBV.out.trans (hbq.mono HBV.out.size))
            clear hbq qq
            go_wp2_with fail
            go_roundw
            case rel => exact ⟨t + 1, by omega, by go_num, HBV2.out⟩
            case measure => simp [intOf]; omega
        · skip
          go_wp2_with fail
          refine (drawSpanHas_any am2 len2 cap2 _ H_1052.out).mono ?_
          rintro e w4 ⟨sl, sh, key, hsl, hsh, hkey, rfl, hb⟩
          have HKY := Lib.hid hkey
          clear hkey hsl hsh
          have c_2055 := (hb.cell (p := ⟨w1.heap.size, 0, none⟩) s_1045).trans c_1044
          have s_2056 : w1.heap.size < w4.heap.size := Nat.lt_of_lt_of_le s_1045 hb.size
          have c_2057 := (hb.cell (p := ⟨w1.heap.size + 1, 0, none⟩) s_1048).trans c_1046
          have c_2058 := (hb.cell (p := ⟨w1.heap.size + 1, 1, none⟩) s_1048).trans c_1047
          have s_2059 : w1.heap.size + 1 < w4.heap.size := Nat.lt_of_lt_of_le s_1048 hb.size
          have c_2060 := (hb.cell (p := ⟨w2.heap.size, 0, none⟩) s_1050).trans c_1049
          have s_2061 : w2.heap.size < w4.heap.size := Nat.lt_of_lt_of_le s_1050 hb.size
          have H_2062 := Lib.hid (H_1051.out.below hb)
          have H_2063 := Lib.hid (H_1052.out.below hb)
          have H_2064 := Lib.hid (H_1053.out.below hb)
          have HB := Lib.hid (HB.out.trans (hb.mono HB.out.size))
          have o_2065 : V4.heap.size ≤ w4.heap.size := hb.size
          clear c_1044 s_1045 c_1046 c_1047 s_1048 c_1049 s_1050
          clear hb
          obtain ⟨V_2066, hV_2066⟩ : ∃ V_2066, w4.alloc (.cells #[.string sl, .string sh] 47) = V_2066 := ⟨_, rfl⟩
          have bV_2066 : Below w4.heap.size w4 V_2066 := by rw [← hV_2066]; exact (Below.refl _ _).alloc (Nat.le_refl _) _
          have c_2067 : V_2066.cell? ⟨w4.heap.size, 0, none⟩ = some (.string sl) := by rw [← hV_2066]; simp [go_sem]
          have c_2068 : V_2066.cell? ⟨w4.heap.size, 1, none⟩ = some (.string sh) := by rw [← hV_2066]; simp [go_sem]
          have s_2069 : w4.heap.size < V_2066.heap.size := by rw [← hV_2066]; simp
          have k_2070 : w4.heap.size < V_2066.heap.size := s_2069
          have c_2071 := (bV_2066.cell (p := ⟨w1.heap.size, 0, none⟩) s_2056).trans c_2055
          have s_2072 : w1.heap.size < V_2066.heap.size := Nat.lt_of_lt_of_le s_2056 bV_2066.size
          have c_2073 := (bV_2066.cell (p := ⟨w1.heap.size + 1, 0, none⟩) s_2059).trans c_2057
          have c_2074 := (bV_2066.cell (p := ⟨w1.heap.size + 1, 1, none⟩) s_2059).trans c_2058
          have s_2075 : w1.heap.size + 1 < V_2066.heap.size := Nat.lt_of_lt_of_le s_2059 bV_2066.size
          have c_2076 := (bV_2066.cell (p := ⟨w2.heap.size, 0, none⟩) s_2061).trans c_2060
          have s_2077 : w2.heap.size < V_2066.heap.size := Nat.lt_of_lt_of_le s_2061 bV_2066.size
          have H_2078 := Lib.hid (H_2062.out.below bV_2066)
          have H_2079 := Lib.hid (H_2064.out.below bV_2066)
          have HB := Lib.hid (HB.out.trans (bV_2066.mono HB.out.size))
          have o_2080 : w4.heap.size ≤ V_2066.heap.size := bV_2066.size
          clear c_2055 s_2056 c_2057 c_2058 s_2059 c_2060 s_2061
          clear bV_2066
          go_wp2_with fail
          clear hV_2066
          clear c_2067 c_2068 s_2069
          refine (spanCut_m lo hi key _ HLO.out HHI.out HKY.out).mono ?_
          rintro e w5 ⟨p1, p2, q1, q2, sok, hsok, hsp, hp1, hp2, hq1, hq2, rfl, hb⟩
          have HSOK2 := Lib.hid hsok
          have HSP := Lib.hid hsp
          have HP1 := Lib.hid hp1
          have HP2 := Lib.hid hp2
          have HQ1 := Lib.hid hq1
          have HQ2 := Lib.hid hq2
          clear hsok hsp hp1 hp2 hq1 hq2
          have c_2081 := (hb.cell (p := ⟨w1.heap.size, 0, none⟩) s_2072).trans c_2071
          have s_2082 : w1.heap.size < w5.heap.size := Nat.lt_of_lt_of_le s_2072 hb.size
          have c_2083 := (hb.cell (p := ⟨w1.heap.size + 1, 0, none⟩) s_2075).trans c_2073
          have c_2084 := (hb.cell (p := ⟨w1.heap.size + 1, 1, none⟩) s_2075).trans c_2074
          have s_2085 : w1.heap.size + 1 < w5.heap.size := Nat.lt_of_lt_of_le s_2075 hb.size
          have c_2086 := (hb.cell (p := ⟨w2.heap.size, 0, none⟩) s_2077).trans c_2076
          have s_2087 : w2.heap.size < w5.heap.size := Nat.lt_of_lt_of_le s_2077 hb.size
          have H_2088 := Lib.hid (H_2078.out.below hb)
          have H_2089 := Lib.hid (H_2079.out.below hb)
          have HB := Lib.hid (HB.out.trans (hb.mono HB.out.size))
          have o_2090 : V_2066.heap.size ≤ w5.heap.size := hb.size
          clear c_2071 s_2072 c_2073 c_2074 s_2075 c_2076 s_2077
          clear hb
          obtain ⟨V_2091, hV_2091⟩ : ∃ V_2091, (w5.alloc (.cells #[.string p1, .string p2] 47)).alloc (.cells #[.string q1, .string q2] 47) = V_2091 := ⟨_, rfl⟩
          have bV_2091 : Below w5.heap.size w5 V_2091 := by rw [← hV_2091]; exact ((Below.refl _ _).alloc (Nat.le_refl _) _).alloc (by simp) _
          have c_2092 : V_2091.cell? ⟨w5.heap.size, 0, none⟩ = some (.string p1) := by rw [← hV_2091]; simp [go_sem]
          have c_2093 : V_2091.cell? ⟨w5.heap.size, 1, none⟩ = some (.string p2) := by rw [← hV_2091]; simp [go_sem]
          have s_2094 : w5.heap.size < V_2091.heap.size := by rw [← hV_2091]; simp <;> omega
          have k_2095 : w5.heap.size < V_2091.heap.size := s_2094
          have c_2096 : V_2091.cell? ⟨w5.heap.size + 1, 0, none⟩ = some (.string q1) := by rw [← hV_2091]; simp [go_sem]
          have c_2097 : V_2091.cell? ⟨w5.heap.size + 1, 1, none⟩ = some (.string q2) := by rw [← hV_2091]; simp [go_sem]
          have s_2098 : w5.heap.size + 1 < V_2091.heap.size := by rw [← hV_2091]; simp
          have k_2099 : w5.heap.size + 1 < V_2091.heap.size := s_2098
          have c_2100 := (bV_2091.cell (p := ⟨w1.heap.size, 0, none⟩) s_2082).trans c_2081
          have s_2101 : w1.heap.size < V_2091.heap.size := Nat.lt_of_lt_of_le s_2082 bV_2091.size
          have c_2102 := (bV_2091.cell (p := ⟨w1.heap.size + 1, 0, none⟩) s_2085).trans c_2083
          have c_2103 := (bV_2091.cell (p := ⟨w1.heap.size + 1, 1, none⟩) s_2085).trans c_2084
          have s_2104 : w1.heap.size + 1 < V_2091.heap.size := Nat.lt_of_lt_of_le s_2085 bV_2091.size
          have c_2105 := (bV_2091.cell (p := ⟨w2.heap.size, 0, none⟩) s_2087).trans c_2086
          have s_2106 : w2.heap.size < V_2091.heap.size := Nat.lt_of_lt_of_le s_2087 bV_2091.size
          have H_2107 := Lib.hid (H_2088.out.below bV_2091)
          have H_2108 := Lib.hid (H_2089.out.below bV_2091)
          have HB := Lib.hid (HB.out.trans (bV_2091.mono HB.out.size))
          have o_2109 : w5.heap.size ≤ V_2091.heap.size := bV_2091.size
          clear c_2081 s_2082 c_2083 c_2084 s_2085 c_2086 s_2087
          clear bV_2091
          go_wp2_with fail
          clear hV_2091
          obtain ⟨jb, hjb⟩ : ∃ b, b = joinB (cutF p1 p2 (os.map ObjD.kv)) (cutF q1 q2 (os.map ObjD.kv)) := ⟨_, rfl⟩
          have HJB := Lib.hid hjb
          clear hjb
          obtain ⟨jk, hjk⟩ : ∃ b, b = joinF (cutF p1 p2 (os.map ObjD.kv)) (cutF q1 q2 (os.map ObjD.kv)) := ⟨_, rfl⟩
          have HJK := Lib.hid hjk
          clear hjk
          have HKF := Lib.hid (show kvFits jk by rw [HJK.out]; exact joinF_fits (cutF_fits H_2107.out.kvf) (cutF_fits H_2107.out.kvf))
          have HKL := Lib.hid (show jk.length ≤ 1000 by rw [HJK.out]; exact Nat.le_trans (joinF_len _ _) (cut2_len H_2107.out HDL.out))
          have HKV := Lib.hid (show ∀ p ∈ jk, p.2.length ≤ 1000 by rw [HJK.out]; exact joinF_vl (cutF_vl H_2107.out.kvv) (cutF_vl H_2107.out.kvv))
          go_cut [14, 15] from 81 (fun p t u => t = .bool jb ∧ NewMr V_2091 jk p u)
          case first =>
            have hS : ∀ u, KpB V_2091 u → (u.cell? ⟨w1.heap.size, 0, none⟩ = some (.slice am os.length c) ∧ u.cell? ⟨w5.heap.size, 0, none⟩ = some (.string p1) ∧ u.cell? ⟨w5.heap.size, 1, none⟩ = some (.string p2) ∧ u.cell? ⟨w5.heap.size + 1, 0, none⟩ = some (.string q1) ∧ u.cell? ⟨w5.heap.size + 1, 1, none⟩ = some (.string q2) ∧ KpB V_2091 u) := fun u h => And.intro ((h.cell (p := ⟨w1.heap.size, 0, none⟩) s_2101).trans c_2100) (And.intro ((h.cell (p := ⟨w5.heap.size, 0, none⟩) s_2094).trans c_2092) (And.intro ((h.cell (p := ⟨w5.heap.size, 1, none⟩) s_2094).trans c_2093) (And.intro ((h.cell (p := ⟨w5.heap.size + 1, 0, none⟩) s_2098).trans c_2096) (And.intro ((h.cell (p := ⟨w5.heap.size + 1, 1, none⟩) s_2098).trans c_2097) (h)))))
            have q : V_2091.cell? ⟨w1.heap.size, 0, none⟩ = some (.slice am os.length c) ∧ V_2091.cell? ⟨w5.heap.size, 0, none⟩ = some (.string p1) ∧ V_2091.cell? ⟨w5.heap.size, 1, none⟩ = some (.string p2) ∧ V_2091.cell? ⟨w5.heap.size + 1, 0, none⟩ = some (.string q1) ∧ V_2091.cell? ⟨w5.heap.size + 1, 1, none⟩ = some (.string q2) ∧ KpB V_2091 V_2091 := hS _ (KpB.refl _)
            go_region_held3 (fun u => u.cell? ⟨w1.heap.size, 0, none⟩ = some (.slice am os.length c) ∧ u.cell? ⟨w5.heap.size, 0, none⟩ = some (.string p1) ∧ u.cell? ⟨w5.heap.size, 1, none⟩ = some (.string p2) ∧ u.cell? ⟨w5.heap.size + 1, 0, none⟩ = some (.string q1) ∧ u.cell? ⟨w5.heap.size + 1, 1, none⟩ = some (.string q2) ∧ KpB V_2091 u)
              (first | with_reducible exact q | with_reducible exact hS _ (KpB.drewB (kpB5 q)) | with_reducible exact hS _ (KpB.allocB (kpB5 q)) | with_reducible exact hS _ (KpB.drewB (KpB.allocB (kpB5 q))) | with_reducible exact hS _ (KpB.setB (kpB5 q) (by omega)) | fail)
              (first
                | (go_at_call 28; (with_reducible refine (vmapCut_m (H_2107.out.below (KpB.b (kpB5 (by with_reducible assumption)))) c p1 p2 HP1.out HP2.out).mono ?_); rintro e wA ⟨aA, csA, cA, hkA, rfl, hat, hb⟩; have kk := KpB.go (kpB5 (by with_reducible assumption)) hb; have q := hS _ kk; (try ((first | with_reducible refine of_new1 hb ?_ | with_reducible refine of_new1D hb ?_ | with_reducible refine of_carry1 hb zn ?_); intro zn; have zn0 := zn.1; have zn1 := zn.2.1; have zn2 := zn.2.2)); have TA := Lib.hid hat; have EA := Lib.hid hkA; have szA := (KpB.b kk).size; clear hat hb hkA kk)
                | (go_at_call 28; (with_reducible refine (vmapCut_m (H_2107.out.below (KpB.b (kpB5 (by with_reducible assumption)))) c q1 q2 HQ1.out HQ2.out).mono ?_); rintro e wB ⟨aB, csB, cB, hkB, rfl, hat, hb⟩; have kk := KpB.go (kpB5 (by with_reducible assumption)) hb; have q := hS _ kk; (try ((first | with_reducible refine of_new1 hb ?_ | with_reducible refine of_new1D hb ?_ | with_reducible refine of_carry1 hb zn ?_); intro zn; have zn0 := zn.1; have zn1 := zn.2.1; have zn2 := zn.2.2)); (try (first | (have TA := Lib.hid (TA.out.below hb)) | (have TA := Lib.hid ((TA.out.below ((Below.refl _ _).alloc (Nat.le_refl _) _)).below hb)))); have TB := Lib.hid hat; have EB := Lib.hid hkB; have szB := (KpB.b kk).size; clear hat hb hkB kk)
                | (go_at_call 34; (try have zl := zn.2.2); (with_reducible refine (vmapJoin_k (by first | with_reducible exact TA.out | with_reducible exact (TA.out.below ((Below.refl _ _).alloc (Nat.le_refl _) _))) (by first | with_reducible exact TB.out | with_reducible exact (TB.out.below ((Below.refl _ _).alloc (Nat.le_refl _) _))) cA cB EA.out EB.out HJK.out HJB.out (cut2_len H_2107.out HDL.out)).mono ?_); rintro e wC ⟨aC, csC, cC, hkC, rfl, hat, hb⟩; have kk := KpB.go (kpB5 (by with_reducible assumption)) hb; have q := hS _ kk; (try ((first | with_reducible refine of_new1 hb ?_ | with_reducible refine of_new1D hb ?_ | with_reducible refine of_carry1 hb zn ?_); intro zn; have zn0 := zn.1; have zn1 := zn.2.1; have zn2 := zn.2.2)); have EC := Lib.hid hkC; have TC := Lib.hid hat; have szC := (KpB.b kk).size; clear hkC hat hb kk)
                | fail)
            all_goals (go_wp2_with fail; go_meet)
            all_goals
              first | exact ⟨rfl, newMr_A (kpB5 q) EC.out TC.out HKF.out HKL.out HKV.out⟩ | exact ⟨rfl, newMr_B (kpB5 q) EC.out TC.out HKF.out HKL.out HKV.out zn (by omega) (by first | omega | (simp; omega) | simp)⟩
          case rest =>
            obtain ⟨rfl, g, ag, gs, cg, rfl, hb, hg1, hg2, e0, hkv, hmr⟩ := hcut
            obtain ⟨w6, rfl⟩ : ∃ x, x = wc := ⟨_, rfl⟩
            have c_2110 := (hb.cell (p := ⟨w1.heap.size, 0, none⟩) s_2101).trans c_2100
            have s_2111 : w1.heap.size < w6.heap.size := Nat.lt_of_lt_of_le s_2101 hb.size
            have c_2112 := (hb.cell (p := ⟨w1.heap.size + 1, 0, none⟩) s_2104).trans c_2102
            have c_2113 := (hb.cell (p := ⟨w1.heap.size + 1, 1, none⟩) s_2104).trans c_2103
            have s_2114 : w1.heap.size + 1 < w6.heap.size := Nat.lt_of_lt_of_le s_2104 hb.size
            have c_2115 := (hb.cell (p := ⟨w2.heap.size, 0, none⟩) s_2106).trans c_2105
            have s_2116 : w2.heap.size < w6.heap.size := Nat.lt_of_lt_of_le s_2106 hb.size
            have c_2117 := (hb.cell (p := ⟨w5.heap.size, 0, none⟩) s_2094).trans c_2092
            have c_2118 := (hb.cell (p := ⟨w5.heap.size, 1, none⟩) s_2094).trans c_2093
            have s_2119 : w5.heap.size < w6.heap.size := Nat.lt_of_lt_of_le s_2094 hb.size
            have c_2120 := (hb.cell (p := ⟨w5.heap.size + 1, 0, none⟩) s_2098).trans c_2096
            have c_2121 := (hb.cell (p := ⟨w5.heap.size + 1, 1, none⟩) s_2098).trans c_2097
            have s_2122 : w5.heap.size + 1 < w6.heap.size := Nat.lt_of_lt_of_le s_2098 hb.size
            have H_2123 := Lib.hid (H_2107.out.below hb)
            have H_2124 := Lib.hid (H_2108.out.below hb)
            have HB := Lib.hid (HB.out.trans (hb.mono HB.out.size))
            have o_2125 : V_2091.heap.size ≤ w6.heap.size := hb.size
            clear c_2100 s_2101 c_2102 c_2103 s_2104 c_2105 s_2106 c_2092 c_2093 s_2094 c_2096 c_2097 s_2098
            have HG := Lib.hid hmr
            have HKG := Lib.hid hkv
            clear hb hkv hmr
            have HXO := Lib.hid (show MokIs true xs from ⟨fun _ => by rw [mapOk_kv]; exact HXK.out, fun _ => rfl⟩)
            have HXX := Lib.hid (show cutF lo hi (xs.map ObjD.kv) = xs.map ObjD.kv by rw [HKX.out]; exact cutF_cut HKO.out HSOK.out)
            have HAL := Lib.hid (show cutF ⟨#[]⟩ ⟨#[]⟩ (os.map ObjD.kv) = os.map ObjD.kv from cutF_all HKO.out)
            have hz0 : (⟨#[]⟩ : ByteArray).size ≤ maxLen := by unfold maxLen; exact Nat.zero_le _
            have HZ0 := Lib.hid hz0
            clear hz0
            cases sok
            · skip
              go_wp2_with fail
              have hbq : Below w6.heap.size w6 w6.drew := (Below.refl _ _).drew
              have qq := And.intro (c_2115) (And.intro (c_2112) (And.intro (c_2113) (c_2110)))
              refine wp_region_held_drew (S := (fun u => u.cell? ⟨w2.heap.size, 0, none⟩ = some (.slice ax xs.length cx) ∧ u.cell? ⟨w1.heap.size + 1, 0, none⟩ = some (.string lo) ∧ u.cell? ⟨w1.heap.size + 1, 1, none⟩ = some (.string hi) ∧ u.cell? ⟨w1.heap.size, 0, none⟩ = some (.slice am os.length c))) (by kernel_rfl) (by exact qq) (fun hH0 => ?_)
              refine wpAnyH_take (i := 0) (oi := { dst := Option.some 91, op := Go.Op.load 25 (Go.Operand.tmp 7), type := 25, pos := "laws.go:189", after := #[], guard := Option.none }) (v := ?v23) rfl (by kernel_rfl) (by kernel_rfl) (by kernel_rfl) (fun _ _ _ h => h) (Or.inl ⟨by rfl, ?y23⟩) hH0 ?r23
              case y23 => (intro w hSw; (try dsimp only at hSw); go_simp; (try with_reducible rfl))
              (try simp only [Act.put, List.setIfInBounds_toArray, List.set_cons_zero, List.set_cons_succ])
              refine wpAnyH_ready (rs := [1]) (by kernel_rfl) (by simp) ?_
              refine AllReadyH.cons (o := { dst := Option.some 92, op := Go.Op.call { callee := Go.Callee.value (Go.Operand.func 19), args := #[Go.Operand.tmp 91], argTypes := #[25] }, type := 4, pos := "laws.go:189", after := #[{ on := 0, ground := Go.Ground.data }], guard := Option.none }) rfl (fun K hK => ?s25) ?m25
              case s25 =>
                (go_simp; (go_at_call 19; refine (vmapOk_is HXO.out (H_2124.out.below hbq) cx).mono ?_; rintro e v ⟨rfl, hb⟩; have hbq := hbq.trans (hb.mono hbq.size); have qq := And.intro ((hbq.cell (p := ⟨w2.heap.size, 0, none⟩) s_2116).trans c_2115) (And.intro ((hbq.cell (p := ⟨w1.heap.size + 1, 0, none⟩) s_2114).trans c_2112) (And.intro ((hbq.cell (p := ⟨w1.heap.size + 1, 1, none⟩) s_2114).trans c_2113) ((hbq.cell (p := ⟨w1.heap.size, 0, none⟩) s_2111).trans c_2110))); clear hb); (try go_wp2_with fail))
                refine hK.out _ _ ?h25 (fun hH25 => ?g25)
                case h25 => ((try dsimp only); (first | with_reducible exact qq | exact qq))
                clear hK K hH0
                (try simp only [Act.put, List.setIfInBounds_toArray, List.set_cons_zero, List.set_cons_succ])
                refine wpAnyH_take (i := 2) (oi := { dst := Option.some 93, op := Go.Op.move (Go.Operand.tmp 92), type := 4, pos := "laws.go:189", after := #[{ on := 1, ground := Go.Ground.data }, { on := 1, ground := Go.Ground.chain }], guard := Option.none }) (v := ?v26) rfl (by kernel_rfl) (by kernel_rfl) (by kernel_rfl) (fun _ _ _ h => h) (Or.inl ⟨by rfl, ?y26⟩) hH25 ?r26
                case y26 => (intro w hSw; (try dsimp only at hSw); go_simp; (try with_reducible rfl))
                (try simp only [Act.put, List.setIfInBounds_toArray, List.set_cons_zero, List.set_cons_succ])
                refine wpAnyH_take (i := 3) (oi := { dst := Option.some 94, op := Go.Op.load 25 (Go.Operand.tmp 7), type := 25, pos := "laws.go:189", after := #[{ on := 2, ground := Go.Ground.guard }], guard := Option.some (2, Bool.true) }) (v := ?v27) rfl (by kernel_rfl) (by kernel_rfl) (by kernel_rfl) (fun _ _ _ h => h) (Or.inl ⟨by rfl, ?y27⟩) hH25 ?r27
                case y27 => (intro w hSw; (try dsimp only at hSw); go_simp; (try with_reducible rfl))
                (try simp only [Act.put, List.setIfInBounds_toArray, List.set_cons_zero, List.set_cons_succ])
                refine wpAnyH_take (i := 4) (oi := { dst := Option.some 95, op := Go.Op.load 47 (Go.Operand.tmp 6), type := 47, pos := "laws.go:189", after := #[{ on := 2, ground := Go.Ground.guard }], guard := Option.some (2, Bool.true) }) (v := ?v28) rfl (by kernel_rfl) (by kernel_rfl) (by kernel_rfl) (fun _ _ _ h => h) (Or.inl ⟨by rfl, ?y28⟩) hH25 ?r28
                case y28 => (intro w hSw; (try dsimp only at hSw); go_simp; (try with_reducible rfl))
                (try simp only [Act.put, List.setIfInBounds_toArray, List.set_cons_zero, List.set_cons_succ])
                refine wpAnyH_take (i := 6) (oi := { dst := Option.some 97, op := Go.Op.load 25 (Go.Operand.tmp 7), type := 25, pos := "laws.go:189", after := #[{ on := 2, ground := Go.Ground.guard }], guard := Option.some (2, Bool.true) }) (v := ?v29) rfl (by kernel_rfl) (by kernel_rfl) (by kernel_rfl) (fun _ _ _ h => h) (Or.inl ⟨by rfl, ?y29⟩) hH25 ?r29
                case y29 => (intro w hSw; (try dsimp only at hSw); go_simp; (try with_reducible rfl))
                (try simp only [Act.put, List.setIfInBounds_toArray, List.set_cons_zero, List.set_cons_succ])
                refine wpAnyH_ready (rs := [5]) (by kernel_rfl) (by simp) ?_
                refine AllReadyH.cons (o := { dst := Option.some 96, op := Go.Op.call { callee := Go.Callee.value (Go.Operand.func 28), args := #[Go.Operand.tmp 94, Go.Operand.tmp 95], argTypes := #[25, 47] }, type := 25, pos := "laws.go:189", after := #[{ on := 3, ground := Go.Ground.data }, { on := 4, ground := Go.Ground.data }, { on := 2, ground := Go.Ground.chain }, { on := 2, ground := Go.Ground.guard }], guard := Option.some (2, Bool.true) }) rfl (fun K hK => ?s31) ?m31
                case s31 =>
                  (go_simp; (go_at_call 28; refine (vmapCut_m (H_2124.out.below hbq) cx lo hi HLO.out HHI.out).mono ?_; rintro e v ⟨aA, csA, cA, hkA, rfl, hmA, hb⟩; have hbq := hbq.trans (hb.mono hbq.size); have qq := And.intro ((hbq.cell (p := ⟨w2.heap.size, 0, none⟩) s_2116).trans c_2115) (And.intro ((hbq.cell (p := ⟨w1.heap.size + 1, 0, none⟩) s_2114).trans c_2112) (And.intro ((hbq.cell (p := ⟨w1.heap.size + 1, 1, none⟩) s_2114).trans c_2113) ((hbq.cell (p := ⟨w1.heap.size, 0, none⟩) s_2111).trans c_2110))); clear hb; have HA := Lib.hid hmA; have HKA := Lib.hid hkA; clear hmA hkA); (try go_wp2_with fail))
                  refine hK.out _ _ ?h31 (fun hH31 => ?g31)
                  case h31 => ((try dsimp only); (first | with_reducible exact qq | exact qq))
                  clear hK K hH25
                  (try simp only [Act.put, List.setIfInBounds_toArray, List.set_cons_zero, List.set_cons_succ])
                  refine wpAnyH_ready (rs := [7]) (by kernel_rfl) (by simp) ?_
                  refine AllReadyH.cons (o := { dst := Option.some 98, op := Go.Op.call { callee := Go.Callee.value (Go.Operand.func 18), args := #[Go.Operand.tmp 96, Go.Operand.tmp 97], argTypes := #[25, 25] }, type := 4, pos := "laws.go:189", after := #[{ on := 5, ground := Go.Ground.data }, { on := 6, ground := Go.Ground.data }, { on := 5, ground := Go.Ground.chain }, { on := 2, ground := Go.Ground.guard }], guard := Option.some (2, Bool.true) }) rfl (fun K hK => ?s33) ?m33
                  case s33 =>
                    (go_simp; (go_at_call 18; refine (caMap_m HA.out (H_2124.out.below hbq) (HKA.out.trans HXX.out) _ _).mono ?_; rintro e v ⟨rfl, hb⟩; have hbq := hbq.trans (hb.mono hbq.size); have qq := And.intro ((hbq.cell (p := ⟨w2.heap.size, 0, none⟩) s_2116).trans c_2115) (And.intro ((hbq.cell (p := ⟨w1.heap.size + 1, 0, none⟩) s_2114).trans c_2112) (And.intro ((hbq.cell (p := ⟨w1.heap.size + 1, 1, none⟩) s_2114).trans c_2113) ((hbq.cell (p := ⟨w1.heap.size, 0, none⟩) s_2111).trans c_2110))); clear hb); (try go_wp2_with fail))
                    refine hK.out _ _ ?h33 (fun hH33 => ?g33)
                    case h33 => ((try dsimp only); (first | with_reducible exact qq | exact qq))
                    clear hK K hH31
                    (try simp only [Act.put, List.setIfInBounds_toArray, List.set_cons_zero, List.set_cons_succ])
                    refine wpAnyH_take (i := 8) (oi := { dst := Option.some 99, op := Go.Op.pick (Go.Operand.tmp 93) (Go.Operand.tmp 98) (Go.Operand.const (Go.Value.bool Bool.false)), type := 4, pos := "laws.go:189", after := #[{ on := 2, ground := Go.Ground.data }, { on := 7, ground := Go.Ground.data }], guard := Option.none }) (v := ?v34) rfl (by kernel_rfl) (by kernel_rfl) (by kernel_rfl) (fun _ _ _ h => h) (Or.inl ⟨by rfl, ?y34⟩) hH33 ?r34
                    case y34 => (intro w hSw; (try dsimp only at hSw); go_simp; (try with_reducible rfl))
                    (try simp only [Act.put, List.setIfInBounds_toArray, List.set_cons_zero, List.set_cons_succ])
                    refine wpAnyH_take (i := 9) (oi := { dst := Option.some 100, op := Go.Op.move (Go.Operand.tmp 99), type := 4, pos := "laws.go:189", after := #[{ on := 8, ground := Go.Ground.data }, { on := 7, ground := Go.Ground.chain }], guard := Option.none }) (v := ?v35) rfl (by kernel_rfl) (by kernel_rfl) (by kernel_rfl) (fun _ _ _ h => h) (Or.inl ⟨by rfl, ?y35⟩) hH33 ?r35
                    case y35 => (intro w hSw; (try dsimp only at hSw); go_simp; (try with_reducible rfl))
                    (try simp only [Act.put, List.setIfInBounds_toArray, List.set_cons_zero, List.set_cons_succ])
                    refine wpAnyH_take (i := 10) (oi := { dst := Option.some 101, op := Go.Op.load 25 (Go.Operand.tmp 5), type := 25, pos := "laws.go:189", after := #[{ on := 9, ground := Go.Ground.guard }], guard := Option.some (9, Bool.true) }) (v := ?v36) rfl (by kernel_rfl) (by kernel_rfl) (by kernel_rfl) (fun _ _ _ h => h) (Or.inl ⟨by rfl, ?y36⟩) hH33 ?r36
                    case y36 => (intro w hSw; (try dsimp only at hSw); go_simp; (try with_reducible rfl))
                    (try simp only [Act.put, List.setIfInBounds_toArray, List.set_cons_zero, List.set_cons_succ])
                    refine wpAnyH_take (i := 11) (oi := { dst := Option.some 102, op := Go.Op.build 47 #[], type := 47, pos := "laws.go:189", after := #[{ on := 9, ground := Go.Ground.guard }], guard := Option.some (9, Bool.true) }) (v := ?v37) rfl (by kernel_rfl) (by kernel_rfl) (by kernel_rfl) (fun _ _ _ h => h) (Or.inl ⟨by rfl, ?y37⟩) hH33 ?r37
                    case y37 => (intro w hSw; (try dsimp only at hSw); go_simp; (try with_reducible rfl))
                    (try simp only [Act.put, List.setIfInBounds_toArray, List.set_cons_zero, List.set_cons_succ])
                    refine wpAnyH_take (i := 13) (oi := { dst := Option.some 104, op := Go.Op.load 25 (Go.Operand.tmp 5), type := 25, pos := "laws.go:189", after := #[{ on := 9, ground := Go.Ground.guard }], guard := Option.some (9, Bool.true) }) (v := ?v38) rfl (by kernel_rfl) (by kernel_rfl) (by kernel_rfl) (fun _ _ _ h => h) (Or.inl ⟨by rfl, ?y38⟩) hH33 ?r38
                    case y38 => (intro w hSw; (try dsimp only at hSw); go_simp; (try with_reducible rfl))
                    (try simp only [Act.put, List.setIfInBounds_toArray, List.set_cons_zero, List.set_cons_succ])
                    refine wpAnyH_ready (rs := [12]) (by kernel_rfl) (by simp) ?_
                    refine AllReadyH.cons (o := { dst := Option.some 103, op := Go.Op.call { callee := Go.Callee.value (Go.Operand.func 28), args := #[Go.Operand.tmp 101, Go.Operand.tmp 102], argTypes := #[25, 47] }, type := 25, pos := "laws.go:189", after := #[{ on := 10, ground := Go.Ground.data }, { on := 11, ground := Go.Ground.data }, { on := 9, ground := Go.Ground.chain }, { on := 9, ground := Go.Ground.guard }], guard := Option.some (9, Bool.true) }) rfl (fun K hK => ?s40) ?m40
                    case s40 =>
                      (go_simp; (go_at_call 28; refine (vmapCut_m (H_2123.out.below hbq) c ⟨#[]⟩ ⟨#[]⟩ HZ0.out HZ0.out).mono ?_; rintro e v ⟨aC, csC, cC, hkC, rfl, hmC, hb⟩; have hbq := hbq.trans (hb.mono hbq.size); have qq := And.intro ((hbq.cell (p := ⟨w2.heap.size, 0, none⟩) s_2116).trans c_2115) (And.intro ((hbq.cell (p := ⟨w1.heap.size + 1, 0, none⟩) s_2114).trans c_2112) (And.intro ((hbq.cell (p := ⟨w1.heap.size + 1, 1, none⟩) s_2114).trans c_2113) ((hbq.cell (p := ⟨w1.heap.size, 0, none⟩) s_2111).trans c_2110))); clear hb; have HC := Lib.hid hmC; have HKC := Lib.hid hkC; clear hmC hkC); (try go_wp2_with fail))
                      refine hK.out _ _ ?h40 (fun hH40 => ?g40)
                      case h40 => ((try dsimp only); (first | with_reducible exact qq | exact qq))
                      clear hK K hH33
                      (try simp only [Act.put, List.setIfInBounds_toArray, List.set_cons_zero, List.set_cons_succ])
                      refine wpAnyH_ready (rs := [14]) (by kernel_rfl) (by simp) ?_
                      refine AllReadyH.cons (o := { dst := Option.some 105, op := Go.Op.call { callee := Go.Callee.value (Go.Operand.func 18), args := #[Go.Operand.tmp 103, Go.Operand.tmp 104], argTypes := #[25, 25] }, type := 4, pos := "laws.go:189", after := #[{ on := 12, ground := Go.Ground.data }, { on := 13, ground := Go.Ground.data }, { on := 12, ground := Go.Ground.chain }, { on := 9, ground := Go.Ground.guard }], guard := Option.some (9, Bool.true) }) rfl (fun K hK => ?s42) ?m42
                      case s42 =>
                        (go_simp; (go_at_call 18; refine (caMap_m HC.out (H_2123.out.below hbq) (HKC.out.trans HAL.out) _ _).mono ?_; rintro e v ⟨rfl, hb⟩; have hbq := hbq.trans (hb.mono hbq.size); have qq := And.intro ((hbq.cell (p := ⟨w2.heap.size, 0, none⟩) s_2116).trans c_2115) (And.intro ((hbq.cell (p := ⟨w1.heap.size + 1, 0, none⟩) s_2114).trans c_2112) (And.intro ((hbq.cell (p := ⟨w1.heap.size + 1, 1, none⟩) s_2114).trans c_2113) ((hbq.cell (p := ⟨w1.heap.size, 0, none⟩) s_2111).trans c_2110))); clear hb); (try go_wp2_with fail))
                        refine hK.out _ _ ?h42 (fun hH42 => ?g42)
                        case h42 => ((try dsimp only); (first | with_reducible exact qq | exact qq))
                        clear hK K hH40
                        (try simp only [Act.put, List.setIfInBounds_toArray, List.set_cons_zero, List.set_cons_succ])
                        refine wpAnyH_take (i := 15) (oi := { dst := Option.some 106, op := Go.Op.pick (Go.Operand.tmp 100) (Go.Operand.tmp 105) (Go.Operand.const (Go.Value.bool Bool.false)), type := 4, pos := "laws.go:189", after := #[{ on := 9, ground := Go.Ground.data }, { on := 14, ground := Go.Ground.data }], guard := Option.none }) (v := ?v43) rfl (by kernel_rfl) (by kernel_rfl) (by kernel_rfl) (fun _ _ _ h => h) (Or.inl ⟨by rfl, ?y43⟩) hH42 ?r43
                        case y43 => (intro w hSw; (try dsimp only at hSw); go_simp; (try with_reducible rfl))
                        (try simp only [Act.put, List.setIfInBounds_toArray, List.set_cons_zero, List.set_cons_succ])
                        refine wpAnyH_take (i := 16) (oi := { dst := Option.some 107, op := Go.Op.move (Go.Operand.tmp 106), type := 4, pos := "laws.go:189", after := #[{ on := 15, ground := Go.Ground.data }, { on := 14, ground := Go.Ground.chain }], guard := Option.none }) (v := ?v44) rfl (by kernel_rfl) (by kernel_rfl) (by kernel_rfl) (fun _ _ _ h => h) (Or.inl ⟨by rfl, ?y44⟩) hH42 ?r44
                        case y44 => (intro w hSw; (try dsimp only at hSw); go_simp; (try with_reducible rfl))
                        (try simp only [Act.put, List.setIfInBounds_toArray, List.set_cons_zero, List.set_cons_succ])
                        refine wpAnyH_take (i := 17) (oi := { dst := Option.some 108, op := Go.Op.move (Go.Operand.tmp 13), type := 4, pos := "laws.go:189", after := #[{ on := 16, ground := Go.Ground.guard }], guard := Option.some (16, Bool.true) }) (v := ?v45) rfl (by kernel_rfl) (by kernel_rfl) (by kernel_rfl) (fun _ _ _ h => h) (Or.inl ⟨by rfl, ?y45⟩) hH42 ?r45
                        case y45 => (intro w hSw; (try dsimp only at hSw); go_simp; (try with_reducible rfl))
                        (try simp only [Act.put, List.setIfInBounds_toArray, List.set_cons_zero, List.set_cons_succ])
                        refine wpAnyH_take (i := 18) (oi := { dst := Option.some 109, op := Go.Op.unOp Go.UnOp.not 4 (Go.Operand.tmp 108), type := 4, pos := "laws.go:189", after := #[{ on := 17, ground := Go.Ground.data }, { on := 16, ground := Go.Ground.guard }], guard := Option.some (16, Bool.true) }) (v := ?v46) rfl (by kernel_rfl) (by kernel_rfl) (by kernel_rfl) (fun _ _ _ h => h) (Or.inl ⟨by rfl, ?y46⟩) hH42 ?r46
                        case y46 => (intro w hSw; (try dsimp only at hSw); go_simp; (try with_reducible rfl))
                        (try simp only [Act.put, List.setIfInBounds_toArray, List.set_cons_zero, List.set_cons_succ])
                        refine wpAnyH_take (i := 19) (oi := { dst := Option.some 110, op := Go.Op.move (Go.Operand.tmp 109), type := 4, pos := "laws.go:189", after := #[{ on := 18, ground := Go.Ground.data }, { on := 16, ground := Go.Ground.chain }, { on := 16, ground := Go.Ground.guard }], guard := Option.some (16, Bool.true) }) (v := ?v47) rfl (by kernel_rfl) (by kernel_rfl) (by kernel_rfl) (fun _ _ _ h => h) (Or.inl ⟨by rfl, ?y47⟩) hH42 ?r47
                        case y47 => (intro w hSw; (try dsimp only at hSw); go_simp; (try with_reducible rfl))
                        (try simp only [Act.put, List.setIfInBounds_toArray, List.set_cons_zero, List.set_cons_succ])
                        refine wpAnyH_ready (rs := [20]) (by kernel_rfl) (by simp) ?_
                        refine AllReadyH.cons (o := { dst := Option.some 111, op := Go.Op.move (Go.Operand.tmp 15), type := 4, pos := "laws.go:189", after := #[{ on := 19, ground := Go.Ground.guard }], guard := Option.some (19, Bool.false) }) rfl (fun K hK => ?s49) ?m49
                        case s49 =>
                          go_simp
                          refine hK.out _ _ ?h49 (fun hH49 => ?g49)
                          case h49 => ((try dsimp only); (first | with_reducible exact qq | exact qq))
                          clear hK K hH42
                          (try simp only [Act.put, List.setIfInBounds_toArray, List.set_cons_zero, List.set_cons_succ])
                          refine wpAnyH_ready (rs := [21]) (by kernel_rfl) (by simp) ?_
                          refine AllReadyH.cons (o := { dst := Option.some 112, op := Go.Op.move (Go.Operand.tmp 111), type := 4, pos := "laws.go:189", after := #[{ on := 20, ground := Go.Ground.data }, { on := 19, ground := Go.Ground.chain }, { on := 19, ground := Go.Ground.guard }], guard := Option.some (19, Bool.false) }) rfl (fun K hK => ?s51) ?m51
                          case s51 =>
                            go_simp
                            refine hK.out _ _ ?h51 (fun hH51 => ?g51)
                            case h51 => ((try dsimp only); (first | with_reducible exact qq | exact qq))
                            clear hK K hH49
                            (try simp only [Act.put, List.setIfInBounds_toArray, List.set_cons_zero, List.set_cons_succ])
                            refine wpAnyH_ready (rs := [22, 23]) (by kernel_rfl) (by simp) ?_
                            refine AllReadyH.cons (o := { dst := Option.some 113, op := Go.Op.load 25 (Go.Operand.tmp 14), type := 25, pos := "laws.go:189", after := #[{ on := 21, ground := Go.Ground.guard }], guard := Option.some (21, Bool.true) }) rfl (fun K hK => ?s53) ?m53
                            case s53 =>
                              go_simp
                              refine hK.out _ _ ?h53 (fun hH53 => ?g53)
                              case h53 => ((try dsimp only); (first | with_reducible exact qq | exact qq))
                              clear hK K hH51
                              (try simp only [Act.put, List.setIfInBounds_toArray, List.set_cons_zero, List.set_cons_succ])
                              refine wpAnyH_ready (rs := [23]) (by kernel_rfl) (by simp) ?_
                              refine AllReadyH.cons (o := { dst := Option.some 114, op := Go.Op.load 25 (Go.Operand.tmp 7), type := 25, pos := "laws.go:189", after := #[{ on := 21, ground := Go.Ground.guard }], guard := Option.some (21, Bool.true) }) rfl (fun K hK => ?s55) ?m55
                              case s55 =>
                                go_simp
                                refine hK.out _ _ ?h55 (fun hH55 => ?g55)
                                case h55 => ((try dsimp only); (first | with_reducible exact qq | exact qq))
                                clear hK K hH53
                                (try simp only [Act.put, List.setIfInBounds_toArray, List.set_cons_zero, List.set_cons_succ])
                                refine wpAnyH_ready (rs := [24]) (by kernel_rfl) (by simp) ?_
                                refine AllReadyH.cons (o := { dst := Option.some 115, op := Go.Op.call { callee := Go.Callee.value (Go.Operand.func 18), args := #[Go.Operand.tmp 113, Go.Operand.tmp 114], argTypes := #[25, 25] }, type := 4, pos := "laws.go:189", after := #[{ on := 22, ground := Go.Ground.data }, { on := 23, ground := Go.Ground.data }, { on := 21, ground := Go.Ground.chain }, { on := 21, ground := Go.Ground.guard }], guard := Option.some (21, Bool.true) }) rfl (fun K hK => ?s57) ?m57
                                case s57 =>
                                  go_simp
                                  refine hK.out _ _ ?h57 (fun hH57 => ?g57)
                                  case h57 => ((try dsimp only); (first | with_reducible exact qq | exact qq))
                                  clear hK K hH55
                                  (try simp only [Act.put, List.setIfInBounds_toArray, List.set_cons_zero, List.set_cons_succ])
                                  refine wpAnyH_ready (rs := [25]) (by kernel_rfl) (by simp) ?_
                                  refine AllReadyH.cons (o := { dst := Option.some 116, op := Go.Op.pick (Go.Operand.tmp 112) (Go.Operand.tmp 115) (Go.Operand.const (Go.Value.bool Bool.false)), type := 4, pos := "laws.go:189", after := #[{ on := 21, ground := Go.Ground.data }, { on := 24, ground := Go.Ground.data }, { on := 19, ground := Go.Ground.guard }], guard := Option.some (19, Bool.false) }) rfl (fun K hK => ?s59) ?m59
                                  case s59 =>
                                    go_simp
                                    refine hK.out _ _ ?h59 (fun hH59 => ?g59)
                                    case h59 => ((try dsimp only); (first | with_reducible exact qq | exact qq))
                                    clear hK K hH57
                                    (try simp only [Act.put, List.setIfInBounds_toArray, List.set_cons_zero, List.set_cons_succ])
                                    refine wpAnyH_take (i := 26) (oi := { dst := Option.some 117, op := Go.Op.pick (Go.Operand.tmp 110) (Go.Operand.const (Go.Value.bool Bool.true)) (Go.Operand.tmp 116), type := 4, pos := "laws.go:189", after := #[{ on := 19, ground := Go.Ground.data }, { on := 25, ground := Go.Ground.data }, { on := 16, ground := Go.Ground.guard }], guard := Option.some (16, Bool.true) }) (v := ?v60) rfl (by kernel_rfl) (by kernel_rfl) (by kernel_rfl) (fun _ _ _ h => h) (Or.inl ⟨by rfl, ?y60⟩) hH59 ?r60
                                    case y60 => (intro w hSw; (try dsimp only at hSw); go_simp; (try with_reducible rfl))
                                    (try simp only [Act.put, List.setIfInBounds_toArray, List.set_cons_zero, List.set_cons_succ])
                                    refine wpAnyH_take (i := 27) (oi := { dst := Option.some 118, op := Go.Op.pick (Go.Operand.tmp 107) (Go.Operand.tmp 117) (Go.Operand.const (Go.Value.bool Bool.false)), type := 4, pos := "laws.go:189", after := #[{ on := 16, ground := Go.Ground.data }, { on := 26, ground := Go.Ground.data }], guard := Option.none }) (v := ?v61) rfl (by kernel_rfl) (by kernel_rfl) (by kernel_rfl) (fun _ _ _ h => h) (Or.inl ⟨by rfl, ?y61⟩) hH59 ?r61
                                    case y61 => (intro w hSw; (try dsimp only at hSw); go_simp; (try with_reducible rfl))
                                    (try simp only [Act.put, List.setIfInBounds_toArray, List.set_cons_zero, List.set_cons_succ])
                                    refine wpAnyH_take (i := 28) (oi := { dst := Option.some 4, op := Go.Op.assign (Go.Operand.tmp 118), type := 4, pos := "laws.go:189", after := #[{ on := 27, ground := Go.Ground.data }, { on := 24, ground := Go.Ground.chain }, { on := 0, ground := Go.Ground.phase }, { on := 1, ground := Go.Ground.phase }, { on := 2, ground := Go.Ground.phase }, { on := 3, ground := Go.Ground.phase }, { on := 4, ground := Go.Ground.phase }, { on := 5, ground := Go.Ground.phase }, { on := 6, ground := Go.Ground.phase }, { on := 7, ground := Go.Ground.phase }, { on := 8, ground := Go.Ground.phase }, { on := 9, ground := Go.Ground.phase }, { on := 10, ground := Go.Ground.phase }, { on := 11, ground := Go.Ground.phase }, { on := 12, ground := Go.Ground.phase }, { on := 13, ground := Go.Ground.phase }, { on := 14, ground := Go.Ground.phase }, { on := 15, ground := Go.Ground.phase }, { on := 16, ground := Go.Ground.phase }, { on := 17, ground := Go.Ground.phase }, { on := 18, ground := Go.Ground.phase }, { on := 19, ground := Go.Ground.phase }, { on := 20, ground := Go.Ground.phase }, { on := 21, ground := Go.Ground.phase }, { on := 22, ground := Go.Ground.phase }, { on := 23, ground := Go.Ground.phase }, { on := 24, ground := Go.Ground.phase }, { on := 25, ground := Go.Ground.phase }, { on := 26, ground := Go.Ground.phase }, { on := 27, ground := Go.Ground.phase }], guard := Option.none }) (v := ?v62) rfl (by kernel_rfl) (by kernel_rfl) (by kernel_rfl) (fun _ _ _ h => h) (Or.inl ⟨by rfl, ?y62⟩) hH59 ?r62
                                    case y62 => (intro w hSw; (try dsimp only at hSw); go_simp; (try with_reducible rfl))
                                    (try simp only [Act.put, List.setIfInBounds_toArray, List.set_cons_zero, List.set_cons_succ])
                                    refine wpAnyH_done (by kernel_rfl) ?_ _
                                    clear hH59
                                    go_wp2_with fail
                                    go_ret
                                    exact ⟨rfl, HB.out.trans (hbq.mono HB.out.size)⟩
                                  exact AllReadyH.nil
                                exact AllReadyH.nil
                              exact AllReadyH.nil
                            refine AllReadyH.cons (o := { dst := Option.some 114, op := Go.Op.load 25 (Go.Operand.tmp 7), type := 25, pos := "laws.go:189", after := #[{ on := 21, ground := Go.Ground.guard }], guard := Option.some (21, Bool.true) }) rfl (fun K hK => ?s63) ?m63
                            case s63 =>
                              go_simp
                              refine hK.out _ _ ?h63 (fun hH63 => ?g63)
                              case h63 => ((try dsimp only); (first | with_reducible exact qq | exact qq))
                              clear hK K hH51
                              (try simp only [Act.put, List.setIfInBounds_toArray, List.set_cons_zero, List.set_cons_succ])
                              refine wpAnyH_ready (rs := [22]) (by kernel_rfl) (by simp) ?_
                              refine AllReadyH.cons (o := { dst := Option.some 113, op := Go.Op.load 25 (Go.Operand.tmp 14), type := 25, pos := "laws.go:189", after := #[{ on := 21, ground := Go.Ground.guard }], guard := Option.some (21, Bool.true) }) rfl (fun K hK => ?s65) ?m65
                              case s65 =>
                                go_simp
                                refine hK.out _ _ ?h65 (fun hH65 => ?g65)
                                case h65 => ((try dsimp only); (first | with_reducible exact qq | exact qq))
                                clear hK K hH63
                                (try simp only [Act.put, List.setIfInBounds_toArray, List.set_cons_zero, List.set_cons_succ])
                                refine wpAnyH_ready (rs := [24]) (by kernel_rfl) (by simp) ?_
                                refine AllReadyH.cons (o := { dst := Option.some 115, op := Go.Op.call { callee := Go.Callee.value (Go.Operand.func 18), args := #[Go.Operand.tmp 113, Go.Operand.tmp 114], argTypes := #[25, 25] }, type := 4, pos := "laws.go:189", after := #[{ on := 22, ground := Go.Ground.data }, { on := 23, ground := Go.Ground.data }, { on := 21, ground := Go.Ground.chain }, { on := 21, ground := Go.Ground.guard }], guard := Option.some (21, Bool.true) }) rfl (fun K hK => ?s67) ?m67
                                case s67 =>
                                  go_simp
                                  refine hK.out _ _ ?h67 (fun hH67 => ?g67)
                                  case h67 => ((try dsimp only); (first | with_reducible exact qq | exact qq))
                                  clear hK K hH65
                                  (try simp only [Act.put, List.setIfInBounds_toArray, List.set_cons_zero, List.set_cons_succ])
                                  refine wpAnyH_ready (rs := [25]) (by kernel_rfl) (by simp) ?_
                                  refine AllReadyH.cons (o := { dst := Option.some 116, op := Go.Op.pick (Go.Operand.tmp 112) (Go.Operand.tmp 115) (Go.Operand.const (Go.Value.bool Bool.false)), type := 4, pos := "laws.go:189", after := #[{ on := 21, ground := Go.Ground.data }, { on := 24, ground := Go.Ground.data }, { on := 19, ground := Go.Ground.guard }], guard := Option.some (19, Bool.false) }) rfl (fun K hK => ?s69) ?m69
                                  case s69 =>
                                    go_simp
                                    refine hK.out _ _ ?h69 (fun hH69 => ?g69)
                                    case h69 => ((try dsimp only); (first | with_reducible exact qq | exact qq))
                                    clear hK K hH67
                                    (try simp only [Act.put, List.setIfInBounds_toArray, List.set_cons_zero, List.set_cons_succ])
                                    refine wpAnyH_take (i := 26) (oi := { dst := Option.some 117, op := Go.Op.pick (Go.Operand.tmp 110) (Go.Operand.const (Go.Value.bool Bool.true)) (Go.Operand.tmp 116), type := 4, pos := "laws.go:189", after := #[{ on := 19, ground := Go.Ground.data }, { on := 25, ground := Go.Ground.data }, { on := 16, ground := Go.Ground.guard }], guard := Option.some (16, Bool.true) }) (v := ?v70) rfl (by kernel_rfl) (by kernel_rfl) (by kernel_rfl) (fun _ _ _ h => h) (Or.inl ⟨by rfl, ?y70⟩) hH69 ?r70
                                    case y70 => (intro w hSw; (try dsimp only at hSw); go_simp; (try with_reducible rfl))
                                    (try simp only [Act.put, List.setIfInBounds_toArray, List.set_cons_zero, List.set_cons_succ])
                                    refine wpAnyH_take (i := 27) (oi := { dst := Option.some 118, op := Go.Op.pick (Go.Operand.tmp 107) (Go.Operand.tmp 117) (Go.Operand.const (Go.Value.bool Bool.false)), type := 4, pos := "laws.go:189", after := #[{ on := 16, ground := Go.Ground.data }, { on := 26, ground := Go.Ground.data }], guard := Option.none }) (v := ?v71) rfl (by kernel_rfl) (by kernel_rfl) (by kernel_rfl) (fun _ _ _ h => h) (Or.inl ⟨by rfl, ?y71⟩) hH69 ?r71
                                    case y71 => (intro w hSw; (try dsimp only at hSw); go_simp; (try with_reducible rfl))
                                    (try simp only [Act.put, List.setIfInBounds_toArray, List.set_cons_zero, List.set_cons_succ])
                                    refine wpAnyH_take (i := 28) (oi := { dst := Option.some 4, op := Go.Op.assign (Go.Operand.tmp 118), type := 4, pos := "laws.go:189", after := #[{ on := 27, ground := Go.Ground.data }, { on := 24, ground := Go.Ground.chain }, { on := 0, ground := Go.Ground.phase }, { on := 1, ground := Go.Ground.phase }, { on := 2, ground := Go.Ground.phase }, { on := 3, ground := Go.Ground.phase }, { on := 4, ground := Go.Ground.phase }, { on := 5, ground := Go.Ground.phase }, { on := 6, ground := Go.Ground.phase }, { on := 7, ground := Go.Ground.phase }, { on := 8, ground := Go.Ground.phase }, { on := 9, ground := Go.Ground.phase }, { on := 10, ground := Go.Ground.phase }, { on := 11, ground := Go.Ground.phase }, { on := 12, ground := Go.Ground.phase }, { on := 13, ground := Go.Ground.phase }, { on := 14, ground := Go.Ground.phase }, { on := 15, ground := Go.Ground.phase }, { on := 16, ground := Go.Ground.phase }, { on := 17, ground := Go.Ground.phase }, { on := 18, ground := Go.Ground.phase }, { on := 19, ground := Go.Ground.phase }, { on := 20, ground := Go.Ground.phase }, { on := 21, ground := Go.Ground.phase }, { on := 22, ground := Go.Ground.phase }, { on := 23, ground := Go.Ground.phase }, { on := 24, ground := Go.Ground.phase }, { on := 25, ground := Go.Ground.phase }, { on := 26, ground := Go.Ground.phase }, { on := 27, ground := Go.Ground.phase }], guard := Option.none }) (v := ?v72) rfl (by kernel_rfl) (by kernel_rfl) (by kernel_rfl) (fun _ _ _ h => h) (Or.inl ⟨by rfl, ?y72⟩) hH69 ?r72
                                    case y72 => (intro w hSw; (try dsimp only at hSw); go_simp; (try with_reducible rfl))
                                    (try simp only [Act.put, List.setIfInBounds_toArray, List.set_cons_zero, List.set_cons_succ])
                                    refine wpAnyH_done (by kernel_rfl) ?_ _
                                    clear hH69
                                    go_wp2_with fail
                                    go_ret
                                    exact ⟨rfl, HB.out.trans (hbq.mono HB.out.size)⟩
                                  exact AllReadyH.nil
                                exact AllReadyH.nil
                              exact AllReadyH.nil
                            exact AllReadyH.nil
                          exact AllReadyH.nil
                        exact AllReadyH.nil
                      exact AllReadyH.nil
                    exact AllReadyH.nil
                  exact AllReadyH.nil
                exact AllReadyH.nil
              exact AllReadyH.nil
            · skip
              obtain ⟨rfl, rfl, rfl, rfl⟩ := HSP.out rfl
              obtain ⟨-, hj1, hj2⟩ := cutF_join HKO.out HSOK.out HSOK2.out.symm
              have hjt : jb = true := by rw [HJB.out]; exact hj2
              subst hjt
              have HGX := Lib.hid (show gs.map ObjD.kv = xs.map ObjD.kv by rw [HKG.out, HJK.out, HKX.out]; exact hj1)
              clear hj1 hj2
              go_wp2_with fail
              have hbq : Below w6.heap.size w6 w6.drew := (Below.refl _ _).drew
              have qq := And.intro (c_2115) (And.intro (c_2112) (And.intro (c_2113) (And.intro (c_2110) (e0))))
              go_region_held3 (fun u => u.cell? ⟨w2.heap.size, 0, none⟩ = some (.slice ax xs.length cx) ∧ u.cell? ⟨w1.heap.size + 1, 0, none⟩ = some (.string lo) ∧ u.cell? ⟨w1.heap.size + 1, 1, none⟩ = some (.string hi) ∧ u.cell? ⟨w1.heap.size, 0, none⟩ = some (.slice am os.length c) ∧ u.cell? ⟨g, 0, none⟩ = some (.slice ag gs.length cg))
                (first | with_reducible exact qq | exact qq | fail)
                (first
                  | (go_at_call 19; (with_reducible refine (vmapOk_is HXO.out (H_2124.out.below hbq) cx).mono ?_); rintro e v ⟨rfl, hb⟩; have hbq := hbq.trans (hb.mono hbq.size); have qq := And.intro ((hbq.cell (p := ⟨w2.heap.size, 0, none⟩) s_2116).trans c_2115) (And.intro ((hbq.cell (p := ⟨w1.heap.size + 1, 0, none⟩) s_2114).trans c_2112) (And.intro ((hbq.cell (p := ⟨w1.heap.size + 1, 1, none⟩) s_2114).trans c_2113) (And.intro ((hbq.cell (p := ⟨w1.heap.size, 0, none⟩) s_2111).trans c_2110) ((hbq.cell (p := ⟨g, 0, none⟩) hg2).trans e0)))); clear hb)
                  | (go_at_call 28; (with_reducible refine (vmapCut_m (H_2124.out.below hbq) cx lo hi HLO.out HHI.out).mono ?_); rintro e v ⟨aA, csA, cA, hkA, rfl, hmA, hb⟩; have hbq := hbq.trans (hb.mono hbq.size); have qq := And.intro ((hbq.cell (p := ⟨w2.heap.size, 0, none⟩) s_2116).trans c_2115) (And.intro ((hbq.cell (p := ⟨w1.heap.size + 1, 0, none⟩) s_2114).trans c_2112) (And.intro ((hbq.cell (p := ⟨w1.heap.size + 1, 1, none⟩) s_2114).trans c_2113) (And.intro ((hbq.cell (p := ⟨w1.heap.size, 0, none⟩) s_2111).trans c_2110) ((hbq.cell (p := ⟨g, 0, none⟩) hg2).trans e0)))); clear hb; have HA := Lib.hid hmA; have HKA := Lib.hid hkA; clear hmA hkA)
                  | (go_at_call 18; (with_reducible refine (caMap_m HA.out (H_2124.out.below hbq) (HKA.out.trans HXX.out) _ _).mono ?_); rintro e v ⟨rfl, hb⟩; have hbq := hbq.trans (hb.mono hbq.size); have qq := And.intro ((hbq.cell (p := ⟨w2.heap.size, 0, none⟩) s_2116).trans c_2115) (And.intro ((hbq.cell (p := ⟨w1.heap.size + 1, 0, none⟩) s_2114).trans c_2112) (And.intro ((hbq.cell (p := ⟨w1.heap.size + 1, 1, none⟩) s_2114).trans c_2113) (And.intro ((hbq.cell (p := ⟨w1.heap.size, 0, none⟩) s_2111).trans c_2110) ((hbq.cell (p := ⟨g, 0, none⟩) hg2).trans e0)))); clear hb)
                  | (go_at_call 28; (with_reducible refine (vmapCut_m (H_2123.out.below hbq) c ⟨#[]⟩ ⟨#[]⟩ HZ0.out HZ0.out).mono ?_); rintro e v ⟨aC, csC, cC, hkC, rfl, hmC, hb⟩; have hbq := hbq.trans (hb.mono hbq.size); have qq := And.intro ((hbq.cell (p := ⟨w2.heap.size, 0, none⟩) s_2116).trans c_2115) (And.intro ((hbq.cell (p := ⟨w1.heap.size + 1, 0, none⟩) s_2114).trans c_2112) (And.intro ((hbq.cell (p := ⟨w1.heap.size + 1, 1, none⟩) s_2114).trans c_2113) (And.intro ((hbq.cell (p := ⟨w1.heap.size, 0, none⟩) s_2111).trans c_2110) ((hbq.cell (p := ⟨g, 0, none⟩) hg2).trans e0)))); clear hb; have HC := Lib.hid hmC; have HKC := Lib.hid hkC; clear hmC hkC)
                  | (go_at_call 18; (with_reducible refine (caMap_m HC.out (H_2123.out.below hbq) (HKC.out.trans HAL.out) _ _).mono ?_); rintro e v ⟨rfl, hb⟩; have hbq := hbq.trans (hb.mono hbq.size); have qq := And.intro ((hbq.cell (p := ⟨w2.heap.size, 0, none⟩) s_2116).trans c_2115) (And.intro ((hbq.cell (p := ⟨w1.heap.size + 1, 0, none⟩) s_2114).trans c_2112) (And.intro ((hbq.cell (p := ⟨w1.heap.size + 1, 1, none⟩) s_2114).trans c_2113) (And.intro ((hbq.cell (p := ⟨w1.heap.size, 0, none⟩) s_2111).trans c_2110) ((hbq.cell (p := ⟨g, 0, none⟩) hg2).trans e0)))); clear hb)
                  | (go_at_call 18; (with_reducible refine (caMap_m (HG.out.below hbq) (H_2124.out.below hbq) HGX.out _ _).mono ?_); rintro e v ⟨rfl, hb⟩; have hbq := hbq.trans (hb.mono hbq.size); have qq := And.intro ((hbq.cell (p := ⟨w2.heap.size, 0, none⟩) s_2116).trans c_2115) (And.intro ((hbq.cell (p := ⟨w1.heap.size + 1, 0, none⟩) s_2114).trans c_2112) (And.intro ((hbq.cell (p := ⟨w1.heap.size + 1, 1, none⟩) s_2114).trans c_2113) (And.intro ((hbq.cell (p := ⟨w1.heap.size, 0, none⟩) s_2111).trans c_2110) ((hbq.cell (p := ⟨g, 0, none⟩) hg2).trans e0)))); clear hb)
                  | fail)
              all_goals
                go_wp2_with fail
                go_ret
                exact ⟨rfl, HB.out.trans (hbq.mono HB.out.size)⟩
end Go.Proofs.Ytjijichgoodocaa
