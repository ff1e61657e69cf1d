/- Two maps, one behind the other, the model's functions. -/
import Derived.OwnWalk
import Derived.Test.YtjijichgoodocaaCpO
namespace Go.Proofs.Ytjijichgoodocaa
open Go.RowKit Go.Sort

theorem joinB_no {xs bs : List Kv} (h : ¬ KvOk (xs ++ bs)) : joinB xs bs = false := by unfold joinB; simp [h]
theorem joinB_yes {xs bs : List Kv} (h : KvOk (xs ++ bs)) : joinB xs bs = true := by unfold joinB; simp [h]
theorem own_slice {w : World} {base size n : Nat} {e : TypeId} {v : Value} {xs : List Value} (h : w.ownsRow base e size v n xs) : ∃ a c, v = .slice a n c := by
  rcases Joins.ownsRow_forms h with ⟨rfl, rfl⟩ | ⟨g, cap, rfl⟩
  · exact ⟨_, _, rfl⟩
  · exact ⟨_, _, rfl⟩
theorem wpList_append_objJ {w : World} {ops : Array Oper} {rest : List Oper} {o : Oper} {a : Act} {Q : Exit → Act → World → Prop} (hgd : o.guard = none) (s x : Operand) (t : TypeId)
    (ho : o.op = .call { callee := .builtin .append, args := #[s, x], argTypes := #[t, t] }) (ht : Try.prog.underlying t = some (.slice 45))
    (base : Nat) (v : Value) (n : Nat) (xs : List Value) (hs : a.eval s = v) (hown : w.ownsRow base 45 2 v n xs)
    (p : Option Addr) (ys : List ObjD) (c : Nat) (hx : a.eval x = .slice p ys.length c) (hp : (∃ b off, p = some ⟨b, off, none⟩) ∨ p = none ∧ ys = [] ∧ c = 0) (hys : ObjsIn w p ys) (hnm : n + ys.length ≤ 2097152) (hbase : base ≤ w.heap.size)
    (h : ∀ q k w', w'.ownsRow base 45 2 (.slice q (n + ys.length) k) (n + ys.length) (xs ++ ys.flatMap objCells) → w.grownBy w' v.ownBlock → wpList Try.prog ops Q rest (a.put o.dst (.slice q (n + ys.length) k)) w') : wpList Try.prog ops Q (o :: rest) a w := by
  obtain ⟨v', w', hr, h2, h3⟩ := run_append_obj base t o.type ht v n xs hown p ys c hp hys hnm hbase
  obtain ⟨q, k, rfl⟩ := own_slice h2
  exact Lib.wpList_append_run w hgd s x t t ho v _ hs hx _ w' hr (h q k w' h2 h3)

set_option maxRecDepth 100000 in
set_option maxHeartbeats 4000000 in
theorem l2Join_any (a b : Option Addr) (os ps : List ObjD) (capA capB : Nat) (w : World) (hv : ObjsIn w a os) (hu : ObjsIn w b ps) (hp : ∀ o ∈ os, o.plain) (hq : ∀ o ∈ ps, o.plain) (hn : os.length ≤ 1048576) (hm : ps.length ≤ 1048576) (hl : ∀ o ∈ os, o.vers.length ≤ 1048576) (hk : ∀ o ∈ ps, o.vers.length ≤ 1048576) :
    Calls Try.prog 101 #[.agg #[.slice a os.length capA], .agg #[.slice b ps.length capB]] w (VmOut (os.map ObjD.kv ++ ps.map ObjD.kv) w) := by
  have HV := Lib.hid hv
  have HU := Lib.hid hu
  have HP := Lib.hid hp
  have HQ := Lib.hid hq
  have HL := Lib.hid hl
  have HKL := Lib.hid hk
  clear hv hu hp hq hl hk
  obtain ⟨W1, hW1⟩ : ∃ W1, ((w.alloc (.cells #[.slice a os.length capA] 25)).alloc (.cells #[.slice b ps.length capB] 25)).alloc (.cells #[.slice none 0 0] 25) = W1 := ⟨_, rfl⟩
  have B1 : Below w.heap.size w W1 := by rw [← hW1]; exact (((Below.refl _ _).alloc (Nat.le_refl _) _).alloc (by simp) _).alloc (by simp <;> omega) _
  have z1 : w.heap.size + 3 ≤ W1.heap.size := by rw [← hW1]; simp
  have d0 : W1.cell? ⟨w.heap.size + 1, 0, none⟩ = some (.slice b ps.length capB) := by rw [← hW1]; simp [go_sem]
  have rB : Boxed W1 (w.heap.size + 1 + 1) 25 (.slice none 0 0) := by
    have := Boxed.new ((w.alloc (.cells #[.slice a os.length capA] 25)).alloc (.cells #[.slice b ps.length capB] 25)) 25 (.slice none 0 0)
    rw [hW1] at this
    simpa using this
  have c0 : W1.cell? ⟨w.heap.size, 0, none⟩ = some (.slice a os.length capA) := by rw [← hW1]; simp [go_sem]
  have HB1 := Lib.hid B1
  clear B1
  go_enter Try.func101, Try.ntmps101
  go_wp2_with fail
  clear hW1
  refine (l2Copy_own a os capA _ (HV.out.below HB1.out) HP.out hn HL.out).mono ?_
  rintro e w1 ⟨v1, cs, hk1, rfl, ho1, hh1, hb1⟩
  have d0 := (hb1.cell (p := ⟨w.heap.size + 1, 0, none⟩) (show w.heap.size + 1 < W1.heap.size by omega)).trans d0
  have rB := (hb1.block (w.heap.size + 1 + 1) (by omega)).trans rB
  have s1 := hb1.size
  have HBa := Lib.hid (HB1.out.trans (hb1.mono HB1.out.size))
  have HCL := Lib.hid (show cs.length = os.length by simpa using congrArg List.length hk1)
  obtain ⟨p1, c1, rfl⟩ := own_slice ho1
  have HK1 := Lib.hid hk1
  have HO1 := Lib.hid ho1
  have HH1 := Lib.hid hh1
  clear hk1 ho1 hh1 hb1
  obtain ⟨W2, hW2⟩ : ∃ W2, w1.alloc (.cells #[.slice p1 cs.length c1] 25) = W2 := ⟨_, rfl⟩
  have hbW : Below w1.heap.size w1 W2 := by rw [← hW2]; exact (Below.refl _ _).alloc (Nat.le_refl _) _
  have oB : Boxed W2 w1.heap.size 25 (.slice p1 cs.length c1) := by rw [← hW2]; exact Boxed.new _ _ _
  have d1 := (hbW.cell (p := ⟨w.heap.size + 1, 0, none⟩) (show w.heap.size + 1 < w1.heap.size by omega)).trans d0
  have rB := (hbW.block (w.heap.size + 1 + 1) (by omega)).trans rB
  have s2 : w1.heap.size < W2.heap.size := by rw [← hW2]; simp
  have HBb := Lib.hid (HBa.out.trans (hbW.mono HBa.out.size))
  have HbW := Lib.hid hbW
  clear hbW
  go_wp2_with fail
  clear hW2 d0
  refine (l2Copy_own b ps capB _ (HU.out.below HBb.out) HQ.out hm HKL.out).mono ?_
  rintro e w2 ⟨v2, es, hk2, rfl, ho2, hh2, hb2⟩
  have rB := (hb2.block (w.heap.size + 1 + 1) (by omega)).trans rB
  have oB := (hb2.block w1.heap.size (by omega)).trans oB
  have s3 := hb2.size
  have HBc := Lib.hid (HBb.out.trans (hb2.mono HBb.out.size))
  have HEL := Lib.hid (show es.length = ps.length by simpa using congrArg List.length hk2)
  have HK2 := Lib.hid hk2
  have hforms := Joins.ownsRow_forms ho2
  obtain ⟨p, c, rfl, hA2⟩ := vmAt_own ho2 hh2 (Nat.le_refl _)
  have hpp : (∃ b off, p = some ⟨b, off, none⟩) ∨ p = none ∧ es = [] ∧ c = 0 := by
    rcases hforms with ⟨e, h0⟩ | ⟨g, cap, e⟩
    · injection e with e1 _ e2
      exact .inr ⟨e1, List.eq_nil_of_length_eq_zero h0, e2⟩
    · injection e with e1
      exact .inl ⟨_, _, e1⟩
  obtain ⟨W3, hW3⟩ : ∃ W3, w2.alloc (.cells #[.slice p es.length c] 25) = W3 := ⟨_, rfl⟩
  have hb3 : Below w2.heap.size w2 W3 := by rw [← hW3]; exact (Below.refl _ _).alloc (Nat.le_refl _) _
  have f0 : W3.cell? ⟨w2.heap.size, 0, none⟩ = some (.slice p es.length c) := by rw [← hW3]; simp [go_sem]
  have s4 : w2.heap.size < W3.heap.size := by rw [← hW3]; simp
  have rB := (hb3.block (w.heap.size + 1 + 1) (by omega)).trans rB
  have oB := (hb3.block w1.heap.size (by omega)).trans oB
  have hb13 : Below w1.heap.size w1 W3 := (HbW.out.trans (hb2.mono (by omega))).trans (hb3.mono (by omega))
  have G : Gv w1.heap.size W1.heap.size W3 cs (.slice p1 cs.length c1) := ⟨oB, Go.Proofs.Ytjijichgoodocaa.ownsRow_of_below HO1.out hb13, HH1.out.below hb13⟩
  have HA3 := Lib.hid (hA2.below hb3)
  have HH2 := Lib.hid (hh2.below hb3)
  have HBd := Lib.hid (HBc.out.trans (hb3.mono HBc.out.size))
  have H13 := Lib.hid hb13
  have hx := G.box.cell
  have hfx := G.box.frozen
  have HG := Lib.hid G
  have HRB := Lib.hid rB
  clear G oB rB hb3 hb13 hA2 ho2 hh2 hk2 hb2 hforms
  have hq1 : cs.length + es.length ≤ 2097152 := by have := HCL.out; have := HEL.out; omega
  have hq2 : W1.heap.size ≤ W3.heap.size := by omega
  go_wp2_with (at_builtin; refine wpList_append_objJ rfl _ _ 23 rfl Try.underlying23 W1.heap.size (.slice p1 cs.length c1) cs.length _ rfl HG.out.own p es c rfl hpp HA3.out.in1 hq1 hq2 ?_; intro q k w4 hown hgrow; have hbx := HG.out.box.kept hgrow HG.out.ne; have hx4 := hbx.cell; have hf4 := hbx.frozen; have X := Lib.hid (And.intro hown hgrow); have hr4 := (Boxed.kept HRB.out hgrow (Boxed.not_row HRB.out (by decide) HG.out.own)); have hrc := Boxed.cell hr4; have hrf := Boxed.frozen hr4; have HR4 := Lib.hid hr4; clear hown hgrow hbx hr4)
  obtain ⟨hown, hgrow⟩ := X.out
  obtain ⟨-, hG2⟩ := Gv.append HG.out HH1.out H13.out HH2.out (by omega) (by omega) hown hgrow
  have hr5 : Boxed (w4.setCell ⟨w1.heap.size, 0, none⟩ (.slice q (cs.length + es.length) k)) (w.heap.size + 1 + 1) 25 (.slice none 0 0) := Boxed.kept HR4.out (grownBy_setCell' w4 w1.heap.size _) (fun e => by injection e with e; omega)
  have hG3 := hG2.setOther hr5 (by omega) (.slice q (cs.length + es.length) k)
  obtain ⟨q', k', e', hA'⟩ := hG3.out (lo := w.heap.size) (by omega)
  injection e' with e1 _ e3
  subst e1 e3
  have hfin : ((w4.setCell ⟨w1.heap.size, 0, none⟩ (.slice q (cs.length + es.length) k)).setCell ⟨w.heap.size + 1 + 1, 0, none⟩ (.slice q (cs.length + es.length) k)).cell? ⟨w.heap.size + 1 + 1, 0, none⟩ = some (.slice q (cs.length + es.length) k) := World.cell?_setCell_same' _ _ _ (by rw [Boxed.cell hr5]; rfl)
  refine bodyPost_ret (v := .agg #[.slice q (cs.length + es.length) k]) (by simp [results, Try.results101, go_sem, hfin]) rfl ?_
  have hB4 : Below w.heap.size w w4 := Below.grown HBd.out hgrow HBd.out.size (fun j hj => Nat.le_trans (by omega) (HG.out.own.lt j hj).1)
  exact ⟨q, cs ++ es, k, by rw [List.map_append, HK1.out, HK2.out], by rw [List.length_append], hA', (hB4.setCell (p := ⟨w1.heap.size, 0, none⟩) (show w.heap.size ≤ w1.heap.size by omega) _).setCell (p := ⟨w.heap.size + 1 + 1, 0, none⟩) (show w.heap.size ≤ w.heap.size + 1 + 1 by omega) _⟩

set_option maxRecDepth 100000 in
set_option maxHeartbeats 4000000 in
theorem specVmapJoin_any (a b : Option Addr) (os ps : List ObjD) (capA capB : Nat) (w : World) (hv : ObjsIn w a os) (hu : ObjsIn w b ps) (hf : ∀ o ∈ os, o.fits) (hg : ∀ o ∈ ps, o.fits) (hp : ∀ o ∈ os, o.plain) (hq : ∀ o ∈ ps, o.plain) (hn : os.length ≤ 1048576) (hm : ps.length ≤ 1048576) (hl : ∀ o ∈ os, o.vers.length ≤ 1048576) (hk : ∀ o ∈ ps, o.vers.length ≤ 1048576) :
    Calls Try.prog 36 #[.agg #[.slice a os.length capA], .agg #[.slice b ps.length capB]] w (VmOutB (joinF (os.map ObjD.kv) (ps.map ObjD.kv)) (joinB (os.map ObjD.kv) (ps.map ObjD.kv)) w) := by
  have HV := Lib.hid hv
  have HU := Lib.hid hu
  have HF := Lib.hid hf
  have HG := Lib.hid hg
  have HP := Lib.hid hp
  have HQ := Lib.hid hq
  have HL := Lib.hid hl
  have HKL := Lib.hid hk
  have hn2 : os.length ≤ maxLen := by unfold maxLen; omega
  have hm2 : ps.length ≤ maxLen := by unfold maxLen; omega
  clear hv hu hf hg hp hq hl hk
  obtain ⟨W1, hW1⟩ : ∃ W1, ((w.alloc (.cells #[.slice a os.length capA] 25)).alloc (.cells #[.slice b ps.length capB] 25)).alloc (.cells #[.slice none 0 0] 25) = W1 := ⟨_, rfl⟩
  have B1 : Below w.heap.size w W1 := by rw [← hW1]; exact (((Below.refl _ _).alloc (Nat.le_refl _) _).alloc (by simp) _).alloc (by simp <;> omega) _
  have z1 : w.heap.size + 3 ≤ W1.heap.size := by rw [← hW1]; simp
  have c0 : W1.cell? ⟨w.heap.size, 0, none⟩ = some (.slice a os.length capA) := by rw [← hW1]; simp [go_sem]
  have d0 : W1.cell? ⟨w.heap.size + 1, 0, none⟩ = some (.slice b ps.length capB) := by rw [← hW1]; simp [go_sem]
  have r0 : W1.cell? ⟨w.heap.size + 1 + 1, 0, none⟩ = some (.slice none 0 0) := by rw [← hW1]; simp [go_sem]
  have fr0 : W1.frozen? ⟨w.heap.size + 1 + 1, 0, none⟩ = false := by rw [← hW1]; simp [go_sem]
  have HB1 := Lib.hid B1
  clear B1
  go_enter Try.func36, Try.ntmps36
  go_wp2_with fail
  clear hW1
  refine (l2Join_any a b os ps capA capB _ (HV.out.below HB1.out) (HU.out.below HB1.out) HP.out HQ.out hn hm HL.out HKL.out).mono ?_
  rintro e w1 ⟨p, cs, c, hkv, rfl, hat, hb1⟩
  obtain ⟨W2, hW2⟩ : ∃ W2, w1.alloc (.cells #[.slice p cs.length c] 25) = W2 := ⟨_, rfl⟩
  have hb2 : Below w1.heap.size w1 W2 := by rw [← hW2]; exact (Below.refl _ _).alloc (Nat.le_refl _) _
  have hb12 : Below W1.heap.size W1 W2 := hb1.trans (hb2.mono hb1.size)
  have o0 : W2.cell? ⟨w1.heap.size, 0, none⟩ = some (.slice p cs.length c) := by rw [← hW2]; simp [go_sem]
  have c0 := (hb12.cell (p := ⟨w.heap.size, 0, none⟩) (show w.heap.size < W1.heap.size by omega)).trans c0
  have d0 := (hb12.cell (p := ⟨w.heap.size + 1, 0, none⟩) (show w.heap.size + 1 < W1.heap.size by omega)).trans d0
  have r0 := (hb12.cell (p := ⟨w.heap.size + 1 + 1, 0, none⟩) (show w.heap.size + 1 + 1 < W1.heap.size by omega)).trans r0
  have fr0 := (hb12.frozen (p := ⟨w.heap.size + 1 + 1, 0, none⟩) (show w.heap.size + 1 + 1 < W1.heap.size by omega)).trans fr0
  have s1 := hb1.size
  have s2 : w1.heap.size < W2.heap.size := by rw [← hW2]; simp
  have HK := Lib.hid hkv
  have HA := Lib.hid (hat.below hb2)
  have HB2 := Lib.hid (HB1.out.trans (hb12.mono HB1.out.size))
  have HCL := Lib.hid (show cs.length = os.length + ps.length by simpa using congrArg List.length hkv)
  have HCF := Lib.hid (fits_of_kv hkv (fun q hq => (List.mem_append.1 hq).elim (kvFits_of HF.out q) (kvFits_of HG.out q)))
  clear hkv hat hb1 hb2 hb12
  go_wp2_with fail
  clear hW2
  refine (l2Ok_any a os capA _ (HV.out.below HB2.out) HF.out hn2).mono ?_
  rintro e w2 ⟨r, rfl, hr, hb⟩
  have HRa := Lib.hid hr
  have d0 := (hb.cell (p := ⟨w.heap.size + 1, 0, none⟩) (show w.heap.size + 1 < W2.heap.size by omega)).trans d0
  have r0 := (hb.cell (p := ⟨w.heap.size + 1 + 1, 0, none⟩) (show w.heap.size + 1 + 1 < W2.heap.size by omega)).trans r0
  have fr0 := (hb.frozen (p := ⟨w.heap.size + 1 + 1, 0, none⟩) (show w.heap.size + 1 + 1 < W2.heap.size by omega)).trans fr0
  have o0 := (hb.cell (p := ⟨w1.heap.size, 0, none⟩) s2).trans o0
  have s3 := hb.size
  have s4 : w.heap.size + 1 + 1 < w2.heap.size := by omega
  have HA := Lib.hid (HA.out.below hb)
  have HB3 := Lib.hid (HB2.out.trans (hb.mono HB2.out.size))
  clear hr hb
  cases r
  · go_wp2_with fail
    refine bodyPost_ret (v := .tuple #[.agg #[.slice none 0 0], .bool false]) (by simp [results, Try.results36, go_sem, *]) rfl ?_
    have hno : ¬ KvOk (os.map ObjD.kv ++ ps.map ObjD.kv) := fun h => absurd (HRa.out.2 ((mapOk_kv os).2 h.left)) (by decide)
    exact ⟨none, [], 0, by rw [joinF, if_neg hno]; rfl, (joinB_no hno).symm ▸ rfl, VmAt.nil _ _ _ (by simp), HB3.out.setCell (p := ⟨w.heap.size + 1 + 1, 0, none⟩) (by simp <;> omega) _⟩
  go_wp2_with fail
  refine (l2Ok_any b ps capB _ (HU.out.below HB3.out) HG.out hm2).mono ?_
  rintro e w3 ⟨r, rfl, hr, hb⟩
  have HRb := Lib.hid hr
  have r0 := (hb.cell (p := ⟨w.heap.size + 1 + 1, 0, none⟩) (show w.heap.size + 1 + 1 < w2.heap.size by omega)).trans r0
  have fr0 := (hb.frozen (p := ⟨w.heap.size + 1 + 1, 0, none⟩) (show w.heap.size + 1 + 1 < w2.heap.size by omega)).trans fr0
  have o0 := (hb.cell (p := ⟨w1.heap.size, 0, none⟩) (show w1.heap.size < w2.heap.size by omega)).trans o0
  have s5 := hb.size
  have s6 : w.heap.size + 1 + 1 < w3.heap.size := by omega
  have HA := Lib.hid (HA.out.below hb)
  have HB4 := Lib.hid (HB3.out.trans (hb.mono HB3.out.size))
  clear hr hb
  cases r
  · go_wp2_with fail
    refine bodyPost_ret (v := .tuple #[.agg #[.slice none 0 0], .bool false]) (by simp [results, Try.results36, go_sem, *]) rfl ?_
    have hno : ¬ KvOk (os.map ObjD.kv ++ ps.map ObjD.kv) := fun h => absurd (HRb.out.2 ((mapOk_kv ps).2 h.right)) (by decide)
    exact ⟨none, [], 0, by rw [joinF, if_neg hno]; rfl, (joinB_no hno).symm ▸ rfl, VmAt.nil _ _ _ (by simp), HB4.out.setCell (p := ⟨w.heap.size + 1 + 1, 0, none⟩) (by simp <;> omega) _⟩
  go_wp2_with fail
  refine (l2Ok_any p cs c _ HA.out.in1 HCF.out (by have := HCL.out; unfold maxLen; omega)).mono ?_
  rintro e w4 ⟨r, rfl, hr, hb⟩
  have HRc := Lib.hid hr
  have r0 := (hb.cell (p := ⟨w.heap.size + 1 + 1, 0, none⟩) (show w.heap.size + 1 + 1 < w3.heap.size by omega)).trans r0
  have fr0 := (hb.frozen (p := ⟨w.heap.size + 1 + 1, 0, none⟩) (show w.heap.size + 1 + 1 < w3.heap.size by omega)).trans fr0
  have o0 := (hb.cell (p := ⟨w1.heap.size, 0, none⟩) (show w1.heap.size < w3.heap.size by omega)).trans o0
  have s7 := hb.size
  have s8 : w.heap.size + 1 + 1 < w4.heap.size := by omega
  have HA := Lib.hid (HA.out.below hb)
  have HB5 := Lib.hid (HB4.out.trans (hb.mono HB4.out.size))
  clear hr hb
  cases r
  · go_wp2_with fail
    refine bodyPost_ret (v := .tuple #[.agg #[.slice none 0 0], .bool false]) (by simp [results, Try.results36, go_sem, *]) rfl ?_
    have hno : ¬ KvOk (os.map ObjD.kv ++ ps.map ObjD.kv) := fun h => absurd (HRc.out.2 ((mapOk_kv cs).2 (by rw [HK.out]; exact h))) (by decide)
    exact ⟨none, [], 0, by rw [joinF, if_neg hno]; rfl, (joinB_no hno).symm ▸ rfl, VmAt.nil _ _ _ (by simp), HB5.out.setCell (p := ⟨w.heap.size + 1 + 1, 0, none⟩) (by simp <;> omega) _⟩
  · go_wp2_with fail
    refine bodyPost_ret (v := .tuple #[.agg #[.slice p cs.length c], .bool true]) (by simp [results, Try.results36, go_sem, *]) rfl ?_
    have hyes : KvOk (os.map ObjD.kv ++ ps.map ObjD.kv) := by rw [← HK.out]; exact (mapOk_kv cs).1 (HRc.out.1 (by simp))
    refine ⟨p, cs, c, by rw [joinF, if_pos hyes]; exact HK.out, (joinB_yes hyes).symm ▸ rfl, ?_, HB5.out.setCell (p := ⟨w.heap.size + 1 + 1, 0, none⟩) (by simp <;> omega) _⟩
    exact (HA.out.turned (S := fun b => b = w.heap.size + 1 + 1) (fun b h1 h2 e => by omega) ((Turned.refl (fun b => b = w.heap.size + 1 + 1) _).setCell (p := ⟨w.heap.size + 1 + 1, 0, none⟩) rfl _)).lower (by omega)
end Go.Proofs.Ytjijichgoodocaa
