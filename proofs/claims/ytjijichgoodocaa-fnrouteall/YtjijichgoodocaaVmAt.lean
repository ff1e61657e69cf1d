/- Maps in memory that belongs to a call: where their objects and versions lie, copies, equality, marks. -/
import Derived.Test.YtjijichgoodocaaMkVer
namespace Go.Proofs.Ytjijichgoodocaa
open Go.RowKit

/-- Its versions lie in a block, or there are none and the slice is nil. -/
def PlainV (a : Option Addr) (vs : List VerD) (cap : Nat) : Prop := ((∃ b off, a = some ⟨b, off, none⟩) ∨ a = none ∧ vs = [] ∧ cap = 0) ∧ vs.length ≤ cap ∧ cap ≤ maxLen
def ObjD.plain (o : ObjD) : Prop := PlainV o.at_ o.vers o.cap
structure VmAt (w : World) (lo hi : Nat) (a : Option Addr) (os : List ObjD) : Prop where
  in1 : ObjsIn w a os
  fr1 : Free w a (os.length * 2)
  l1 : Lies lo hi a
  le : hi ≤ w.heap.size
  fr2 : ∀ o ∈ os, Free w o.at_ (o.vers.length * 3)
  l2 : ∀ o ∈ os, Lies lo hi o.at_
  ap1 : ∀ o ∈ os, Apart a o.at_
  ap2 : os.Pairwise fun x y => Apart x.at_ y.at_
  pl : ∀ o ∈ os, o.plain
theorem VmAt.below {w w' : World} {lo hi : Nat} {a : Option Addr} {os : List ObjD} (h : VmAt w lo hi a os) (hb : Below w.heap.size w w') : VmAt w' lo hi a os :=
  ⟨h.in1.below hb, h.fr1.below hb, h.l1, Nat.le_trans h.le hb.size, fun o ho => (h.fr2 o ho).below hb, h.l2, h.ap1, h.ap2, h.pl⟩
theorem VmAt.turned {S : Nat → Prop} {w w' : World} {lo hi : Nat} {a : Option Addr} {os : List ObjD} (h : VmAt w lo hi a os) (hS : ∀ b, lo ≤ b → b < hi → ¬ S b) (ht : Turned S w w') : VmAt w' lo hi a os :=
  ⟨h.in1.turned (h.l1.off hS) (fun o ho => (h.l2 o ho).off hS) ht, h.fr1.turned (h.l1.off hS) ht, h.l1, Nat.le_trans h.le ht.size, fun o ho => (h.fr2 o ho).turned ((h.l2 o ho).off hS) ht, h.l2, h.ap1, h.ap2, h.pl⟩
theorem VmAt.drewAt {w : World} {lo hi : Nat} {a : Option Addr} {os : List ObjD} (h : VmAt w lo hi a os) : VmAt w.drew lo hi a os := ⟨h.in1, h.fr1, h.l1, h.le, h.fr2, h.l2, h.ap1, h.ap2, h.pl⟩
theorem VmAt.nil (w : World) (lo hi : Nat) (h : hi ≤ w.heap.size) : VmAt w lo hi none [] := ⟨.inl rfl, .inl rfl, (fun b off e => by cases e), h, (fun o ho => by cases ho), (fun o ho => by cases ho), (fun o ho => by cases ho), .nil, (fun o ho => by cases ho)⟩
theorem VmAt.lower {w : World} {lo lo' hi : Nat} {a : Option Addr} {os : List ObjD} (h : VmAt w lo hi a os) (hl : lo' ≤ lo) : VmAt w lo' w.heap.size a os :=
  ⟨h.in1, h.fr1, h.l1.mono hl h.le, Nat.le_refl _, h.fr2, fun o ho => (h.l2 o ho).mono hl h.le, h.ap1, h.ap2, h.pl⟩

/-- What a map holds, wherever it lies. -/
abbrev Kv := ByteArray × List VerD
def ObjD.kv (o : ObjD) : Kv := (o.key, o.vers)
theorem same_of_kv {xs ys : List ObjD} (h : xs.map ObjD.kv = ys.map ObjD.kv) : SameObjs xs ys := by
  have hl : xs.length = ys.length := by simpa using congrArg List.length h
  refine ⟨hl, fun i hi hk => ?_⟩
  have := List.getElem_of_eq h (i := i) (by simpa using hi)
  simp only [List.getElem_map] at this
  exact ⟨congrArg Prod.fst this, congrArg Prod.snd this⟩
theorem kv_of_same {xs ys : List ObjD} (h : SameObjs xs ys) : xs.map ObjD.kv = ys.map ObjD.kv := by
  apply List.ext_getElem
  · simpa using h.1
  · intro i h1 h2
    simp only [List.getElem_map]
    obtain ⟨e1, e2⟩ := h.2 i (by simpa using h1) (by simpa using h2)
    exact Prod.ext e1 e2

def VmOut (kvs : List Kv) (w : World) (e : Ending) (w' : World) : Prop :=
  ∃ a cs c, cs.map ObjD.kv = kvs ∧ e = .returned (.agg #[.slice a cs.length c]) ∧ VmAt w' w.heap.size w'.heap.size a cs ∧ Below w.heap.size w w'
/-- .. beside a bool. -/
def VmOutB (kvs : List Kv) (r : Bool) (w : World) (e : Ending) (w' : World) : Prop :=
  ∃ a cs c, cs.map ObjD.kv = kvs ∧ e = .returned (.tuple #[.agg #[.slice a cs.length c], .bool r]) ∧ VmAt w' w.heap.size w'.heap.size a cs ∧ Below w.heap.size w w'

/-! ### Copies -/
structure ObjRowF (g : Nat) (os : List ObjD) (bs : List Nat) (u : World) : Prop where
  up : (g :: bs).Pairwise (· < ·)
  lt : ∀ b ∈ bs, b < u.heap.size
  at1 : ∀ i (h : i < bs.length) (h' : i < os.length), u.cell? ⟨g, i * 2, none⟩ = some (.string os[i].key) ∧ u.cell? ⟨g, i * 2 + 1, none⟩ = some (.slice (some ⟨bs[i], 0, none⟩) os[i].vers.length os[i].vers.length) ∧ VersIn u (some ⟨bs[i], 0, none⟩) os[i].vers ∧ Free u (some ⟨bs[i], 0, none⟩) (os[i].vers.length * 3)
theorem ObjRowF.below {g : Nat} {os : List ObjD} {bs : List Nat} {u v : World} (h : ObjRowF g os bs u) (hg : g < u.heap.size) (hb : Below u.heap.size u v) : ObjRowF g os bs v :=
  ⟨h.up, fun b hm => Nat.lt_of_lt_of_le (h.lt b hm) hb.size, fun i hi hk => by
    obtain ⟨h3, h4, h5, h6⟩ := h.at1 i hi hk
    exact ⟨(hb.cell (p := ⟨g, i * 2, none⟩) hg).trans h3, (hb.cell (p := ⟨g, i * 2 + 1, none⟩) hg).trans h4, h5.below hb, h6.below hb⟩⟩
theorem Free.setV {u : World} {b g o n : Nat} {x : Value} (h : Free u (some ⟨b, 0, none⟩) n) (hg : g ≠ b) : Free (u.setCell ⟨g, o, none⟩ x) (some ⟨b, 0, none⟩) n :=
  h.turned (S := fun k => k = g) (fun b' off e k => hg (by cases e; exact k.symm)) ((Turned.refl (fun k => k = g) u).setCell (p := ⟨g, o, none⟩) rfl x)
theorem ObjRowF.step {g b : Nat} {os : List ObjD} {bs : List Nat} {u : World} (h : ObjRowF g os bs u) (hr : Row g (os.length * 2) u) (hk : bs.length < os.length) (hb : ∀ c ∈ g :: bs, c < b) (hbl : b < u.heap.size) (hv : VersIn u (some ⟨b, 0, none⟩) os[bs.length].vers) (hf : Free u (some ⟨b, 0, none⟩) (os[bs.length].vers.length * 3)) :
    ObjRowF g os (bs ++ [b]) ((u.setCell ⟨g, bs.length * 2, none⟩ (.string os[bs.length].key)).setCell ⟨g, bs.length * 2 + 1, none⟩ (.slice (some ⟨b, 0, none⟩) os[bs.length].vers.length os[bs.length].vers.length)) := by
  refine ⟨?_, ?_, ?_⟩
  · rw [← List.cons_append, List.pairwise_append]
    exact ⟨h.up, List.pairwise_singleton _ _, fun x hx y hy => by rw [List.mem_singleton] at hy; subst hy; exact hb x hx⟩
  · intro c hc
    rcases List.mem_append.1 hc with hc | hc
    · simpa using h.lt c hc
    · rw [List.mem_singleton] at hc; subst hc; simpa using hbl
  · intro i hi hi'
    have hlen : (bs ++ [b]).length = bs.length + 1 := by simp
    by_cases e : i = bs.length
    · subst e
      obtain ⟨v0, h0⟩ := (hr.2 (bs.length * 2) (by omega)).1
      obtain ⟨v1, h1⟩ := (hr.2 (bs.length * 2 + 1) (by omega)).1
      have hgb : g ≠ b := Nat.ne_of_lt (hb g (by simp))
      have hx : (bs ++ [b])[bs.length]'hi = b := by simp
      rw [hx]
      refine ⟨?_, ?_, (hv.set hgb).set hgb, (hf.setV hgb).setV hgb⟩
      · rw [cell_off (by omega)]; exact World.cell?_setCell_same _ _ _ h0
      · exact World.cell?_setCell_same _ _ _ (u := v1) (by rw [cell_off (by omega)]; exact h1)
    · have hi2 : i < bs.length := by omega
      obtain ⟨c0, c1, q5, q6⟩ := h.at1 i hi2 hi'
      have hx : (bs ++ [b])[i]'hi = bs[i] := List.getElem_append_left hi2
      have hgb : g ≠ bs[i] := Nat.ne_of_lt ((List.pairwise_cons.1 h.up).1 _ (List.getElem_mem hi2))
      rw [hx]
      refine ⟨?_, ?_, (q5.set hgb).set hgb, (q6.setV hgb).setV hgb⟩
      · rw [cell_off (by omega), cell_off (by omega)]; exact c0
      · rw [cell_off (by omega), cell_off (by omega)]; exact c1
def copyObj (o : ObjD) (b : Nat) : ObjD := ⟨o.key, some ⟨b, 0, none⟩, o.vers.length, o.vers⟩
/-- A full row of copies is a map of its own. -/
theorem ObjRowF.out {g lo : Nat} {os : List ObjD} {bs : List Nat} {u : World} (h : ObjRowF g os bs u) (hr : Row g (os.length * 2) u) (hl : bs.length = os.length) (hlo : lo ≤ g) (hm : ∀ o ∈ os, o.vers.length ≤ 1048576) :
    ∃ cs : List ObjD, cs.length = os.length ∧ cs.map ObjD.kv = os.map ObjD.kv ∧ VmAt u lo u.heap.size (some ⟨g, 0, none⟩) cs := by
  have hcl : (List.zipWith copyObj os bs).length = os.length := by simp [hl]
  have hmem : ∀ o ∈ List.zipWith copyObj os bs, ∃ i, ∃ (h1 : i < os.length) (h2 : i < bs.length), o = copyObj os[i] bs[i] := fun o ho => by
    obtain ⟨i, hi, rfl⟩ := List.getElem_of_mem ho
    exact ⟨i, by omega, by omega, by rw [List.getElem_zipWith]⟩
  have hup : ∀ i (h2 : i < bs.length), g < bs[i] := fun i h2 => (List.pairwise_cons.1 h.up).1 _ (List.getElem_mem h2)
  refine ⟨List.zipWith copyObj os bs, hcl, ?_, ?_, ?_, ?_, Nat.le_refl _, ?_, ?_, ?_, ?_, ?_⟩
  · apply List.ext_getElem
    · simp [hl]
    · intro i h1 h2
      simp [copyObj, ObjD.kv]
  · refine .inr ⟨g, 0, rfl, hr.1, fun i hi => ?_⟩
    obtain ⟨c0, c1, c2, c3⟩ := h.at1 i (by omega) (by omega)
    simp only [List.getElem_zipWith, copyObj, Nat.zero_add]
    exact ⟨c0, c1, c2⟩
  · refine .inr ⟨g, 0, rfl, hr.1, fun i hi => ?_⟩
    rw [hcl] at hi
    rw [Nat.zero_add]
    exact hr.2 i hi
  · intro b off e; cases e; exact ⟨hlo, hr.1⟩
  · intro o ho
    obtain ⟨i, h1, h2, rfl⟩ := hmem o ho
    exact (h.at1 i h2 h1).2.2.2
  · intro o ho b off e
    obtain ⟨i, h1, h2, rfl⟩ := hmem o ho
    simp only [copyObj] at e
    cases e
    exact ⟨Nat.le_of_lt (Nat.lt_of_le_of_lt hlo (hup i h2)), h.lt _ (List.getElem_mem h2)⟩
  · intro o ho x p y q e1 e2
    obtain ⟨i, h1, h2, rfl⟩ := hmem o ho
    simp only [copyObj] at e2
    cases e1; cases e2
    exact Nat.ne_of_lt (hup i h2)
  · rw [List.pairwise_iff_getElem]
    intro i j hi hj hij x p y q e1 e2
    simp only [List.getElem_zipWith, copyObj] at e1 e2
    cases e1; cases e2
    exact Nat.ne_of_lt ((List.pairwise_iff_getElem.1 (List.pairwise_cons.1 h.up).2) i j (by omega) (by omega) hij)
  · intro o ho
    obtain ⟨i, h1, h2, rfl⟩ := hmem o ho
    have := hm _ (List.getElem_mem h1)
    exact ⟨.inl ⟨_, _, rfl⟩, Nat.le_refl _, by show os[i].vers.length ≤ maxLen; unfold maxLen; omega⟩

def ToObjF (o : ObjD) (w : World) (e : Ending) (w' : World) : Prop :=
  ∃ b, w.heap.size ≤ b ∧ b < w'.heap.size ∧ e = .returned (.agg #[.string o.key, .slice (some ⟨b, 0, none⟩) o.vers.length o.vers.length]) ∧ VersIn w' (some ⟨b, 0, none⟩) o.vers ∧ Free w' (some ⟨b, 0, none⟩) (o.vers.length * 3) ∧ Below w.heap.size w w'

set_option maxHeartbeats 1000000 in
theorem toObj_free (o : ObjD) (w : World) (hv : VersIn w o.at_ o.vers) (hn : o.vers.length ≤ 1048576) :
    Calls Try.prog 170 #[.agg #[.string o.key, .slice o.at_ o.vers.length o.cap]] w (ToObjF o w) := by
  have HV := Lib.hid hv
  clear hv
  go_enter Try.func170, Try.ntmps170
  go_wp2_with fail
  with_reducible refine (toVerS_free _ _ _ _ ?hv hn).mono ?_
  case hv => exact HV.out.below ((((Below.refl _ _).alloc (Nat.le_refl _) _).alloc (by simp) _).alloc (by simp; omega) _)
  rintro e w2 ⟨rfl, hvs, hfr, hb2, hlt2⟩
  have HS := Lib.hid hvs
  have HQ := Lib.hid hfr
  have HL := Lib.hid hlt2
  clear hvs hfr hlt2
  have c20 := hb2.cell (p := ⟨w.heap.size + 1 + 1, 0, none⟩) (by simp)
  have c21 := hb2.cell (p := ⟨w.heap.size + 1 + 1, 1, none⟩) (by simp)
  have c10 := hb2.cell (p := ⟨w.heap.size + 1, 0, none⟩) (by simp)
  have c11 := hb2.cell (p := ⟨w.heap.size + 1, 1, none⟩) (by simp)
  have f20 := hb2.frozen (p := ⟨w.heap.size + 1 + 1, 0, none⟩) (by simp)
  have f21 := hb2.frozen (p := ⟨w.heap.size + 1 + 1, 1, none⟩) (by simp)
  have f10 := hb2.frozen (p := ⟨w.heap.size + 1, 0, none⟩) (by simp)
  have f11 := hb2.frozen (p := ⟨w.heap.size + 1, 1, none⟩) (by simp)
  have HZ := Lib.hid hb2
  clear hb2
  simp [go_sem] at c20 c21 c10 c11 f20 f21 f10 f11
  go_wp2_with fail
  have HB := Lib.hid ((((Below.refl w.heap.size w).alloc (Nat.le_refl _) _).alloc (by simp) _).alloc (by simp; omega) _ |>.trans (HZ.out.mono (by simp; omega)))
  have HS' := HS.out
  have HQ' := HQ.out
  have HL' := HL.out
  simp only [World.size_alloc] at HS' HQ' HL'
  exact bodyPost_ret (v := .agg #[.string o.key, .slice (some ⟨w.heap.size + 1 + 1 + 1, 0, none⟩) o.vers.length o.vers.length]) (by simp [results, Try.results170, go_sem, c10, c11]) rfl
    ⟨w.heap.size + 1 + 1 + 1, by omega, by simpa using HL', rfl, ((HS'.set (by omega)).set (by omega)).set (by omega), ((HQ'.setV (by omega)).setV (by omega)).setV (by omega), ((HB.out.setCell (p := ⟨w.heap.size + 1 + 1, 1, none⟩) (by simp; omega) _).setCell (p := ⟨w.heap.size + 1, 0, none⟩) (by simp) _).setCell (p := ⟨w.heap.size + 1, 1, none⟩) (by simp) _⟩

def ToObjsF (os : List ObjD) (w : World) (e : Ending) (w' : World) : Prop :=
  ∃ cs : List ObjD, cs.length = os.length ∧ cs.map ObjD.kv = os.map ObjD.kv ∧ e = .returned (.slice (some ⟨w.heap.size, 0, none⟩) os.length os.length) ∧ VmAt w' w.heap.size w'.heap.size (some ⟨w.heap.size, 0, none⟩) cs ∧ Below w.heap.size w w'

set_option maxHeartbeats 2000000 in
theorem toObjS_free (a : Option Addr) (os : List ObjD) (cap : Nat) (w : World) (hv : ObjsIn w a os) (hn : os.length ≤ 1048576) (hf : ∀ o ∈ os, o.vers.length ≤ 1048576) :
    Calls Try.prog 128 #[.slice a os.length cap] w (ToObjsF os w) := by
  have HV := Lib.hid hv
  have HF := Lib.hid hf
  clear hv hf
  have hmk := run_make_objs os.length hn
  go_enter Try.func128, Try.ntmps128
  go_wp2_with fail
  go_loopw [4] (fun i wr => ∃ bs : List Nat, bs.length ≤ os.length ∧ i = .int .i64 bs.length ∧ Below w.heap.size w wr ∧ Row w.heap.size (os.length * 2) wr ∧ ObjRowF w.heap.size os bs wr) (fun i _ => os.length - (intOf i).toNat)
  case atStart => exact ⟨[], Nat.zero_le _, rfl, (Below.refl _ _).alloc (Nat.le_refl _) _, Row.made _ _ _ w, ⟨List.pairwise_singleton _ _, (fun b h => by cases h), fun i h => absurd h (by simp)⟩⟩
  case round =>
    obtain ⟨bs, hk, rfl, hB, hR, hP⟩ := hrel
    have HW := Lib.hid hB
    have HR := Lib.hid hR
    have HP := Lib.hid hP
    clear hB hR hP hmk
    by_cases hlt : bs.length < os.length
    · rcases HV.out.below HW.out with hnil | ⟨b1, o1, rfl, hb1, hc1⟩
      · rw [hnil] at hlt; simp at hlt
      obtain ⟨c0, c1, c2⟩ := hc1 bs.length hlt
      have C2 := Lib.hid c2
      clear hc1 c2
      go_wp2_with fail
      with_reducible refine (toObj_free os[bs.length] _ C2.out (HF.out _ (List.getElem_mem hlt))).mono ?_
      rintro e w2 ⟨b, hb, hbl, rfl, hvs, hfs, hw2⟩
      have HS := Lib.hid hvs
      have HQ := Lib.hid hfs
      have hgb : ∀ c ∈ w.heap.size :: bs, c < b := fun c hc => by
        rcases List.mem_cons.1 hc with rfl | hc
        · exact Nat.lt_of_lt_of_le HR.out.1 hb
        · exact Nat.lt_of_lt_of_le (HP.out.lt c hc) hb
      have HG := Lib.hid hgb
      have HR2 := Lib.hid (HR.out.below hw2)
      have HP2 := Lib.hid (HP.out.below HR.out.1 hw2)
      have HW2 := Lib.hid (HW.out.trans (hw2.mono HW.out.size))
      obtain ⟨v0, d0⟩ := (HR2.out.2 (bs.length * 2) (by omega)).1
      obtain ⟨v1, d1⟩ := (HR2.out.2 (bs.length * 2 + 1) (by omega)).1
      have f0 := (HR2.out.2 (bs.length * 2) (by omega)).2
      have f1 := (HR2.out.2 (bs.length * 2 + 1) (by omega)).2
      clear hvs hfs hw2 c0 c1 hb hgb
      go_wp2_with fail
      go_roundw
      case rel => exact ⟨bs ++ [b], by simp; omega, by simp <;> go_num, (HW2.out.setCell (p := ⟨w.heap.size, bs.length * 2, none⟩) (Nat.le_refl _) _).setCell (p := ⟨w.heap.size, bs.length * 2 + 1, none⟩) (Nat.le_refl _) _, (HR2.out.set).set, HP2.out.step HR2.out hlt HG.out hbl HS.out HQ.out⟩
      case measure => simp [intOf]; omega
    · go_wp2_with fail
      go_ret
      obtain ⟨cs, h1, h2, h3⟩ := HP.out.out HR.out (by omega) (Nat.le_refl _) HF.out
      exact ⟨cs, h1, h2, rfl, h3, HW.out⟩

set_option maxHeartbeats 2000000 in
theorem toVmap_at (a : Option Addr) (os : List ObjD) (cap : Nat) (w : World) (hv : ObjsIn w a os) (hn : os.length ≤ 1048576) (hf : ∀ o ∈ os, o.vers.length ≤ 1048576) :
    Calls Try.prog 65 #[.agg #[.slice a os.length cap]] w (VmOut (os.map ObjD.kv) w) := by
  have HV := Lib.hid hv
  have HF := Lib.hid hf
  clear hv hf
  obtain ⟨W1, hW1⟩ : ∃ W1, ((w.alloc (.cells #[.slice a os.length cap] 103)).alloc (.cells #[.slice none 0 0] 25)).alloc (.cells #[.slice none 0 0] 25) = W1 := ⟨_, rfl⟩
  have B1 : Below w.heap.size w W1 := by rw [← hW1]; exact (((Below.refl _ _).alloc (Nat.le_refl _) _).alloc (by simp) _).alloc (by simp <;> omega) _
  have z1 : W1.heap.size = w.heap.size + 3 := by rw [← hW1]; simp
  have a0 : W1.cell? ⟨w.heap.size, 0, none⟩ = some (.slice a os.length cap) := by rw [← hW1]; simp [go_sem]
  have p0 : W1.cell? ⟨w.heap.size + 1, 0, none⟩ = some (.slice none 0 0) := by rw [← hW1]; simp [go_sem]
  have r0 : W1.cell? ⟨w.heap.size + 1 + 1, 0, none⟩ = some (.slice none 0 0) := by rw [← hW1]; simp [go_sem]
  have fp0 : W1.frozen? ⟨w.heap.size + 1, 0, none⟩ = false := by rw [← hW1]; simp [go_sem]
  have fr0 : W1.frozen? ⟨w.heap.size + 1 + 1, 0, none⟩ = false := by rw [← hW1]; simp [go_sem]
  go_enter Try.func65, Try.ntmps65
  go_wp2_with fail
  clear hW1
  with_reducible refine (toObjS_free _ _ _ _ (HV.out.below B1) hn HF.out).mono ?_
  rintro e w2 ⟨cs, hcl, hkv, rfl, hat, hb2⟩
  have p0x := (hb2.cell (p := ⟨w.heap.size + 1, 0, none⟩) (show w.heap.size + 1 < W1.heap.size by omega)).trans p0
  have r0x := (hb2.cell (p := ⟨w.heap.size + 1 + 1, 0, none⟩) (show w.heap.size + 1 + 1 < W1.heap.size by omega)).trans r0
  have fp0x := (hb2.frozen (p := ⟨w.heap.size + 1, 0, none⟩) (show w.heap.size + 1 < W1.heap.size by omega)).trans fp0
  have fr0x := (hb2.frozen (p := ⟨w.heap.size + 1 + 1, 0, none⟩) (show w.heap.size + 1 + 1 < W1.heap.size by omega)).trans fr0
  have E2 := Lib.hid (B1.trans (hb2.mono (by omega)))
  have HA := Lib.hid hat
  have HK := Lib.hid hkv
  have HC := Lib.hid hcl
  have hz : W1.heap.size ≤ w2.heap.size := hb2.size
  clear hb2 B1 hat hkv hcl a0 p0 r0 fp0 fr0
  go_wp2_with fail
  have hT : ∀ {u : World}, VmAt u W1.heap.size w2.heap.size (some ⟨W1.heap.size, 0, none⟩) cs → ∀ (b : Nat) (x : Value), b < W1.heap.size → VmAt (u.setCell ⟨b, 0, none⟩ x) W1.heap.size w2.heap.size (some ⟨W1.heap.size, 0, none⟩) cs := fun h b x hb =>
    h.turned (S := fun k => k = b) (fun c h1 h2 e => by omega) ((Turned.refl (fun k => k = b) _).setCell (p := ⟨b, 0, none⟩) rfl x)
  refine bodyPost_ret (v := .agg #[.slice (some ⟨W1.heap.size, 0, none⟩) os.length os.length]) (by simp [results, Try.results65, go_sem, *]) rfl ?_
  have hA2 := hT (hT HA.out (w.heap.size + 1 + 1) (.slice (some ⟨W1.heap.size, 0, none⟩) os.length os.length) (by omega)) (w.heap.size + 1) (.slice (some ⟨W1.heap.size, 0, none⟩) os.length os.length) (by omega)
  refine ⟨some ⟨W1.heap.size, 0, none⟩, cs, os.length, HK.out, by rw [HC.out], ?_, (E2.out.setCell (p := ⟨w.heap.size + 1 + 1, 0, none⟩) (by simp <;> omega) _).setCell (p := ⟨w.heap.size + 1, 0, none⟩) (by simp <;> omega) _⟩
  have h9 := hA2.lower (lo' := w.heap.size) (by omega)
  rw [z1] at h9 ⊢
  exact h9

/-! ### Equality -/
theorem eqVmap_at {a b : Option Addr} {xs ys : List ObjD} {k l lo hi lo' hi' : Nat} {w : World} (ha : VmAt w lo hi a xs) (hb : VmAt w lo' hi' b ys) (hs : xs.map ObjD.kv = ys.map ObjD.kv) (hf : ∀ o ∈ xs, o.fits) (hn : xs.length ≤ maxLen) :
    Calls Try.prog 67 #[.agg #[.slice a xs.length k], .agg #[.slice b ys.length l]] w fun e w' => e = .returned (.bool true) ∧ Below w.heap.size w w' := by
  have e : ys.length = xs.length := by simpa using (congrArg List.length hs).symm
  rw [e]
  exact eqVmap_same a b xs ys k l _ w ha.in1 hb.in1 (same_of_kv hs) rfl hf hn
end Go.Proofs.Ytjijichgoodocaa
