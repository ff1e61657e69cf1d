/- Two maps, one behind the other, the program's functions. -/
import Derived.Test.YtjijichgoodocaaWithin2
import Derived.Test.YtjijichgoodocaaPutV
import Derived.Test.YtjijichgoodocaaLawV
namespace Go.Proofs.Ytjijichgoodocaa
open Go.RowKit

theorem joinB_noI {xs bs : List Kv} (h : ¬ KvOk (xs ++ bs)) : joinB xs bs = false := by unfold joinB; simp [h]
theorem joinB_yesI {xs bs : List Kv} (h : KvOk (xs ++ bs)) : joinB xs bs = true := by unfold joinB; simp [h]
theorem nilV_toList : (⟨#[]⟩ : ByteArray).toList = [] := by first | rfl | simp | (unfold ByteArray.toList ByteArray.toList.loop; rfl) | (unfold ByteArray.toList; unfold ByteArray.toList.loop; simp) | decide +kernel
theorem fieldVm (p : Option Addr) (n c : Nat) (w : World) : (Instr.field 25 (.agg #[.slice p n c]) 0).run Try.prog w = .ok (.slice p n c) w := by first | kernel_rfl | rfl | (simp [Instr.field, go_sem]; done)
theorem hasB_all (k : ByteArray) : hasB ⟨#[]⟩ ⟨#[]⟩ k = true := by
  have h : ∀ l : List UInt8, Op.bytesLess l [] = false := fun l => by cases l <;> rfl
  have e := nilV_toList
  unfold hasB
  rw [e, h]
  simp

set_option maxHeartbeats 1000000 in
theorem copied_any (a : Option Addr) (os : List ObjD) (cap : Nat) (w : World) (hv : ObjsIn w a os) (hp : ∀ o ∈ os, o.plain) (hn : os.length ≤ 1048576) (hl : ∀ o ∈ os, o.vers.length ≤ 1048576) :
    Calls Try.prog 76 #[.agg #[.slice a os.length cap]] w (VmOut (os.map ObjD.kv) w) := by
  have HV := Lib.hid hv
  have HP := Lib.hid hp
  have HL := Lib.hid hl
  clear hv hp hl
  obtain ⟨W1, hW1⟩ : ∃ W1, (w.alloc (.cells #[.slice a os.length cap] 25)).alloc (.cells #[.slice none 0 0] 25) = W1 := ⟨_, rfl⟩
  have B1 : Below w.heap.size w W1 := by rw [← hW1]; exact ((Below.refl _ _).alloc (Nat.le_refl _) _).alloc (by simp) _
  have z1 : w.heap.size + 2 ≤ W1.heap.size := by rw [← hW1]; simp
  have c0 : W1.cell? ⟨w.heap.size, 0, none⟩ = some (.slice a os.length cap) := by rw [← hW1]; simp [go_sem]
  have r0 : W1.cell? ⟨w.heap.size + 1, 0, none⟩ = some (.slice none 0 0) := by rw [← hW1]; simp [go_sem]
  have fr0 : W1.frozen? ⟨w.heap.size + 1, 0, none⟩ = false := by rw [← hW1]; simp [go_sem]
  have HB1 := Lib.hid B1
  clear B1
  go_enter Try.func76, Try.ntmps76
  go_wp2_with fail
  clear hW1
  refine (within_any a os cap ⟨#[]⟩ ⟨#[]⟩ _ (HV.out.below HB1.out) HP.out hn HL.out).mono ?_
  rintro e w3 ⟨va, cs, vc, hkv, rfl, hat, hb3⟩
  have r0x := (hb3.cell (p := ⟨w.heap.size + 1, 0, none⟩) (show w.heap.size + 1 < W1.heap.size by omega)).trans r0
  have fr0x := (hb3.frozen (p := ⟨w.heap.size + 1, 0, none⟩) (show w.heap.size + 1 < W1.heap.size by omega)).trans fr0
  have HK := Lib.hid hkv
  have HA := Lib.hid hat
  have x3 : w.heap.size + 1 < w3.heap.size := by have := hb3.size; omega
  have HBc := Lib.hid (HB1.out.trans (hb3.mono HB1.out.size))
  clear hkv hat hb3 r0 fr0 c0
  go_wp2_with fail
  refine bodyPost_ret (v := .agg #[.slice va cs.length vc]) (by simp [results, Try.results76, go_sem, *]) rfl ?_
  refine ⟨va, cs, vc, ?_, rfl, ?_, HBc.out.setCell (p := ⟨w.heap.size + 1, 0, none⟩) (by simp <;> omega) _⟩
  · rw [HK.out]
    exact List.filter_eq_self.2 (fun p _ => hasB_all p.1)
  · exact (HA.out.turned (S := fun b => b = w.heap.size + 1) (fun b h1 h2 e => by omega) ((Turned.refl (fun b => b = w.heap.size + 1) _).setCell (p := ⟨w.heap.size + 1, 0, none⟩) rfl _)).lower (by omega)

def Cat2Post (xs ys : List ObjD) (w : World) (e : Ending) (w' : World) : Prop :=
  ∃ p c, e = .returned (.slice p (xs.length + ys.length) c) ∧ w'.ownsRow w.heap.size 45 2 (.slice p (xs.length + ys.length) c) (xs.length + ys.length) ((xs ++ ys).flatMap objCells) ∧ Below w.heap.size w w'
theorem concat2_any (sb : Nat) (a1 a2 : Option Addr) (xs ys : List ObjD) (c1 c2 : Nat) (w : World) (h1 : w.cell? ⟨sb, 0, none⟩ = some (.slice a1 xs.length c1)) (h2 : w.cell? ⟨sb, 1, none⟩ = some (.slice a2 ys.length c2)) (hx : ObjsIn w a1 xs) (hy : ObjsIn w a2 ys) (hsb : sb < w.heap.size) (htot : xs.length + ys.length ≤ 4194304) :
    Calls Try.prog 99 #[.slice (some ⟨sb, 0, none⟩) 2 2] w (Cat2Post xs ys w) := by
  by_cases h0 : xs.length + ys.length = 0
  · have e1 : xs = [] := List.eq_nil_of_length_eq_zero (by omega)
    have e2 : ys = [] := List.eq_nil_of_length_eq_zero (by omega)
    subst e1 e2
    refine (concatObj_zero sb a1 a2 c1 c2 w h1 h2).mono ?_
    rintro e w' ⟨rfl, hb⟩
    exact ⟨none, 0, rfl, World.ownsRow_nil _ _ _ _, hb⟩
  · have hc : catO [⟨a1, xs, c1⟩, ⟨a2, ys, c2⟩] 2 = xs ++ ys := by simp [catO]
    have hl : (catO [⟨a1, xs, c1⟩, ⟨a2, ys, c2⟩] 2).length = xs.length + ys.length := by rw [hc, List.length_append]
    refine (concatObj_any sb [⟨a1, xs, c1⟩, ⟨a2, ys, c2⟩] w (fun i hi => ?_) hsb (by simp) (show 0 < (catO _ 2).length by rw [hl]; omega) (show (catO _ 2).length ≤ _ by rw [hl]; exact htot)).mono ?_
    · simp only [List.length_cons, List.length_nil] at hi
      obtain rfl | rfl : i = 0 ∨ i = 1 := by omega
      · exact ⟨h1, hx⟩
      · exact ⟨h2, hy⟩
    · rintro e w' ⟨g, cp, he, ho, hb⟩
      have he : e = .returned (.slice (some ⟨g, 0, none⟩) (catO [⟨a1, xs, c1⟩, ⟨a2, ys, c2⟩] 2).length cp) := he
      have ho : w'.ownsRow w.heap.size 45 2 (.slice (some ⟨g, 0, none⟩) (catO [⟨a1, xs, c1⟩, ⟨a2, ys, c2⟩] 2).length cp) (catO [⟨a1, xs, c1⟩, ⟨a2, ys, c2⟩] 2).length ((catO [⟨a1, xs, c1⟩, ⟨a2, ys, c2⟩] 2).flatMap objCells) := ho
      rw [hl] at he ho
      rw [hc] at ho
      exact ⟨_, cp, he, ho, hb⟩

/-- Two maps read, and their objects laid in a row of their own, below it. -/
theorem vmAt_cat2 {u : World} {lo lo1 hi1 lo2 hi2 mid n : Nat} {a1 a2 : Option Addr} {v : Value} {xs ys : List ObjD} (hn : n = xs.length + ys.length) (hown : u.ownsRow mid 45 2 v n ((xs ++ ys).flatMap objCells))
    (hA : VmAt u lo1 hi1 a1 xs) (hB : VmAt u lo2 hi2 a2 ys) (hd : hi1 ≤ lo2) (h1 : lo ≤ lo1) (h2 : lo ≤ lo2) (h3 : lo ≤ mid) (m1 : hi1 ≤ mid) (m2 : hi2 ≤ mid) :
    ∃ a cap, v = .slice a (xs ++ ys).length cap ∧ VmAt u lo u.heap.size a (xs ++ ys) := by
  subst hn
  have hj : ∀ {P : ObjD → Prop}, (∀ c ∈ xs, P c) → (∀ c ∈ ys, P c) → ∀ c ∈ xs ++ ys, P c := fun p q c hc => (List.mem_append.1 hc).elim (p c) (q c)
  have hl : ∀ c ∈ xs ++ ys, Lies lo mid c.at_ := hj (fun o ho => (hA.l2 o ho).mono h1 m1) (fun o ho => (hB.l2 o ho).mono h2 m2)
  have hl' : ∀ c ∈ xs ++ ys, Lies lo u.heap.size c.at_ := hj (fun o ho => (hA.l2 o ho).mono h1 hA.le) (fun o ho => (hB.l2 o ho).mono h2 hB.le)
  rcases Joins.ownsRow_forms hown with ⟨rfl, h0⟩ | ⟨g, cap, rfl⟩
  · have e1 : xs = [] := List.eq_nil_of_length_eq_zero (by omega)
    have e2 : ys = [] := List.eq_nil_of_length_eq_zero (by omega)
    subst e1 e2
    exact ⟨none, 0, rfl, VmAt.nil _ _ _ (Nat.le_refl _)⟩
  · have hg := hown.lt g rfl
    have hlen : xs.length + ys.length = (xs ++ ys).length := by simp
    rw [hlen] at hown ⊢
    have hin : ∀ o ∈ xs ++ ys, VersIn u o.at_ o.vers := hj (fun o ho => hA.in1.mem ho) (fun o ho => hB.in1.mem ho)
    have hap2 : (xs ++ ys).Pairwise fun x y => Apart x.at_ y.at_ := by
      rw [List.pairwise_append]
      refine ⟨hA.ap2, hB.ap2, fun x hx y hy => ?_⟩
      intro x1 o1 y1 p1 e1 e2
      have q1 := hA.l2 x hx _ _ e1
      have q2 := hB.l2 y hy _ _ e2
      omega
    refine ⟨some ⟨g, 0, none⟩, cap, rfl, .inr ⟨g, 0, rfl, hg.2, fun i hi => ?_⟩, own_free hown, (fun b off e => by cases e; exact ⟨by omega, hg.2⟩), Nat.le_refl _, hj hA.fr2 hB.fr2, hl', fun o ho x p y q e1 e2 => ?_, hap2, hj hA.pl hB.pl⟩
    · have e0 := hown.cellAt (i * 2) (by omega)
      have e1 := hown.cellAt (i * 2 + 1) (by omega)
      have f0 := flat_at objCells 2 (fun _ => rfl) (xs ++ ys) i 0 hi (by omega)
      have f1 := flat_at objCells 2 (fun _ => rfl) (xs ++ ys) i 1 hi (by omega)
      rw [Nat.add_zero] at f0
      simp only [Nat.zero_add]
      exact ⟨e0.trans f0, e1.trans f1, hin _ (List.getElem_mem hi)⟩
    · cases e1
      have q2 := (hl o ho _ _ e2).2
      omega

/-- A box with the joined map in it, all new since W. -/
def NewJ (W : World) (xs : List Kv) (n : Nat) (p : Value) (u : World) : Prop :=
  ∃ g a cs c, p = .pointer (some ⟨g, 0, none⟩) ∧ Below W.heap.size W u ∧ W.heap.size ≤ g ∧ g < u.heap.size ∧ cs.length = n ∧ u.cell? ⟨g, 0, none⟩ = some (.slice a n c) ∧ cs.map ObjD.kv = xs ∧ VmAt u W.heap.size u.heap.size a cs
theorem newJ_A {W u : World} {ks1 ks2 : List Kv} {xs ys : List ObjD} {p a1 a2 : Option Addr} {c lo1 hi1 lo2 hi2 mid n1 n2 n : Nat} {t : TypeId} (hB : Kp W n1 n2 u) (e1 : xs.map ObjD.kv = ks1) (e2 : ys.map ObjD.kv = ks2) (hX : VmAt u lo1 hi1 a1 xs) (hY : VmAt u lo2 hi2 a2 ys)
    (hown : u.ownsRow mid 45 2 (.slice p (xs.length + ys.length) c) (xs.length + ys.length) ((xs ++ ys).flatMap objCells)) (hn : xs.length + ys.length = n) (hd : hi1 ≤ lo2) (h1 : W.heap.size ≤ lo1) (m2 : hi2 ≤ mid) (l1 : lo1 ≤ hi1) (l2 : lo2 ≤ hi2) :
    NewJ W (ks1 ++ ks2) n (.pointer (some ⟨u.heap.size, 0, none⟩)) (u.alloc (.cells #[.slice p (xs.length + ys.length) c] t)) := by
  obtain ⟨a, cap, e, hA⟩ := vmAt_cat2 (lo := W.heap.size) rfl hown hX hY hd h1 (by omega) (by omega) (by omega) m2
  injection e with e3 _ e4
  subst e3 e4
  have hb : Below u.heap.size u (u.alloc (.cells #[.slice p (xs.length + ys.length) c] t)) := (Below.refl _ _).alloc (Nat.le_refl _) _
  refine ⟨u.heap.size, p, xs ++ ys, c, rfl, hB.2.2.alloc hB.2.2.size _, hB.2.2.size, by simp, by simp [hn], by rw [← hn]; simp, by rw [List.map_append, e1, e2], (hA.below hb).lower (Nat.le_refl _)⟩
theorem newJ_B {W u : World} {ks1 ks2 : List Kv} {xs ys : List ObjD} {p a1 a2 : Option Addr} {c lo1 hi1 lo2 hi2 mid n1 n2 n g : Nat} (hB : Kp W n1 n2 u) (e1 : xs.map ObjD.kv = ks1) (e2 : ys.map ObjD.kv = ks2) (hX : VmAt u lo1 hi1 a1 xs) (hY : VmAt u lo2 hi2 a2 ys)
    (hown : u.ownsRow mid 45 2 (.slice p (xs.length + ys.length) c) (xs.length + ys.length) ((xs ++ ys).flatMap objCells)) (hn : xs.length + ys.length = n) (z : Zr1 g u) (hd : hi1 ≤ lo2) (h1 : W.heap.size ≤ lo1) (m2 : hi2 ≤ mid) (l1 : lo1 ≤ hi1) (l2 : lo2 ≤ hi2) (hg : W.heap.size ≤ g) (gm : g < mid) (g1 : g < lo1 ∨ hi1 ≤ g) (g2 : g < lo2 ∨ hi2 ≤ g) :
    NewJ W (ks1 ++ ks2) n (.pointer (some ⟨g, 0, none⟩)) (u.setCell ⟨g, 0, none⟩ (.slice p (xs.length + ys.length) c)) := by
  obtain ⟨z1, _, z7⟩ := z
  have hown' := hown.kept (grownBy_setCell' u g (.slice p (xs.length + ys.length) c)) (.inr (own_neV hown (.inl gm)).symm)
  obtain ⟨a, cap, e, hA⟩ := vmAt_cat2 (lo := W.heap.size) rfl hown' (hX.setAway g1) (hY.setAway g2) hd h1 (by omega) (by omega) (by omega) m2
  injection e with e3 _ e4
  subst e3 e4
  exact ⟨g, p, xs ++ ys, c, rfl, hB.2.2.setCell (p := ⟨g, 0, none⟩) hg _, hg, by simpa using z7, by simp [hn], by rw [← hn]; simp [go_sem, z1, z7], by rw [List.map_append, e1, e2], hA⟩

theorem of_new2 {C : Prop} {t : TypeId} {o : Obj} {v w' : World} (hw : Below ((v.alloc o).alloc (.cells #[.slice none 0 0] t)).heap.size ((v.alloc o).alloc (.cells #[.slice none 0 0] t)) w') (k : Zr1 (v.heap.size + 1) w' → C) : C := k (by have := (zr1_new (v.alloc o) t).below hw; simpa using this)
theorem of_new1S {C : Prop} {t : TypeId} {o : Obj} {v w' : World} (hw : Below ((v.alloc (.cells #[.slice none 0 0] t)).alloc o).heap.size ((v.alloc (.cells #[.slice none 0 0] t)).alloc o) w') (k : Zr1 v.heap.size w' → C) : C := k (((zr1_new v t).below ((Below.refl _ _).alloc (Nat.le_refl _) _)).below hw)
theorem of_carry1S {C : Prop} {g : Nat} {o : Obj} {u w' : World} (hw : Below (u.alloc o).heap.size (u.alloc o) w') (h : Zr1 g u) (k : Zr1 g w' → C) : C := k ((h.below ((Below.refl _ _).alloc (Nat.le_refl _) _)).below hw)
theorem keepJ {n1 n2 : Nat} {x0 y0 : Value} {W u : World} {g : Nat} {a : Value} (h : u.cell? ⟨n1, 0, none⟩ = some x0 ∧ u.cell? ⟨n2, 0, none⟩ = some y0 ∧ Kp W n1 n2 u) (hn1 : n1 < W.heap.size) (hn2 : n2 < W.heap.size) (hg : W.heap.size ≤ g) : (u.setCell ⟨g, 0, none⟩ a).cell? ⟨n1, 0, none⟩ = some x0 ∧ (u.setCell ⟨g, 0, none⟩ a).cell? ⟨n2, 0, none⟩ = some y0 ∧ Kp W n1 n2 (u.setCell ⟨g, 0, none⟩ a) := keep11_set h hn1 hn2 hg
set_option maxRecDepth 100000 in
set_option maxHeartbeats 8000000 in
theorem vmapJoin_any (a b : Option Addr) (os ps : List ObjD) (capA capB : Nat) (w : World) (hv : ObjsIn w a os) (hu : ObjsIn w b ps) (hf : ∀ o ∈ os, o.fits) (hg : ∀ o ∈ ps, o.fits) (hp : ∀ o ∈ os, o.plain) (hq : ∀ o ∈ ps, o.plain) (hn : os.length ≤ 1048576) (hm : ps.length ≤ 1048576) (hl : ∀ o ∈ os, o.vers.length ≤ 1048576) (hk : ∀ o ∈ ps, o.vers.length ≤ 1048576) :
    Calls Try.prog 34 #[.agg #[.slice a os.length capA], .agg #[.slice b ps.length capB]] w (VmOutB (joinF (os.map ObjD.kv) (ps.map ObjD.kv)) (joinB (os.map ObjD.kv) (ps.map ObjD.kv)) w) := by
  have HV := Lib.hid hv
  have HU := Lib.hid hu
  have HF := Lib.hid hf
  have HG := Lib.hid hg
  have HP := Lib.hid hp
  have HQ := Lib.hid hq
  have HL := Lib.hid hl
  have HKL := Lib.hid hk
  clear hv hu hf hg hp hq hl hk
  obtain ⟨W1, hW1⟩ : ∃ W1, ((w.alloc (.cells #[.slice a os.length capA] 25)).alloc (.cells #[.slice b ps.length capB] 25)).alloc (.cells #[.slice none 0 0] 25) = W1 := ⟨_, rfl⟩
  have B1 : Below w.heap.size w W1 := by rw [← hW1]; exact (((Below.refl _ _).alloc (Nat.le_refl _) _).alloc (by simp) _).alloc (by simp <;> omega) _
  have z1 : w.heap.size + 3 ≤ W1.heap.size := by rw [← hW1]; simp
  have c0 : W1.cell? ⟨w.heap.size, 0, none⟩ = some (.slice a os.length capA) := by rw [← hW1]; simp [go_sem]
  have d0 : W1.cell? ⟨w.heap.size + 1, 0, none⟩ = some (.slice b ps.length capB) := by rw [← hW1]; simp [go_sem]
  have r0 : W1.cell? ⟨w.heap.size + 1 + 1, 0, none⟩ = some (.slice none 0 0) := by rw [← hW1]; simp [go_sem]
  have fr0 : W1.frozen? ⟨w.heap.size + 1 + 1, 0, none⟩ = false := by rw [← hW1]; simp [go_sem]
  have HB1 := Lib.hid B1
  clear B1
  have hn1 : w.heap.size < W1.heap.size := by omega
  have hn2 : w.heap.size + 1 < W1.heap.size := by omega
  have hfl := fieldVm
  go_enter Try.func34, Try.ntmps34
  go_upto_region 1 with fail
  clear hW1
  go_cut [6] from 7 (fun p u => NewJ W1 (os.map ObjD.kv ++ ps.map ObjD.kv) (os.length + ps.length) p u)
  case first =>
    have q : W1.cell? ⟨w.heap.size, 0, none⟩ = some (.slice a os.length capA) ∧ W1.cell? ⟨w.heap.size + 1, 0, none⟩ = some (.slice b ps.length capB) ∧ Kp W1 (w.heap.size) (w.heap.size + 1) W1 := ⟨c0, d0, hn1, hn2, Below.refl _ _⟩
    clear c0 d0 r0 fr0
    go_region_held3 (fun u => u.cell? ⟨w.heap.size, 0, none⟩ = some (.slice a os.length capA) ∧ u.cell? ⟨w.heap.size + 1, 0, none⟩ = some (.slice b ps.length capB) ∧ Kp W1 (w.heap.size) (w.heap.size + 1) u)
      (first | with_reducible exact q | with_reducible exact keep11 ((Below.refl _ _).drew) q | with_reducible exact keep11 ((Below.refl _ _).alloc (Nat.le_refl _) _) q | with_reducible exact keep11 (((Below.refl _ _).alloc (Nat.le_refl _) _).drew) q | with_reducible exact keep11 (((Below.refl _ _).alloc (Nat.le_refl _) _).alloc (by simp) _) q | with_reducible exact keep11_set q hn1 hn2 (by omega) | fail)
      (first
        | (go_at_call 76; refine (copied_any a os capA _ (HV.out.below ((keep11_kp (W := W1) (n1 := w.heap.size) (n2 := w.heap.size + 1) (x0 := .slice a os.length capA) (y0 := .slice b ps.length capB) (by with_reducible assumption)).from_ HB1.out)) HP.out hn HL.out).mono ?_; rintro e wA ⟨aA, csA, cA, hkA, rfl, hat, hb⟩; have q := keep11 (W := W1) (n1 := w.heap.size) (n2 := w.heap.size + 1) (x0 := .slice a os.length capA) (y0 := .slice b ps.length capB) hb (by with_reducible assumption); (try ((first | with_reducible refine of_new1 hb ?_ | with_reducible refine of_new1D hb ?_ | with_reducible refine of_carry1 hb zn ?_); intro zn; have zn0 := zn.1; have zn1 := zn.2.1; have zn2 := zn.2.2)); have TA := Lib.hid hat; have EA := Lib.hid hkA; have LA := Lib.hid (show csA.length = os.length by simpa using congrArg List.length hkA); have sA := hb.size; have tA := (keep11_kp q).size; clear hat hb hkA)
        | (go_at_call 76; refine (copied_any b ps capB _ (HU.out.below ((keep11_kp (W := W1) (n1 := w.heap.size) (n2 := w.heap.size + 1) (x0 := .slice a os.length capA) (y0 := .slice b ps.length capB) (by with_reducible assumption)).from_ HB1.out)) HQ.out hm HKL.out).mono ?_; rintro e wB ⟨aB, csB, cB, hkB, rfl, hat, hb⟩; have q := keep11 (W := W1) (n1 := w.heap.size) (n2 := w.heap.size + 1) (x0 := .slice a os.length capA) (y0 := .slice b ps.length capB) hb (by with_reducible assumption); (try ((first | with_reducible refine of_new1 hb ?_ | with_reducible refine of_new1D hb ?_ | with_reducible refine of_carry1 hb zn ?_); intro zn; have zn0 := zn.1; have zn1 := zn.2.1; have zn2 := zn.2.2)); have sB := hb.size; have tB := (keep11_kp q).size; (first | (have TA := Lib.hid (TA.out.below hb)) | (have TA := Lib.hid ((TA.out.below ((Below.refl _ _).alloc (Nat.le_refl _) _)).below hb))); have TB := Lib.hid hat; have EB := Lib.hid hkB; have LB := Lib.hid (show csB.length = ps.length by simpa using congrArg List.length hkB); clear hat hb hkB)
        | (go_at_call 99; refine (concat2_any _ aA aB csA csB cA cB _ (by simp [go_sem]) (by simp [go_sem]) (TA.out.below ((Below.refl _ _).alloc (Nat.le_refl _) _)).in1 (TB.out.below ((Below.refl _ _).alloc (Nat.le_refl _) _)).in1 (by first | (simp; done) | (simp; omega)) (by have := LA.out; have := LB.out; omega)).mono ?_; rintro e wC ⟨pC, cC, rfl, hown, hb⟩; have q := keep11 (W := W1) (n1 := w.heap.size) (n2 := w.heap.size + 1) (x0 := .slice a os.length capA) (y0 := .slice b ps.length capB) hb (by with_reducible assumption); (try ((first | with_reducible refine of_new2 hb ?_ | with_reducible refine of_new1S hb ?_ | with_reducible refine of_carry1S hb zn ?_); intro zn; have zn0 := zn.1; have zn1 := zn.2.1; have zn2 := zn.2.2)); have sC := hb.size; have tC := (keep11_kp q).size; have TA := Lib.hid ((TA.out.below ((Below.refl _ _).alloc (Nat.le_refl _) _)).below hb); have TB := Lib.hid ((TB.out.below ((Below.refl _ _).alloc (Nat.le_refl _) _)).below hb); have OC := Lib.hid hown; clear hown hb)
        | (go_at_call 99; refine (concat2_any _ aA aB csA csB cA cB _ (by simp [go_sem]) (by simp [go_sem]) (TA.out.below (((Below.refl _ _).alloc (Nat.le_refl _) _).alloc (by simp) _)).in1 (TB.out.below (((Below.refl _ _).alloc (Nat.le_refl _) _).alloc (by simp) _)).in1 (by first | (simp; done) | (simp; omega)) (by have := LA.out; have := LB.out; omega)).mono ?_; rintro e wC ⟨pC, cC, rfl, hown, hb⟩; have q := keep11 (W := W1) (n1 := w.heap.size) (n2 := w.heap.size + 1) (x0 := .slice a os.length capA) (y0 := .slice b ps.length capB) hb (by with_reducible assumption); (try ((first | with_reducible refine of_new2 hb ?_ | with_reducible refine of_new1S hb ?_ | with_reducible refine of_carry1S hb zn ?_); intro zn; have zn0 := zn.1; have zn1 := zn.2.1; have zn2 := zn.2.2)); have sC := hb.size; have tC := (keep11_kp q).size; have TA := Lib.hid ((TA.out.below (((Below.refl _ _).alloc (Nat.le_refl _) _).alloc (by simp) _)).below hb); have TB := Lib.hid ((TB.out.below (((Below.refl _ _).alloc (Nat.le_refl _) _).alloc (by simp) _)).below hb); have OC := Lib.hid hown; clear hown hb)
        | fail)
    all_goals (go_wp2_with fail; go_meet)
    all_goals first
      | (refine newJ_A (keep11_kp q) EA.out EB.out TA.out TB.out OC.out ?_ ?_ ?_ ?_ ?_ ?_ <;> (have h1 := LA.out; have h2 := LB.out; have h3 := sA; have h4 := sB; have h5 := sC; (try simp at h3); (try simp at h4); (try simp at h5); first | omega | (simp; omega) | (simp; done)))
      | (refine newJ_B (keep11_kp q) EA.out EB.out TA.out TB.out OC.out ?_ zn ?_ ?_ ?_ ?_ ?_ ?_ ?_ ?_ ?_ <;> (have h1 := LA.out; have h2 := LB.out; have h3 := sA; have h4 := sB; have h5 := sC; (try simp at h3); (try simp at h4); (try simp at h5); first | omega | (simp; omega) | (simp; done)))
  case rest =>
    obtain ⟨g, aJ, cs, cJ, rfl, hB, hg1, hg2, hlen, e0, hkv, hat⟩ := hcut
    obtain ⟨w2, rfl⟩ : ∃ x, x = wc := ⟨_, rfl⟩
    rw [← hlen] at e0
    have hcl : cs.length ≤ maxLen := by unfold maxLen; omega
    have HCF := Lib.hid (fits_of_kv hkv (fun q hq => (List.mem_append.1 hq).elim (kvFits_of HF.out q) (kvFits_of HG.out q)))
    have r0 := (hB.cell (p := ⟨w.heap.size + 1 + 1, 0, none⟩) (show w.heap.size + 1 + 1 < W1.heap.size by omega)).trans r0
    have fr0 := (hB.frozen (p := ⟨w.heap.size + 1 + 1, 0, none⟩) (show w.heap.size + 1 + 1 < W1.heap.size by omega)).trans fr0
    have HK := Lib.hid hkv
    have HA := Lib.hid hat
    have HB2 := Lib.hid (HB1.out.trans (hB.mono HB1.out.size))
    have s3 := hB.size
    clear hkv hat hB c0 d0 hlen
    go_wp2_with fail
    refine (vmapOk_any aJ cs cJ _ HA.out.in1 HCF.out hcl).mono ?_
    rintro e w4 ⟨r, rfl, hr, hb⟩
    have HRc := Lib.hid hr
    have r0 := (hb.cell (p := ⟨w.heap.size + 1 + 1, 0, none⟩) (show w.heap.size + 1 + 1 < w2.heap.size by omega)).trans r0
    have fr0 := (hb.frozen (p := ⟨w.heap.size + 1 + 1, 0, none⟩) (show w.heap.size + 1 + 1 < w2.heap.size by omega)).trans fr0
    have e0 := (hb.cell (p := ⟨g, 0, none⟩) hg2).trans e0
    have s7 := hb.size
    have s8 : w.heap.size + 1 + 1 < w4.heap.size := by omega
    have HA := Lib.hid (HA.out.below hb)
    have HB5 := Lib.hid (HB2.out.trans (hb.mono HB2.out.size))
    clear hr hb
    cases r
    · go_wp2_with fail
      refine bodyPost_ret (v := .tuple #[.agg #[.slice none 0 0], .bool false]) (by simp [results, Try.results34, go_sem, *]) rfl ?_
      have hno : ¬ KvOk (os.map ObjD.kv ++ ps.map ObjD.kv) := fun h => absurd (HRc.out.2 ((mapOk_kv cs).2 (by rw [HK.out]; exact h))) (by decide)
      exact ⟨none, [], 0, by rw [joinF, if_neg hno]; rfl, (joinB_noI hno).symm ▸ rfl, VmAt.nil _ _ _ (by simp), HB5.out.setCell (p := ⟨w.heap.size + 1 + 1, 0, none⟩) (by simp <;> omega) _⟩
    · go_wp2_with fail
      refine bodyPost_ret (v := .tuple #[.agg #[.slice aJ cs.length cJ], .bool true]) (by simp [results, Try.results34, go_sem, *]) rfl ?_
      have hyes : KvOk (os.map ObjD.kv ++ ps.map ObjD.kv) := by rw [← HK.out]; exact (mapOk_kv cs).1 (HRc.out.1 (by simp))
      refine ⟨aJ, cs, cJ, by rw [joinF, if_pos hyes]; exact HK.out, (joinB_yesI hyes).symm ▸ rfl, ?_, HB5.out.setCell (p := ⟨w.heap.size + 1 + 1, 0, none⟩) (by simp <;> omega) _⟩
      exact (HA.out.turned (S := fun b => b = w.heap.size + 1 + 1) (fun b h1 h2 e => by omega) ((Turned.refl (fun b => b = w.heap.size + 1 + 1) _).setCell (p := ⟨w.heap.size + 1 + 1, 0, none⟩) rfl _)).lower (by omega)
end Go.Proofs.Ytjijichgoodocaa
