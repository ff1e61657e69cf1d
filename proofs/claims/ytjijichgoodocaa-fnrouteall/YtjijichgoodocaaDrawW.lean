/- Drawing a map: the walk. -/
import Derived.Test.YtjijichgoodocaaDrawV
namespace Go.Proofs.Ytjijichgoodocaa
open Go.RowKit

/-- The boxes of a drawn map, and the map. -/
structure Mq (rb L : Nat) (w wr : World) (os : List ObjD) (a : Option Addr) (c : Nat) : Prop where
  res : Boxed wr w.heap.size 25 (.slice none 0 0)
  box : Boxed wr (w.heap.size + 1) 25 (.slice a os.length c)
  ml : Ml (w.heap.size + 2) L wr os a c
  only : Only rb w wr
theorem Mq.turned {rb L : Nat} {w wr u : World} {os : List ObjD} {a : Option Addr} {c : Nat} (h : Mq rb L w wr os a c) (hrb : rb < w.heap.size) (ht : Turned (fun b => b = rb ∨ wr.heap.size ≤ b) wr u) : Mq rb L w u os a c := by
  have l0 := h.res.lt
  have l1 := h.box.lt
  have n0 : ¬ (w.heap.size = rb ∨ wr.heap.size ≤ w.heap.size) := by omega
  have n1 : ¬ (w.heap.size + 1 = rb ∨ wr.heap.size ≤ w.heap.size + 1) := by omega
  refine ⟨(ht.block _ l0 n0).trans h.res, (ht.block _ l1 n1).trans h.box, ?_, h.only.trans ⟨ht.os, ht.tape, ht.output, ht.size, fun k hk hn => ht.block k hk (by omega)⟩⟩
  exact ⟨h.ml.inn.turned (fun b o e q => by have := h.ml.la b o e; omega) (fun x hx b o e q => by have := h.ml.lo2 x hx b o e; omega) ht, h.ml.pa, h.ml.la.mono (Nat.le_refl _) ht.size, fun o ho => (h.ml.lo2 o ho).mono (Nat.le_refl _) ht.size, h.ml.pl, h.ml.sz, h.ml.fit, h.ml.len⟩
theorem Mq.go {rb L : Nat} {w wr u : World} {os : List ObjD} {a : Option Addr} {c : Nat} (h : Mq rb L w wr os a c) (hrb : rb < w.heap.size) (ho : Only rb wr u) : Mq rb L w u os a c := h.turned hrb (ho.turned.mono (fun k _ e => .inl e))
theorem Mq.step {rb L : Nat} {w w5 w6 : World} {os cs : List ObjD} {a a' : Option Addr} {c c' : Nat} (h : Mq rb L w w5 os a c) (hrb : rb < w.heap.size) (hb : Below w5.heap.size w5 w6) (hm : Ml (w.heap.size + 2) (L + 1) w6 cs a' c') : Mq rb (L + 1) w (w6.setCell ⟨w.heap.size + 1, 0, none⟩ (.slice a' cs.length c')) cs a' c' := by
  have l0 := h.res.lt
  have l1 := h.box.lt
  have b0 : Boxed w6 w.heap.size 25 (.slice none 0 0) := (hb.block _ l0).trans h.res
  have b1 : Boxed w6 (w.heap.size + 1) 25 (.slice a os.length c) := (hb.block _ l1).trans h.box
  exact ⟨b0.kept (grownBy_setCell' w6 (w.heap.size + 1) _) (by simp), b1.set _, hm.set (p := ⟨w.heap.size + 1, 0, none⟩) (by show w.heap.size + 1 < w.heap.size + 2; omega) _, (h.only.trans (Only.of_below hb)).setNew (p := ⟨w.heap.size + 1, 0, none⟩) (by show w.heap.size ≤ w.heap.size + 1; omega) _⟩

def SomeVm (rb p : Nat) (w : World) (e : Ending) (w' : World) : Prop := ∃ (cs : List ObjD) (a : Option Addr) (c q : Nat), q ≤ p ∧ e = .returned (.agg #[.slice a cs.length c]) ∧ VmAt w' (w.heap.size + 1) w'.heap.size a cs ∧ cs.length ≤ 20 ∧ (∀ o ∈ cs, 0 < o.vers.length ∧ o.vers.length ≤ 20) ∧ (∀ o ∈ cs, o.fits) ∧ RdAt rb q w' ∧ Only rb w w'

set_option maxRecDepth 100000 in
set_option maxHeartbeats 8000000 in
theorem l20Map_any (rb p : Nat) (w : World) (h : RdAt rb p w) (hp : p < 100000) :
    Calls Try.prog 105 #[.pointer (some ⟨rb, 0, none⟩)] w (SomeVm rb (p + 81) w) := by
  have hrb := h.lt
  have H := Lib.hid h
  clear h
  have hsA : intsB (fun s => decide (0 ≤ s) && decide (s ≤ 20)) (#[.int .i64 0, .int .i64 3, .int .i64 8, .int .i64 20] : Array Value).toList = true := by rfl
  have HSA := Lib.hid hsA
  clear hsA
  go_enter Try.func105, Try.ntmps105
  go_wp2_with fail
  obtain ⟨W1, hW1⟩ : ∃ W1, (w.alloc (.cells #[.slice none 0 0] 25)).alloc (.cells #[.slice none 0 0] 25) = W1 := ⟨_, rfl⟩
  rw [hW1]
  have B1 : Below w.heap.size w W1 := by rw [← hW1]; exact ((Below.refl _ _).alloc (Nat.le_refl _) _).alloc (by simp) _
  have M1 : Mq rb 0 w W1 [] none 0 := by
    have r0 : Boxed (w.alloc (.cells #[.slice none 0 0] 25)) w.heap.size 25 (.slice none 0 0) := Boxed.new _ _ _
    have r1 : Boxed W1 w.heap.size 25 (.slice none 0 0) := by rw [← hW1]; exact r0.alloc _
    have r2 : Boxed W1 (w.heap.size + 1) 25 (.slice none 0 0) := by rw [← hW1]; have := Boxed.new (w.alloc (.cells #[.slice none 0 0] 25)) 25 (.slice none 0 0); simpa using this
    exact ⟨r1, r2, (Ml.nil _ _), Only.of_below B1⟩
  have HM1 := Lib.hid M1
  have HR1 := Lib.hid (H.out.below B1)
  have HG := Lib.hid (show W1.heap.size = w.heap.size + 1 + 1 by rw [← hW1]; simp)
  clear M1 B1
  clear hW1
  with_reducible refine (oneB_any (fun s => decide (0 ≤ s) && decide (s ≤ 20)) rb p 4 W1 _ #[.int .i64 0, .int .i64 3, .int .i64 8, .int .i64 20] HG.out HR1.out (by omega) HSA.out rfl (by omega) (by omega)).mono ?_
  rintro e w1 ⟨n, hn, rfl, hr, ho⟩
  rw [Bool.and_eq_true, decide_eq_true_eq, decide_eq_true_eq] at hn
  obtain ⟨hn0, hn1⟩ := hn
  obtain ⟨m, rfl⟩ := Int.eq_ofNat_of_zero_le hn0
  have HM2 := Lib.hid (HM1.out.go hrb ho)
  have HR2 := Lib.hid hr
  clear hr ho HM1 HR1
  go_wp2_with fail
  go_loopw [4, 5] (fun y x wr => ∃ (m i : Nat) (os : List ObjD) (a : Option Addr) (c q L : Nat), x = .int .i64 (m : Int) ∧ y = .int .i64 (i : Int) ∧ m ≤ 20 ∧ i + 3 * m ≤ 60 ∧ L + m ≤ 20 ∧ q + 4 * m ≤ p + 81 ∧ Mq rb L w wr os a c ∧ RdAt rb q wr) (fun _ x _ => (intOf x).toNat)
  case atStart => exact ⟨m, 0, [], none, 0, p + 1, 0, rfl, rfl, by omega, by omega, by omega, by omega, HM2.out, HR2.out⟩
  case round =>
    obtain ⟨m, i, os, a, c, q, L, rfl, rfl, hm, hi, hL, hq, hM, hR⟩ := hrel
    obtain ⟨w2, rfl⟩ : ∃ v, v = wr := ⟨_, rfl⟩
    have HM := Lib.hid hM
    have HR := Lib.hid hR
    clear hM hR
    have hos : os.length ≤ 20 := Nat.le_trans HM.out.ml.len (by omega)
    cases m with
    | zero =>
      have x0 := HM.out.box.cell
      have x1 := HM.out.box.lt
      have k0 := HM.out.res.cell
      have k1 := HM.out.res.frozen
      have k2 := HM.out.res.lt
      go_wp2_with fail
      refine (l2Copy_any a os c _ HM.out.ml.inn HM.out.ml.pl (by omega) (fun o ho => by have := (HM.out.ml.sz o ho).2; omega)).mono ?_
      rintro e w3 ⟨a3, cs, c3, hkv, rfl, hat, hb⟩
      have HA := Lib.hid hat
      have HKV := Lib.hid hkv
      have hsz3 := hb.size
      have r3 : Boxed w3 w.heap.size 25 (.slice none 0 0) := (hb.block _ k2).trans HM.out.res
      have j0 := r3.cell
      have j1 := r3.frozen
      have HO3 := Lib.hid (HM.out.only.trans (Only.of_below hb))
      have HR3 := Lib.hid (HR.out.below hb)
      clear hat hb r3 hkv
      go_wp2_with fail
      refine bodyPost_ret (v := .agg #[.slice a3 cs.length c3]) (by simp [results, Try.results105, go_sem, j0]) rfl ?_
      have hsame := same_of_kv HKV.out
      have hk : ∀ o ∈ cs, ∃ o' ∈ os, o'.kv = o.kv := fun o ho => by
        have h1 : o.kv ∈ os.map ObjD.kv := by rw [← HKV.out]; exact List.mem_map_of_mem ho
        obtain ⟨o', h2, h3⟩ := List.mem_map.1 h1
        exact ⟨o', h2, h3⟩
      refine ⟨cs, a3, c3, q, by omega, rfl, (HA.out.turned (S := fun b => b = w.heap.size) (fun b h1 h2 e => by omega) ((Turned.refl (fun b => b = w.heap.size) w3).setCell (p := ⟨w.heap.size, 0, none⟩) rfl _)).lower (by omega), by rw [hsame.1]; omega, fun o ho => ?_, fun o ho => ?_, HR3.out.setNew (a := ⟨w.heap.size, 0, none⟩) hrb _, HO3.out.setNew (p := ⟨w.heap.size, 0, none⟩) (Nat.le_refl _) _⟩
      · obtain ⟨o', h2, h3⟩ := hk o ho
        have e2 : o'.vers = o.vers := congrArg Prod.snd h3
        have := HM.out.ml.sz o' h2
        rw [← e2]; omega
      · obtain ⟨o', h2, h3⟩ := hk o ho
        have e1 : o'.key = o.key := congrArg Prod.fst h3
        have e2 : o'.vers = o.vers := congrArg Prod.snd h3
        have := HM.out.ml.fit o' h2
        unfold ObjD.fits at this ⊢
        rw [← e1, ← e2]; exact this
    | succ m =>
      have hm1 : ((m + 1 : Nat) : Int) > 0 := by omega
      go_wp2_with fail
      refine (pick_any rb q 3 _ HR.out (by omega) (by omega) (by omega)).mono ?_
      rintro e w3 ⟨n3, hn30, hn31, rfl, hr, ho⟩
      obtain ⟨d, rfl⟩ := Int.eq_ofNat_of_zero_le hn30
      have HM3 := Lib.hid (HM.out.go hrb ho)
      have HR3 := Lib.hid hr
      clear hr ho HM HR
      go_wp2_with fail
      refine (l20Text_any rb (q + 1) _ HR3.out (by omega)).mono ?_
      rintro e w4 ⟨tx, htx, rfl, hr, ho⟩
      have HM4 := Lib.hid (HM3.out.go hrb ho)
      have HR4 := Lib.hid hr
      clear hr ho HM3 HR3
      go_wp2_with fail
      obtain ⟨V4, hV4⟩ : ∃ V4, w4.alloc (.cells #[.int .i64 ((i : Int) + 1 + (d : Int)), .string tx, .bool false] 27) = V4 := ⟨_, rfl⟩
      rw [hV4]
      have b4 : Below w4.heap.size w4 V4 := by rw [← hV4]; exact (Below.refl _ _).alloc (Nat.le_refl _) _
      have v0 : V4.cell? ⟨w4.heap.size, 0, none⟩ = some (.int .i64 ((i : Int) + 1 + (d : Int))) := by rw [← hV4]; simp [go_sem]
      have v1 : V4.cell? ⟨w4.heap.size, 1, none⟩ = some (.string tx) := by rw [← hV4]; simp [go_sem]
      have v2 : V4.cell? ⟨w4.heap.size, 2, none⟩ = some (.bool false) := by rw [← hV4]; simp [go_sem]
      have f0 : V4.frozen? ⟨w4.heap.size, 0, none⟩ = false := by rw [← hV4]; simp [go_sem]
      have f1 : V4.frozen? ⟨w4.heap.size, 1, none⟩ = false := by rw [← hV4]; simp [go_sem]
      have f2 : V4.frozen? ⟨w4.heap.size, 2, none⟩ = false := by rw [← hV4]; simp [go_sem]
      have s4 : w4.heap.size < V4.heap.size := by rw [← hV4]; simp
      have HRV := Lib.hid (HR4.out.below b4)
      have hrb4 : rb < w4.heap.size := HR4.out.lt
      have HT4 := Lib.hid (show Turned (fun b => b = rb ∨ w4.heap.size ≤ b) w4 V4 from Turned.of_below b4)
      clear hV4 b4
      refine (pick_any rb (q + 1 + 1) 4 _ HRV.out (by omega) (by omega) (by omega)).mono ?_
      rintro e w5 ⟨n5, hn50, hn51, rfl, hr, ho⟩
      have hne4 : w4.heap.size ≠ rb := by omega
      have v0 := (ho.cell (p := ⟨w4.heap.size, 0, none⟩) s4 hne4).trans v0
      have v1 := (ho.cell (p := ⟨w4.heap.size, 1, none⟩) s4 hne4).trans v1
      have v2 := (ho.cell (p := ⟨w4.heap.size, 2, none⟩) s4 hne4).trans v2
      have f0 := (ho.frozen (p := ⟨w4.heap.size, 0, none⟩) s4 hne4).trans f0
      have f1 := (ho.frozen (p := ⟨w4.heap.size, 1, none⟩) s4 hne4).trans f1
      have f2 := (ho.frozen (p := ⟨w4.heap.size, 2, none⟩) s4 hne4).trans f2
      have s5 : w4.heap.size < w5.heap.size := Nat.lt_of_lt_of_le s4 ho.size
      have HT5 := Lib.hid (HT4.out.trans (ho.turned.mono (fun k _ e => Or.inl e)))
      have HR5 := Lib.hid hr
      clear hr ho HRV HT4 s4
      by_cases hz : n5 = 0
      · subst hz
        go_wp2_with fail
        obtain ⟨V, hV⟩ : ∃ V, ((w5.setCell ⟨w4.heap.size, 0, none⟩ (.int .i64 ((i : Int) + 1 + (d : Int)))).setCell ⟨w4.heap.size, 1, none⟩ (.string ⟨#[]⟩)).setCell ⟨w4.heap.size, 2, none⟩ (.bool true) = V := ⟨_, rfl⟩
        rw [hV]
        have HTV : Turned (fun b => b = rb ∨ w4.heap.size ≤ b) w4 V := by rw [← hV]; exact (((HT5.out.setCell (p := ⟨w4.heap.size, 0, none⟩) (.inr (Nat.le_refl _)) _).setCell (p := ⟨w4.heap.size, 1, none⟩) (.inr (Nat.le_refl _)) _).setCell (p := ⟨w4.heap.size, 2, none⟩) (.inr (Nat.le_refl _)) _)
        have HRV : RdAt rb (q + 1 + 1 + 1) V := by rw [← hV]; exact ((HR5.out.setNew (a := ⟨w4.heap.size, 0, none⟩) hrb4 _).setNew (a := ⟨w4.heap.size, 1, none⟩) hrb4 _).setNew (a := ⟨w4.heap.size, 2, none⟩) hrb4 _
        have sV : w4.heap.size < V.heap.size := by rw [← hV]; simpa using s5
        obtain ⟨vd, hvd⟩ : ∃ vd : VerD, vd = ⟨(i : Int) + 1 + (d : Int), ⟨#[]⟩, true⟩ := ⟨_, rfl⟩
        have u0 : V.cell? ⟨w4.heap.size, 0, none⟩ = some (.int .i64 vd.id) := by rw [← hV, hvd]; simp [go_sem, v0, v1, v2]
        have u1 : V.cell? ⟨w4.heap.size, 1, none⟩ = some (.string vd.text) := by rw [← hV, hvd]; simp [go_sem, v0, v1, v2]
        have u2 : V.cell? ⟨w4.heap.size, 2, none⟩ = some (.bool vd.gone) := by rw [← hV, hvd]; simp [go_sem, v0, v1, v2]
        have htxt : vd.text.size ≤ maxLen := by rw [hvd]; unfold maxLen; exact Nat.zero_le _
        clear hV hvd v0 v1 v2 f0 f1 f2 HT5 HR5
        have HTx := Lib.hid htxt
        have HMV := Lib.hid (HM4.out.turned hrb HTV)
        have HRd := Lib.hid HRV
        have y0 := HMV.out.box.cell
        have y1 := HMV.out.box.lt
        clear HTV HRV htxt
        go_region_with (first
          | (go_at_call 100; refine (l20Key_any rb (q + 1 + 1 + 1) _ HRd.out.drew (by omega)).mono ?_; rintro e w6 ⟨key, hkz, rfl, hr, ho0⟩; have ho := ((Only.refl rb V).drew).trans ho0; have M6 := Lib.hid (HMV.out.go hrb ho); have HR6 := Lib.hid hr; have z0 := M6.out.box.cell; have z1 := M6.out.box.lt; have z2 := (ho.cell (p := ⟨w4.heap.size, 0, none⟩) sV hne4).trans u0; have z3 := (ho.cell (p := ⟨w4.heap.size, 1, none⟩) sV hne4).trans u1; have z4 := (ho.cell (p := ⟨w4.heap.size, 2, none⟩) sV hne4).trans u2; clear hr ho ho0)
          | (go_at_call 83; refine (l2Put_any a os c key vd _ M6.out.ml.inn M6.out.ml.pa M6.out.ml.pl (by omega) (fun o ho => (by have := (M6.out.ml.sz o ho).2; omega))).mono ?_; rintro e w7 hput; obtain ⟨cs, a', c', rfl, hml, hb⟩ := M6.out.ml.put (by have := M6.out.box.lt; omega) hkz HTx.out (by omega) hput; have X := Lib.hid (And.intro hml hb); have bx := (hb.block _ M6.out.box.lt).trans M6.out.box; have g0 := Boxed.cell bx; have g1 := Boxed.frozen bx; have g2 := Boxed.lt bx; clear hml hb hput bx)
          | fail)
        all_goals
          have HM7 := Lib.hid (M6.out.step hrb X.out.2 X.out.1)
          have HR7 := Lib.hid ((HR6.out.below X.out.2).setNew (a := ⟨w.heap.size + 1, 0, none⟩) (show rb < w.heap.size + 1 by omega) (.slice a' cs.length c'))
          go_wp2_with fail
          go_roundw
          case rel => exact ⟨m, i + 1 + d, cs, a', c', q + 1 + 1 + 1 + 1, L + 1, by go_num, by go_num, by omega, by omega, by omega, by omega, HM7.out, HR7.out⟩
          case measure => simp [intOf]
      · have hzb : (n5 == 0) = false := by simpa using hz
        obtain ⟨V, rfl⟩ : ∃ V, V = w5 := ⟨_, rfl⟩
        have HTV := HT5.out
        have HRV := HR5.out
        have sV := s5
        obtain ⟨vd, hvd⟩ : ∃ vd : VerD, vd = ⟨(i : Int) + 1 + (d : Int), tx, false⟩ := ⟨_, rfl⟩
        have u0 : V.cell? ⟨w4.heap.size, 0, none⟩ = some (.int .i64 vd.id) := by rw [hvd]; exact v0
        have u1 : V.cell? ⟨w4.heap.size, 1, none⟩ = some (.string vd.text) := by rw [hvd]; exact v1
        have u2 : V.cell? ⟨w4.heap.size, 2, none⟩ = some (.bool vd.gone) := by rw [hvd]; exact v2
        have htxt : vd.text.size ≤ maxLen := by rw [hvd]; exact htx
        clear hvd v0 v1 v2 f0 f1 f2 HT5 HR5
        go_wp2_with fail
        have HTx := Lib.hid htxt
        have HMV := Lib.hid (HM4.out.turned hrb HTV)
        have HRd := Lib.hid HRV
        have y0 := HMV.out.box.cell
        have y1 := HMV.out.box.lt
        clear HTV HRV htxt
        go_region_with (first
          | (go_at_call 100; refine (l20Key_any rb (q + 1 + 1 + 1) _ HRd.out.drew (by omega)).mono ?_; rintro e w6 ⟨key, hkz, rfl, hr, ho0⟩; have ho := ((Only.refl rb V).drew).trans ho0; have M6 := Lib.hid (HMV.out.go hrb ho); have HR6 := Lib.hid hr; have z0 := M6.out.box.cell; have z1 := M6.out.box.lt; have z2 := (ho.cell (p := ⟨w4.heap.size, 0, none⟩) sV hne4).trans u0; have z3 := (ho.cell (p := ⟨w4.heap.size, 1, none⟩) sV hne4).trans u1; have z4 := (ho.cell (p := ⟨w4.heap.size, 2, none⟩) sV hne4).trans u2; clear hr ho ho0)
          | (go_at_call 83; refine (l2Put_any a os c key vd _ M6.out.ml.inn M6.out.ml.pa M6.out.ml.pl (by omega) (fun o ho => (by have := (M6.out.ml.sz o ho).2; omega))).mono ?_; rintro e w7 hput; obtain ⟨cs, a', c', rfl, hml, hb⟩ := M6.out.ml.put (by have := M6.out.box.lt; omega) hkz HTx.out (by omega) hput; have X := Lib.hid (And.intro hml hb); have bx := (hb.block _ M6.out.box.lt).trans M6.out.box; have g0 := Boxed.cell bx; have g1 := Boxed.frozen bx; have g2 := Boxed.lt bx; clear hml hb hput bx)
          | fail)
        all_goals
          have HM7 := Lib.hid (M6.out.step hrb X.out.2 X.out.1)
          have HR7 := Lib.hid ((HR6.out.below X.out.2).setNew (a := ⟨w.heap.size + 1, 0, none⟩) (show rb < w.heap.size + 1 by omega) (.slice a' cs.length c'))
          go_wp2_with fail
          go_roundw
          case rel => exact ⟨m, i + 1 + d, cs, a', c', q + 1 + 1 + 1 + 1, L + 1, by go_num, by go_num, by omega, by omega, by omega, by omega, HM7.out, HR7.out⟩
          case measure => simp [intOf]
end Go.Proofs.Ytjijichgoodocaa
