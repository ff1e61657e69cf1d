/- Drawing any map: the walk. -/
import Derived.Test.YtjijichgoodocaaDrawY
import Derived.Test.YtjijichgoodocaaDrawW
import Derived.Test.YtjijichgoodocaaRlS
import Derived.Test.YtjijichgoodocaaAppK
namespace Go.Proofs.Ytjijichgoodocaa
open Go.RowKit

/-- Two cells that a region reads. -/
def Kq (n b o : Nat) (x y : Value) (u : World) : Prop := u.cell? ⟨n, 0, none⟩ = some x ∧ u.cell? ⟨b, o, none⟩ = some y ∧ n < u.heap.size ∧ b < u.heap.size
theorem Kq.only {rb n b o : Nat} {x y : Value} {u v : World} (ho : Only rb u v) (hn : n ≠ rb) (hb : b ≠ rb) (h : Kq n b o x y u) : Kq n b o x y v :=
  ⟨(ho.cell (p := ⟨n, 0, none⟩) h.2.2.1 hn).trans h.1, (ho.cell (p := ⟨b, o, none⟩) h.2.2.2 hb).trans h.2.1, Nat.lt_of_lt_of_le h.2.2.1 ho.size, Nat.lt_of_lt_of_le h.2.2.2 ho.size⟩
theorem keepE_only {rb n b o : Nat} {x y : Value} {u v : World} (ho : Only rb u v) (hn : n ≠ rb) (hb : b ≠ rb) (h : u.cell? ⟨n, 0, none⟩ = some x ∧ u.cell? ⟨b, o, none⟩ = some y ∧ n < u.heap.size ∧ b < u.heap.size) : v.cell? ⟨n, 0, none⟩ = some x ∧ v.cell? ⟨b, o, none⟩ = some y ∧ n < v.heap.size ∧ b < v.heap.size := Kq.only ho hn hb h
theorem keepE_alloc {n b o : Nat} {x y : Value} {u : World} {z : Obj} (h : u.cell? ⟨n, 0, none⟩ = some x ∧ u.cell? ⟨b, o, none⟩ = some y ∧ n < u.heap.size ∧ b < u.heap.size) : (u.alloc z).cell? ⟨n, 0, none⟩ = some x ∧ (u.alloc z).cell? ⟨b, o, none⟩ = some y ∧ n < (u.alloc z).heap.size ∧ b < (u.alloc z).heap.size :=
  have hb : Below u.heap.size u (u.alloc z) := (Below.refl _ _).alloc (Nat.le_refl _) _
  ⟨(hb.cell (p := ⟨n, 0, none⟩) h.2.2.1).trans h.1, (hb.cell (p := ⟨b, o, none⟩) h.2.2.2).trans h.2.1, Nat.lt_of_lt_of_le h.2.2.1 hb.size, Nat.lt_of_lt_of_le h.2.2.2 hb.size⟩
theorem keepE_drew {n b o : Nat} {x y : Value} {u : World} (h : u.cell? ⟨n, 0, none⟩ = some x ∧ u.cell? ⟨b, o, none⟩ = some y ∧ n < u.heap.size ∧ b < u.heap.size) : u.drew.cell? ⟨n, 0, none⟩ = some x ∧ u.drew.cell? ⟨b, o, none⟩ = some y ∧ n < u.drew.heap.size ∧ b < u.drew.heap.size := h
theorem keepM_only {rb n : Nat} {x : Value} {u v : World} (ho : Only rb u v) (hne : n ≠ rb) (h : u.cell? ⟨n, 0, none⟩ = some x ∧ n < u.heap.size) : v.cell? ⟨n, 0, none⟩ = some x ∧ n < v.heap.size := ⟨(ho.cell (p := ⟨n, 0, none⟩) h.2 hne).trans h.1, Nat.lt_of_lt_of_le h.2 ho.size⟩
theorem keepM_alloc {n : Nat} {x : Value} {u : World} {o : Obj} (h : u.cell? ⟨n, 0, none⟩ = some x ∧ n < u.heap.size) : (u.alloc o).cell? ⟨n, 0, none⟩ = some x ∧ n < (u.alloc o).heap.size :=
  have hb : Below u.heap.size u (u.alloc o) := (Below.refl _ _).alloc (Nat.le_refl _) _
  ⟨(hb.cell (p := ⟨n, 0, none⟩) h.2).trans h.1, Nat.lt_of_lt_of_le h.2 hb.size⟩
theorem keepM_set {n b o : Nat} {x y : Value} {u : World} (hb : n ≠ b) (h : u.cell? ⟨n, 0, none⟩ = some x ∧ n < u.heap.size) : (u.setCell ⟨b, o, none⟩ y).cell? ⟨n, 0, none⟩ = some x ∧ n < (u.setCell ⟨b, o, none⟩ y).heap.size :=
  ⟨(World.cell?_of_block (w := u) (a := ⟨n, 0, none⟩) (Below.heap_setCell u ⟨b, o, none⟩ y n hb)).trans h.1, by simpa using h.2⟩
theorem keepM_drew {n : Nat} {x : Value} {u : World} (h : u.cell? ⟨n, 0, none⟩ = some x ∧ n < u.heap.size) : u.drew.cell? ⟨n, 0, none⟩ = some x ∧ n < u.drew.heap.size := h
theorem keepE_set {n b o c oc : Nat} {x y z : Value} {u : World} (hn : n ≠ c) (hb : b ≠ c) (h : u.cell? ⟨n, 0, none⟩ = some x ∧ u.cell? ⟨b, o, none⟩ = some y ∧ n < u.heap.size ∧ b < u.heap.size) : (u.setCell ⟨c, oc, none⟩ z).cell? ⟨n, 0, none⟩ = some x ∧ (u.setCell ⟨c, oc, none⟩ z).cell? ⟨b, o, none⟩ = some y ∧ n < (u.setCell ⟨c, oc, none⟩ z).heap.size ∧ b < (u.setCell ⟨c, oc, none⟩ z).heap.size :=
  ⟨(World.cell?_of_block (w := u) (a := ⟨n, 0, none⟩) (Below.heap_setCell u ⟨c, oc, none⟩ z n hn)).trans h.1, (World.cell?_of_block (w := u) (a := ⟨b, o, none⟩) (Below.heap_setCell u ⟨c, oc, none⟩ z b hb)).trans h.2.1, by simpa using h.2.2.1, by simpa using h.2.2.2⟩
theorem boxed_go {rb n : Nat} {t : TypeId} {x : Value} {u v : World} (h : Boxed u n t x) (ho : Only rb u v) (hn : n ≠ rb) : Boxed v n t x := (ho.block _ h.lt hn).trans h
theorem plain_nil (s : ByteArray) : (⟨s, none, 0, []⟩ : ObjD).plain := ⟨.inr ⟨rfl, rfl, rfl⟩, Nat.le_refl _, Nat.zero_le _⟩
theorem fits_nil {s : ByteArray} (h : s.size ≤ maxLen) : (⟨s, none, 0, []⟩ : ObjD).fits := ⟨h, Nat.zero_le _, fun v hv => by cases hv⟩
theorem fits_ver {o : ObjD} {v : VerD} (h : o.fits) (hv : v.text.size ≤ maxLen) : (⟨o.key, o.at_, o.cap, o.vers.set 0 v⟩ : ObjD).fits :=
  ⟨h.1, by rw [List.length_set]; exact h.2.1, mem_set h.2.2 hv⟩
theorem plain_ver {o : ObjD} {v : VerD} (h : o.plain) (h0 : 0 < o.vers.length) : (⟨o.key, o.at_, o.cap, o.vers.set 0 v⟩ : ObjD).plain := by
  refine ⟨?_, by rw [List.length_set]; exact h.2.1, h.2.2⟩
  rcases h.1 with h1 | ⟨_, h1, _⟩
  · exact .inl h1
  · rw [h1] at h0; simp at h0

set_option maxRecDepth 100000 in
set_option maxHeartbeats 8000000 in
theorem l20AnyMap_any (rb p : Nat) (w : World) (h : RdAt rb p w) (hp : p < 10000) :
    Calls Try.prog 71 #[.pointer (some ⟨rb, 0, none⟩)] w (SomeVmA rb (p + 90) w) := by
  have hlt := h.lt
  have H := Lib.hid h
  clear h
  go_enter Try.func71, Try.ntmps71
  go_wp2_with fail
  with_reducible refine (l20Map_any rb p _ ?hr (by omega)).mono ?_
  case hr => exact H.out.alloc _
  rintro e w1 ⟨os, a, c, q, hq, rfl, hat0, hn, hv, hf, hr, ho⟩
  have hat : VmAt w1 (w.heap.size + 2) w1.heap.size a os := by simpa using hat0
  have hne : w.heap.size ≠ rb := Nat.ne_of_gt hlt
  have ZA : Boxed w1 w.heap.size 25 (.slice none 0 0) := boxed_go (Boxed.new _ _ _) ho hne
  have zA := ZA.lt
  have z0 := ZA.cell
  have z1 := ZA.frozen
  have HZ := Lib.hid ZA
  have HR := Lib.hid hr
  have HO := Lib.hid (((Only.refl rb w).alloc _).trans ho)
  have HF := Lib.hid hf
  have HV := Lib.hid (fun o ho => (hv o ho).2 : ∀ o ∈ os, o.vers.length ≤ 20)
  have HV0 := Lib.hid (fun o ho => (hv o ho).1 : ∀ o ∈ os, 0 < o.vers.length)
  have HA := Lib.hid hat
  have hs1 : rb < w1.heap.size := by omega
  clear hr ho H hat hat0 hv hf ZA
  obtain ⟨V2, hV2⟩ : ∃ V2, w1.alloc (.cells #[.slice a os.length c] 25) = V2 := ⟨_, rfl⟩
  have b2 : Below w1.heap.size w1 V2 := by rw [← hV2]; exact (Below.refl _ _).alloc (Nat.le_refl _) _
  have ZC : Boxed V2 w1.heap.size 25 (.slice a os.length c) := by rw [← hV2]; exact Boxed.new _ _ _
  have ZB : Boxed V2 w.heap.size 25 (.slice none 0 0) := (b2.block _ zA).trans HZ.out
  have HR2 := Lib.hid (HR.out.below b2)
  have HO2 := Lib.hid (HO.out.trans (Only.of_below b2))
  have HA2 := Lib.hid (HA.out.below b2)
  clear b2 z0 z1 HR HO HA HZ
  have x0 := ZC.cell
  have x1 := ZC.lt
  have y0 := ZB.cell
  have y1 := ZB.frozen
  have y2 := ZB.lt
  rcases Nat.eq_zero_or_pos os.length with h0 | hpos
  · obtain rfl := List.eq_nil_of_length_eq_zero h0
    clear h0
    have x0 : V2.cell? ⟨w1.heap.size, 0, none⟩ = some (.slice a 0 c) := x0
    have hV2 : w1.alloc (.cells #[.slice a 0 c] 25) = V2 := hV2
    go_wp2_with fail
    refine bodyPost_ret (v := .agg #[.slice a 0 c]) (by simp [results, Try.results71, go_sem, y0, y1]) rfl (SomeVmA.mk_ (cs := []) (q := q) (by omega) ?_ ?_ ?_ rfl)
    · exact ((Md.of_at HA2.out HF.out hn HV.out).lower (by omega)).set (p := ⟨w.heap.size, 0, none⟩) (by show w.heap.size < w.heap.size + 1; omega) _
    · exact HR2.out.setNew (a := ⟨w.heap.size, 0, none⟩) hlt _
    · exact HO2.out.setNew (p := ⟨w.heap.size, 0, none⟩) (Nat.le_refl _) _
  obtain ⟨b, off, rfl⟩ := HA2.out.ex hpos
  have hpi : (os.length : Int) > 0 := by omega
  go_wp2_with fail
  clear hV2 x0 x1 y0 y1 y2
  refine (pick_any rb q (os.length : Int) _ HR2.out (by omega) (by omega) (by omega)).mono ?_
  rintro e w2 ⟨n, hn0, hn1, rfl, hr, ho⟩
  obtain ⟨k, rfl⟩ := Int.eq_ofNat_of_zero_le hn0
  have hk : k < os.length := by omega
  have hne1 : w1.heap.size ≠ rb := by omega
  have ZB := boxed_go ZB ho hne
  have ZC := boxed_go ZC ho hne1
  have HA3 := Lib.hid (HA2.out.go (by omega) ho)
  have HR3 := Lib.hid hr
  have HO3 := Lib.hid (HO2.out.trans ho)
  clear hr ho HR2 HO2 HA2
  go_wp2_with fail
  refine (pick_any rb (q + 1) 16 _ HR3.out (by omega) (by omega) (by omega)).mono ?_
  rintro e w3 ⟨n, hn0, hn1, rfl, hr, ho⟩
  have HZB := Lib.hid (boxed_go ZB ho hne)
  have HZC := Lib.hid (boxed_go ZC ho hne1)
  have HA4 := Lib.hid (HA3.out.go (by omega) ho)
  have HR4 := Lib.hid hr
  have HO4 := Lib.hid (HO3.out.trans ho)
  clear hr ho HR3 HO3 HA3 ZB ZC
  obtain ⟨hb1, hb2, hb3, d0, d1, d2, d3⟩ := HA4.out.obj hk
  have hbn : b ≠ w1.heap.size := by omega
  have hbn' : b ≠ rb := by omega
  have hbw : w.heap.size ≠ b := by omega
  have x0 := HZC.out.cell
  have x1 := HZC.out.lt
  have y0 := HZB.out.cell
  have y1 := HZB.out.frozen
  have y2 := HZB.out.lt
  have hmem := List.getElem_mem hk
  by_cases hz : n = 0
  · subst hz
    go_wp2_with fail
    have q2 : w3.cell? ⟨w1.heap.size, 0, none⟩ = some (.slice (some ⟨b, off, none⟩) os.length c) ∧ w1.heap.size < w3.heap.size := ⟨x0, x1⟩
    have hbs : w1.heap.size ≠ b := fun e => hbn e.symm
    have qq := q2
    go_region_held3 (fun u => u.cell? ⟨w1.heap.size, 0, none⟩ = some (.slice (some ⟨b, off, none⟩) os.length c) ∧ w1.heap.size < u.heap.size)
      (first | with_reducible exact qq | with_reducible exact keepM_drew qq | with_reducible exact keepM_set hbs qq | fail)
      (first
      | (go_at_call 72; refine (l20AnyKey_any rb (q + 1 + 1) _ HR4.out.drew (by omega)).mono ?_; rintro e w4 ⟨key, q4, hq4, hks, rfl, hr4, ho4⟩; have hom : Only rb w3 w4 := ((Only.refl rb w3).drew).trans ho4; have qq := keepM_only hom hne1 q2; have u0 := (boxed_go HZB.out hom hne).cell; have u1 := (boxed_go HZB.out hom hne).frozen; have u2 := (boxed_go HZB.out hom hne).lt; have e0 := (hom.cell (p := ⟨b, off + k * 2, none⟩) hb3 hbn').trans d0; have e2 := (hom.frozen (p := ⟨b, off + k * 2, none⟩) hb3 hbn').trans d2; have e3 : b < w4.heap.size := Nat.lt_of_lt_of_le hb3 hom.size; have v0 := qq.1; have v2 := qq.2)
      | fail)
    all_goals
      have HR5 := Lib.hid hr4
      have HO5 := Lib.hid (HO4.out.trans hom)
      have HA5 := Lib.hid (HA4.out.go (by omega) hom)
      have HK := Lib.hid hks
      clear hr4 hom ho4 hks x0 d0 d1 d2 d3 y0 y1 q2
      go_wp2_with fail
      refine bodyPost_ret (v := .agg #[.slice (some ⟨b, off, none⟩) os.length c]) (by simp [results, Try.results71, go_sem, u0, u1]) rfl (SomeVmA.mk_ (cs := os.set k ⟨key, os[k].at_, os[k].cap, os[k].vers⟩) (q := q4) (by omega) ?_ ?_ ?_ (List.length_set ..))
      · exact ((Md.mk_ HA5.out HF.out hn HV.out (HA5.out.putKey hk key) ⟨HK.out, (HF.out _ hmem).2⟩ (HA5.out.pl os[k] hmem) (HV.out os[k] hmem) (fun b o e => (HA5.out.l2 _ hmem b o e).1)).lower (by omega)).set (p := ⟨w.heap.size, 0, none⟩) (by show w.heap.size < w.heap.size + 1; omega) _
      · exact (HR5.out.setNew (a := ⟨b, off + k * 2, none⟩) (by show rb < b; omega) _).setNew (a := ⟨w.heap.size, 0, none⟩) hlt _
      · exact (HO5.out.setNew (p := ⟨b, off + k * 2, none⟩) (by show w.heap.size ≤ b; omega) _).setNew (p := ⟨w.heap.size, 0, none⟩) (Nat.le_refl _) _
  have hz0 : (n == 0) = false := by simpa using hz
  by_cases hz : n = 1
  · subst hz
    go_wp2_with fail
    refine bodyPost_ret (v := .agg #[.slice (some ⟨b, off, none⟩) os.length c]) (by simp [results, Try.results71, go_sem, y0, y1]) rfl (SomeVmA.mk_ (cs := os.set k ⟨os[k].key, none, 0, []⟩) (q := q + 1 + 1) (by omega) ?_ ?_ ?_ (List.length_set ..))
    · exact ((Md.mk_ HA4.out HF.out hn HV.out (HA4.out.putNil hk) (fits_nil (HF.out _ hmem).1) (plain_nil _) (by simp) (fun b o e => by cases e)).lower (by omega)).set (p := ⟨w.heap.size, 0, none⟩) (by show w.heap.size < w.heap.size + 1; omega) _
    · exact (HR4.out.setNew (a := ⟨b, off + k * 2 + 1, none⟩) (by show rb < b; omega) _).setNew (a := ⟨w.heap.size, 0, none⟩) hlt _
    · exact (HO4.out.setNew (p := ⟨b, off + k * 2 + 1, none⟩) (by show w.heap.size ≤ b; omega) _).setNew (p := ⟨w.heap.size, 0, none⟩) (Nat.le_refl _) _
  have hz1 : (n == 1) = false := by simpa using hz
  by_cases hz : n = 2
  · subst hz
    have h0v := HV0.out _ hmem
    have h20 := HV.out _ hmem
    obtain ⟨b', o', hat, hb4, hb5, f0, f1, f2, g0, g1, g2⟩ := HA4.out.ver0 hk h0v
    have hne4 : b' ≠ b := HA4.out.offB hmem b' o' hat
    have hne5 : b' ≠ rb := by omega
    have hne6 : b' ≠ w1.heap.size := by have := (HA4.out.l2 _ hmem b' o' hat).2; omega
    have hne7 : w.heap.size ≠ b' := by omega
    obtain ⟨vl, hvl⟩ : ∃ vl, os[k].vers.length = vl := ⟨_, rfl⟩
    obtain ⟨ocap, hoc⟩ : ∃ oc, os[k].cap = oc := ⟨_, rfl⟩
    rw [hat, hvl, hoc] at d1
    have hvp : (0 : Int) < (vl : Int) := by omega
    have hvn : 0 < vl := by omega
    go_wp2_with fail
    have hsA : intsOk (#[.int .i64 0, .int .i64 10000, .int .i64 500] : Array Value).toList = true := by rfl
    have HSA := Lib.hid hsA
    have HAT := Lib.hid hat
    have HV1 := Lib.hid (hvl ▸ h0v : 0 < vl)
    have HVL := Lib.hid hvl
    clear hsA hat hvl h20 hoc
    have hm6 : w1.heap.size ≠ b' := fun e => hne6 e.symm
    have hm4 : b ≠ b' := fun e => hne4 e.symm
    have q2 : w3.cell? ⟨w1.heap.size, 0, none⟩ = some (.slice (some ⟨b, off, none⟩) os.length c) ∧ w3.cell? ⟨b, off + k * 2 + 1, none⟩ = some (.slice (some ⟨b', o', none⟩) vl ocap) ∧ w1.heap.size < w3.heap.size ∧ b < w3.heap.size := ⟨x0, d1, x1, hb3⟩
    have qq := q2
    have hlt3 : rb < w3.heap.size := by omega
    go_region_held3 (fun u => u.cell? ⟨w1.heap.size, 0, none⟩ = some (.slice (some ⟨b, off, none⟩) os.length c) ∧ u.cell? ⟨b, off + k * 2 + 1, none⟩ = some (.slice (some ⟨b', o', none⟩) vl ocap) ∧ w1.heap.size < u.heap.size ∧ b < u.heap.size)
      (first | with_reducible exact qq | with_reducible exact keepE_drew qq | with_reducible exact keepE_alloc qq | with_reducible exact keepE_drew (keepE_alloc qq) | with_reducible exact keepE_alloc (keepE_drew qq) | with_reducible exact keepE_set hm6 hm4 (keepE_set hm6 hm4 (keepE_set hm6 hm4 qq)) | fail)
      (first
      | (go_at_call 73; (with_reducible refine (oneOld_any rb (q + 1 + 1) 3 w3 _ _ #[.int .i64 0, .int .i64 10000, .int .i64 500] rfl ((Only.refl rb _).drew) hlt3 ((HR4.out.alloc _).drew) (by omega) HSA.out rfl (by omega) (by omega)).mono ?_); rintro e w4 ⟨s, hs, rfl, hr4, ho4⟩; have hom : Only rb w3 w4 := (((Only.refl rb w3).alloc _).drew).trans ho4; have qq := keepE_only hom hne1 hbn' q2; have HR5 := Lib.hid hr4; clear hr4)
      | (go_at_call 74; (with_reducible refine (l20Text_any rb (q + 1 + 1 + 1) _ HR5.out (by omega)).mono ?_); rintro e w5 ⟨tx, htx, rfl, hr5, ho5⟩; have hoo : Only rb w3 w5 := hom.trans ho5; have qq := keepE_only hoo hne1 hbn' q2; have u0 := (boxed_go HZB.out hoo hne).cell; have u1 := (boxed_go HZB.out hoo hne).frozen; have u2 := (boxed_go HZB.out hoo hne).lt; have e0 := (hoo.cell (p := ⟨b', o', none⟩) hb5 hne5).trans f0; have e1 := (hoo.cell (p := ⟨b', o' + 1, none⟩) hb5 hne5).trans f1; have e2 := (hoo.cell (p := ⟨b', o' + 2, none⟩) hb5 hne5).trans f2; have e3 := (hoo.frozen (p := ⟨b', o', none⟩) hb5 hne5).trans g0; have e4 := (hoo.frozen (p := ⟨b', o' + 1, none⟩) hb5 hne5).trans g1; have e5 := (hoo.frozen (p := ⟨b', o' + 2, none⟩) hb5 hne5).trans g2; have e6 : b' < w5.heap.size := Nat.lt_of_lt_of_le hb5 hoo.size; have v0 := qq.1; have v2 := qq.2.2.1; have v3 := qq.2.2.2)
      | fail)
    all_goals
      have HR6 := Lib.hid hr5
      have HO6 := Lib.hid (HO4.out.trans hoo)
      have HA6 := Lib.hid (HA4.out.go (by omega) hoo)
      have HTX := Lib.hid htx
      clear hr5 hoo ho5 htx x0 d0 d1 d2 d3 y0 y1 q2 f0 f1 f2 g0 g1 g2
      go_wp2_with fail
      refine bodyPost_ret (v := .agg #[.slice (some ⟨b, off, none⟩) os.length c]) (by simp [results, Try.results71, go_sem, u0, u1]) rfl (SomeVmA.mk_ (cs := os.set k ⟨os[k].key, os[k].at_, os[k].cap, os[k].vers.set 0 ⟨s, tx, true⟩⟩) (q := q + 1 + 1 + 1 + 1) (by omega) ?_ ?_ ?_ (List.length_set ..))
      · exact ((Md.mk_ HA6.out HF.out hn HV.out (HA6.out.putVer hk h0v HAT.out ⟨s, tx, true⟩) (fits_ver (HF.out _ hmem) HTX.out) (plain_ver (HA6.out.pl _ hmem) h0v) (by rw [List.length_set]; exact HV.out _ hmem) (fun b o e => (HA6.out.l2 _ hmem b o e).1)).lower (by omega)).set (p := ⟨w.heap.size, 0, none⟩) (by show w.heap.size < w.heap.size + 1; omega) _
      · exact (((HR6.out.setNew (a := ⟨b', o', none⟩) (by show rb < b'; omega) _).setNew (a := ⟨b', o' + 1, none⟩) (by show rb < b'; omega) _).setNew (a := ⟨b', o' + 2, none⟩) (by show rb < b'; omega) _).setNew (a := ⟨w.heap.size, 0, none⟩) hlt _
      · exact (((HO6.out.setNew (p := ⟨b', o', none⟩) (by show w.heap.size ≤ b'; omega) _).setNew (p := ⟨b', o' + 1, none⟩) (by show w.heap.size ≤ b'; omega) _).setNew (p := ⟨b', o' + 2, none⟩) (by show w.heap.size ≤ b'; omega) _).setNew (p := ⟨w.heap.size, 0, none⟩) (Nat.le_refl _) _
  have hz2 : (n == 2) = false := by simpa using hz
  go_wp2_with fail
  refine bodyPost_ret (v := .agg #[.slice (some ⟨b, off, none⟩) os.length c]) (by simp [results, Try.results71, go_sem, y0, y1]) rfl (SomeVmA.mk_ (cs := os) (q := q + 1 + 1) (by omega) ?_ ?_ ?_ rfl)
  · exact ((Md.of_at HA4.out HF.out hn HV.out).lower (by omega)).set (p := ⟨w.heap.size, 0, none⟩) (by show w.heap.size < w.heap.size + 1; omega) _
  · exact HR4.out.setNew (a := ⟨w.heap.size, 0, none⟩) hlt _
  · exact HO4.out.setNew (p := ⟨w.heap.size, 0, none⟩) (Nat.le_refl _) _
end Go.Proofs.Ytjijichgoodocaa

/- Drawing what is known. -/
namespace Go.Proofs.Ytjijichgoodocaa
open Go.RowKit

theorem nil_size : (⟨#[]⟩ : ByteArray).size ≤ maxLen := by unfold maxLen; exact Nat.zero_le _
theorem mLo_size {a b c d : ByteArray} (ha : a.size ≤ maxLen) (hc : c.size ≤ maxLen) : (mLo a b c d).size ≤ maxLen := by
  unfold mLo
  cases meetB a b c d
  · exact nil_size
  · exact lowM_size ha hc
theorem mHi_size {a b c d : ByteArray} (hb : b.size ≤ maxLen) (hd : d.size ≤ maxLen) : (mHi a b c d).size ≤ maxLen := by
  unfold mHi
  cases meetB a b c d
  · exact nil_size
  · exact highM_size hb hd
theorem within_fits {lo hi : ByteArray} {vs : List KnownD} {n : Nat} (hlo : lo.size ≤ maxLen) (hhi : hi.size ≤ maxLen) (hv : ∀ v ∈ vs, v.fits) : ∀ u ∈ within lo hi vs n, u.fits := fun u hu => by
  unfold within at hu
  obtain ⟨v, hv', hu⟩ := List.mem_flatMap.1 hu
  have hvf := hv v (List.mem_of_mem_take hv')
  unfold cutK at hu
  split at hu
  · simp at hu
    subst hu
    exact ⟨mLo_size hvf.1 hlo, mHi_size hvf.2 hhi⟩
  · simp at hu
theorem putI_fits {k : KnownD} {vs : List KnownD} (hk : k.fits) (hv : ∀ v ∈ vs, v.fits) : ∀ u ∈ putI k vs, u.fits := fun u hu => by
  unfold putI at hu
  rcases List.mem_append.1 hu with hu | hu
  · rcases List.mem_append.1 hu with hu | hu
    · split at hu
      · cases hu
      · exact within_fits nil_size hk.1 hv u hu
    · rw [List.mem_singleton] at hu; rw [hu]; exact hk
  · split at hu
    · cases hu
    · exact within_fits hk.2 nil_size hv u hu
theorem putI_pos (k : KnownD) (vs : List KnownD) : 0 < (putI k vs).length := by unfold putI; simp; omega

/-- What is known and was drawn: whatever it holds, it is small. -/
structure Kd (lo : Nat) (w : World) (b off : Nat) (vs : List KnownD) : Prop where
  inn : KnownsIn w (some ⟨b, off, none⟩) vs
  fits : ∀ v ∈ vs, v.fits
  len : vs.length ≤ 6
  la : lo ≤ b
theorem Kd.turned {S : Nat → Prop} {lo b off : Nat} {w u : World} {vs : List KnownD} (h : Kd lo w b off vs) (ht : Turned S w u) (hS : ∀ c, S c → c < lo) : Kd lo u b off vs :=
  ⟨h.inn.turned (fun b' o e q => by cases e; have := h.la; have := hS _ q; omega) ht, h.fits, h.len, h.la⟩
theorem Kd.go {rb lo b off : Nat} {w u : World} {vs : List KnownD} (h : Kd lo w b off vs) (ho : Only rb w u) (hrb : rb < lo) : Kd lo u b off vs := h.turned ho.turned (fun c e => by omega)
theorem Kd.below {lo b off : Nat} {w u : World} {vs : List KnownD} (h : Kd lo w b off vs) (hb : Below w.heap.size w u) : Kd lo u b off vs := ⟨h.inn.below hb, h.fits, h.len, h.la⟩
theorem Kd.lower {lo lo' b off : Nat} {w : World} {vs : List KnownD} (h : Kd lo w b off vs) (hl : lo' ≤ lo) : Kd lo' w b off vs := ⟨h.inn, h.fits, h.len, Nat.le_trans hl h.la⟩
theorem emptyKn {u : World} {B g : Nat} (h : u.heap[g]? = some (.cells #[] 84 (0, 0))) (hb : B ≤ g) : u.ownsRow B 84 4 (.slice (some ⟨g, 0, none⟩) 0 0) 0 [] :=
  ⟨by simp, .inr ⟨g, 0, #[], rfl, hb, h, Nat.le_refl _, Nat.zero_le _, by simp, by simp⟩⟩
theorem kn_news {w : World} {b off : Nat} {vs : List KnownD} (h : KnownsIn w (some ⟨b, off, none⟩) vs) : ∀ j u, (vs.flatMap knownCells)[j]? = some u → w.cell? ((⟨b, off, none⟩ : Addr).add j) = some u := by
  rcases h with rfl | ⟨b', off', e, _, hc⟩
  · intro j u h; simp at h
  · cases e; exact knowns_news hc
/-- What was learned, or not. -/
theorem Kd.learn {w w' : World} {k : KnownD} {vs us : List KnownD} {b : Bool} {e : Ending} (hk : k.fits) (hv : ∀ v ∈ vs, v.fits) (hn : vs.length ≤ 6) (hl : LearnRel vs k us b) (h : KnownsOutB us b w e w') :
    ∃ (a : Option Addr) (c : Nat), e = .returned (.tuple #[.slice a us.length c, .bool b]) ∧ Below w.heap.size w w' ∧ (b = true → ∃ g off, a = some ⟨g, off, none⟩ ∧ Kd w.heap.size w' g off us) := by
  obtain ⟨a, c, he, hat, hb⟩ := h
  refine ⟨a, c, he, hb, fun hbt => ?_⟩
  rcases hl with ⟨h1, h2, rfl, h4⟩ | ⟨h1, h2, rfl, h4⟩ | ⟨h1, rfl, h4⟩
  · have hp := putI_pos k vs
    rcases hat.in1 with h0 | ⟨g, off, rfl, hg, hc⟩
    · rw [h0] at hp; simp at hp
    · exact ⟨g, off, rfl, hat.in1, putI_fits hk hv, h2.2, (hat.l1 g off rfl).1⟩
  · rw [hbt] at h4; cases h4
  · rw [hbt] at h4; cases h4

def SomeKn (rb p : Nat) (w : World) (e : Ending) (w' : World) : Prop := ∃ (vs : List KnownD) (b c q : Nat), q ≤ p ∧ e = .returned (.slice (some ⟨b, 0, none⟩) vs.length c) ∧ KnownsAt w' w.heap.size w'.heap.size (some ⟨b, 0, none⟩) vs ∧ (∀ v ∈ vs, v.fits) ∧ vs.length ≤ 6 ∧ w.heap.size ≤ b ∧ b < w'.heap.size ∧ vs.length ≤ c ∧ c ≤ maxLen ∧ RdAt rb q w' ∧ Only rb w w'

set_option maxRecDepth 100000 in
set_option maxHeartbeats 4000000 in
theorem l20Known_any (rb p : Nat) (w : World) (h : RdAt rb p w) (hp : p < 10000) :
    Calls Try.prog 158 #[.pointer (some ⟨rb, 0, none⟩)] w (SomeKn rb (p + 50) w) := by
  have hrb := h.lt
  have H := Lib.hid h
  clear h
  go_enter Try.func158, Try.ntmps158
  go_wp2_with fail
  obtain ⟨W1, hW1⟩ : ∃ W1, w.alloc (.cells #[] 84) = W1 := ⟨_, rfl⟩
  rw [hW1]
  have b1 : Below w.heap.size w W1 := by rw [← hW1]; exact (Below.refl _ _).alloc (Nat.le_refl _) _
  have HK1 := Lib.hid (show Kd w.heap.size W1 w.heap.size 0 [] from ⟨.inl rfl, (fun v hv => by cases hv), Nat.zero_le _, Nat.le_refl _⟩)
  have HR1 := Lib.hid (H.out.below b1)
  have HO1 := Lib.hid (Only.of_below b1 : Only rb w W1)
  clear hW1 b1
  refine (pick_any rb p 6 _ HR1.out (by omega) (by omega) (by omega)).mono ?_
  rintro e w2 ⟨n, hn0, hn1, rfl, hr, ho⟩
  obtain ⟨m, rfl⟩ := Int.eq_ofNat_of_zero_le hn0
  have HK2 := Lib.hid (HK1.out.go ho hrb)
  have HR2 := Lib.hid hr
  have HO2 := Lib.hid (HO1.out.trans ho)
  clear hr ho HK1 HR1 HO1
  go_wp2_with fail
  go_loopw [3, 4] (fun l x wr => ∃ (m b off c q : Nat) (vs : List KnownD), x = .int .i64 (m : Int) ∧ l = .slice (some ⟨b, off, none⟩) vs.length c ∧ m ≤ 5 ∧ q + 8 * m ≤ p + 41 ∧ Kd w.heap.size wr b off vs ∧ RdAt rb q wr ∧ Only rb w wr) (fun _ x _ => (intOf x).toNat)
  case atStart => exact ⟨m, w.heap.size, 0, 0, p + 1, [], rfl, rfl, by omega, by omega, HK2.out, HR2.out, HO2.out⟩
  case round =>
    obtain ⟨m, b, off, c, q, vs, rfl, rfl, hm, hq, hK, hR, hO⟩ := hrel
    obtain ⟨w3, rfl⟩ : ∃ v, v = wr := ⟨_, rfl⟩
    have HK := Lib.hid hK
    have HR := Lib.hid hR
    have HO := Lib.hid hO
    have hs3 := hO.size
    have hlen := hK.len
    clear hK hR hO
    cases m with
    | zero =>
      obtain ⟨V, hV⟩ : ∃ V, w3.alloc (.cells #[] 84) = V := ⟨_, rfl⟩
      have bV : Below w3.heap.size w3 V := by rw [← hV]; exact (Below.refl _ _).alloc (Nat.le_refl _) _
      have HE := Lib.hid (show V.ownsRow w3.heap.size 84 4 (.slice (some ⟨w3.heap.size, 0, none⟩) 0 0) 0 [] by rw [← hV]; exact emptyKn (heap_alloc_new _ _) (Nat.le_refl _))
      have HN := Lib.hid (kn_news (HK.out.inn.below bV))
      have HBV := Lib.hid bV
      have hsz : w3.heap.size ≤ V.heap.size := bV.size
      clear bV
      go_wp2_with (at_builtin; (refine wpList_append_any rfl _ _ 80 rfl Try.underlying80 w3.heap.size (.slice (some ⟨w3.heap.size, 0, none⟩) 0 0) 0 [] rfl HE.out ⟨b, off, none⟩ vs.length c (vs.flatMap knownCells) rfl (knowns_len vs) HN.out (knowns_one vs) (by omega) hsz (by simp) ?_; intro g cp w4 hown hgrow; have X := Lib.hid (And.intro hown (Below.grown HBV.out hgrow HBV.out.size (fun j hj => by cases hj; exact Nat.le_refl _))); clear hown hgrow))
      go_ret
      obtain ⟨hown, hbA⟩ := X.out
      rw [Nat.zero_add, List.nil_append] at hown
      obtain ⟨hc1, hc2, _, _⟩ := own_some hown
      obtain ⟨a', c', e', hat⟩ := own_knowns hown
      injection e' with e1 e2 e3
      subst e1
      refine ⟨vs, g, cp, q, by omega, by simp, hat.lower hs3, HK.out.fits, hlen, ?_, ?_, hc1, hc2, HR.out.below hbA, HO.out.trans (Only.of_below hbA)⟩
      · have := (hat.l1 g 0 rfl).1; omega
      · exact (hat.l1 g 0 rfl).2
    | succ m =>
      have hm1 : ((m + 1 : Nat) : Int) > 0 := by omega
      go_wp2_with fail
      refine (l20Span_any rb q _ HR.out (by omega)).mono ?_
      rintro e w4 ⟨lo, hi, q4, hq4, hlo, hhi, rfl, hr, ho⟩
      have HK4 := Lib.hid (HK.out.go ho hrb)
      have HR4 := Lib.hid hr
      have HO4 := Lib.hid (HO.out.trans ho)
      clear hr ho HK HR HO
      go_wp2_with fail
      refine (pick_any rb q4 3 _ HR4.out (by omega) (by omega) (by omega)).mono ?_
      rintro e w5 ⟨n5, hn50, hn51, rfl, hr, ho⟩
      have HK5 := Lib.hid (HK4.out.go ho hrb)
      have HR5 := Lib.hid hr
      have HO5 := Lib.hid (HO4.out.trans ho)
      clear hr ho HK4 HR4 HO4
      go_wp2_with fail
      refine (pick_any rb (q4 + 1) 4 _ HR5.out (by omega) (by omega) (by omega)).mono ?_
      rintro e w6 ⟨n6, hn60, hn61, rfl, hr, ho⟩
      have HK6 := Lib.hid (HK5.out.go ho hrb)
      have HR6 := Lib.hid hr
      have HO6 := Lib.hid (HO5.out.trans ho)
      have hw1 : IntKind.i64.wrap (1 + n6) = 1 + n6 := IntWalk.i64_in _ (by omega)
      clear hr ho HK5 HR5 HO5
      go_wp2_with fail
      refine (specRouteLearn_any ⟨lo, hi, n5, 1 + n6⟩ b off vs c _ ⟨hlo, hhi⟩ HK6.out.inn HK6.out.fits (by omega)).mono ?_
      rintro e w7 ⟨us, ok, hl, hout⟩
      obtain ⟨a', c', rfl, hb, hok⟩ := Kd.learn ⟨hlo, hhi⟩ HK6.out.fits hlen hl hout
      have HK7 := Lib.hid (HK6.out.below hb)
      have HR7 := Lib.hid (HR6.out.below hb)
      have hs6 := HO6.out.size
      have HO7 := Lib.hid (HO6.out.trans (Only.of_below hb))
      have HOK := Lib.hid hok
      clear hl hout hb hok HK6 HR6 HO6
      cases ok
      · go_wp2_with fail
        go_roundw
        case rel => exact ⟨m, b, off, c, q4 + 1 + 1, vs, by go_num, rfl, by omega, by omega, HK7.out, HR7.out, HO7.out⟩
        case measure => simp [intOf]
      · obtain ⟨g, o', rfl, hk⟩ := HOK.out rfl
        have HK8 := Lib.hid (hk.lower hs6)
        clear hk HOK
        go_wp2_with fail
        go_roundw
        case rel => exact ⟨m, g, o', c', q4 + 1 + 1, us, by go_num, rfl, by omega, by omega, HK8.out, HR7.out, HO7.out⟩
        case measure => simp [intOf]
end Go.Proofs.Ytjijichgoodocaa
