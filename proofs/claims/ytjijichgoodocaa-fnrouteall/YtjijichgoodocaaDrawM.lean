/- Drawing a map, and a key, a number or a span beside it. -/
import Derived.Test.YtjijichgoodocaaDrawN
namespace Go.Proofs.Ytjijichgoodocaa
open Go.RowKit

theorem intsB_small {l : List Value} (h : intsB (fun s => decide (0 ≤ s) && decide (s ≤ 9999)) l = true) : intsB (fun s => decide (0 ≤ s) && decide (s ≤ 9999)) l = true := h
/-- The list of numbers was laid ahead of another draw. -/
theorem oneBOld_any (pr : Int → Bool) (rb p L : Nat) (v w : World) (g : Nat) (arr : Array Value) (hg : v.heap.size = g) (ho : Only rb (v.alloc (.cells arr 3)) w) (hrb : rb < v.heap.size) (h : RdAt rb p w) (hp : p < 1000000) (hs : intsB pr arr.toList = true) (hL : arr.size = L) (h1 : 1 ≤ L) (h2 : L ≤ 1000) :
    Calls Try.prog 73 #[.pointer (some ⟨rb, 0, none⟩), .slice (some ⟨g, 0, none⟩) L L] w (SomeInt (fun s => pr s = true) rb (p + 1) w) := by
  subst hg
  refine one_any (fun s => pr s = true) rb p v.heap.size L _ h hp (by omega) (by have := ho.size; simp at this; omega) h1 h2 fun i hi => ?_
  obtain ⟨s, e, hz⟩ := intsB_in hs i (by simpa [hL] using hi)
  refine ⟨s, ?_, hz⟩
  rw [ho.cell (p := ⟨v.heap.size, i, none⟩) (by simp) (by show v.heap.size ≠ rb; omega), World.cell?_alloc_new]
  simpa using e

def SomeVmapGet (w : World) (e : Ending) (w' : World) : Prop := ∃ (os : List ObjD) (a : Option Addr) (c : Nat) (key : ByteArray), key.size ≤ maxLen ∧ e = .returned (.tuple #[.agg #[.slice a os.length c], .string key]) ∧ Md w.heap.size w' a os ∧ Below w.heap.size w w'

set_option maxRecDepth 100000 in
set_option maxHeartbeats 4000000 in
theorem drawVmapGet_any (a : Option Addr) (len cap : Nat) (w : World) (h : BytesIn w a len cap) :
    Calls Try.prog 23 #[.slice a len cap] w (SomeVmapGet w) := by
  have H := Lib.hid h
  clear h
  go_enter Try.func23, Try.ntmps23
  go_wp2_with fail
  obtain ⟨W0, hW0⟩ : ∃ W0, w.alloc (.cells #[.slice none 0 0] 25) = W0 := ⟨_, rfl⟩
  have b0 : Below w.heap.size w W0 := by rw [← hW0]; exact (Below.refl _ _).alloc (Nat.le_refl _) _
  have ZA0 : Boxed W0 w.heap.size 25 (.slice none 0 0) := by rw [← hW0]; exact Boxed.new _ _ _
  have g0 : W0.heap.size = w.heap.size + 1 := by rw [← hW0]; simp
  rw [hW0]
  clear hW0
  have HG0 := Lib.hid g0
  clear g0
  with_reducible refine (l20Open_any a len cap (w.heap.size + 1) W0 HG0.out (H.out.below (b0.mono (Nat.le_refl _)))).mono ?_
  rintro e w1 ⟨rfl, hr, hb1⟩
  have hb1' := hb1
  have hsz0 : w.heap.size < W0.heap.size := by rw [HG0.out]; omega
  have ZA := Lib.hid ((hb1.block _ ZA0.lt).trans ZA0 : Boxed w1 w.heap.size 25 (.slice none 0 0))
  have E1 := Lib.hid (b0.trans (hb1.mono b0.size))
  have HR := Lib.hid hr
  clear hr hb1 hb1' H b0 ZA0
  go_wp2_with fail
  with_reducible refine (l20AnyMap_any (w.heap.size + 1) 0 w1 HR.out (by omega)).mono ?_
  rintro e w2 ⟨os, a', c, q, hq, rfl, hm, hr, ho⟩
  have hr1 := hr.lt
  have hr0 := HR.out.lt
  have hne : w.heap.size ≠ (w.heap.size + 1) := by omega
  have hne1 : w.heap.size + 1 ≠ w.heap.size + 2 := by omega
  have hne2 : w2.heap.size ≠ (w.heap.size + 1) := by omega
  have hne3 : w2.heap.size ≠ w.heap.size := by omega
  have hne4 : w2.heap.size ≠ w.heap.size + 1 := by omega
  have ZB := Lib.hid (boxed_go ZA.out ho hne)
  have E2 := Lib.hid (E1.out.trans (ho.below (B := w.heap.size) (by omega) (by omega)))
  have HR2 := Lib.hid hr
  have HM := Lib.hid hm
  clear hr ho HR E1 ZA hm
  go_upto_region 3 with fail
  obtain ⟨W3, hW3⟩ : ∃ W3, w2.alloc (.cells #[.slice a' os.length c] 25) = W3 := ⟨_, rfl⟩
  have b3 : Below w2.heap.size w2 W3 := by rw [← hW3]; exact (Below.refl _ _).alloc (Nat.le_refl _) _
  have s0 : W3.cell? ⟨w2.heap.size, 0, none⟩ = some (.slice a' os.length c) := by rw [← hW3]; simp
  have s2 : w2.heap.size < W3.heap.size := by rw [← hW3]; simp
  have ZC := Lib.hid ((b3.block _ ZB.out.lt).trans ZB.out : Boxed W3 w.heap.size 25 (.slice none 0 0))
  have HR3 := Lib.hid (HR2.out.below b3)
  have HM3 := Lib.hid (HM.out.below b3)
  have E3 := Lib.hid (E2.out.trans (b3.mono E2.out.size))
  rw [hW3]
  clear hW3 b3 ZB HR2 HM E2
  have q0 : W3.cell? ⟨w2.heap.size, 0, none⟩ = some (.slice a' os.length c) ∧ w2.heap.size < W3.heap.size := ⟨s0, s2⟩
  have qq := q0
  have hrW : (w.heap.size + 1) < W3.heap.size := by omega
  go_region_held3 (fun u => u.cell? ⟨w2.heap.size, 0, none⟩ = some (.slice a' os.length c) ∧ w2.heap.size < u.heap.size)
    (first | with_reducible exact qq | with_reducible exact keepM_drew qq | with_reducible exact keepM_alloc qq | with_reducible exact keepM_drew (keepM_alloc qq) | with_reducible exact keepM_set hne3 qq | with_reducible exact keepM_set hne4 qq | with_reducible exact keepM_set hne4 (keepM_set hne4 qq) | with_reducible exact keepM_set hne4 (keepM_set hne4 (keepM_set hne3 qq)) | with_reducible exact keepM_set hne3 (keepM_set hne4 (keepM_set hne4 qq)) | fail)
    (first
    | (go_at_call 72; (with_reducible refine (l20AnyKey_any (w.heap.size + 1) q _ HR3.out.drew (by omega)).mono ?_); rintro e w5 ⟨key, q5, hq5, hkey, rfl, hr5, ho5⟩; have hoo : Only (w.heap.size + 1) W3 w5 := ((Only.refl (w.heap.size + 1) W3).drew).trans ho5; have u0 := (boxed_go ZC.out hoo hne).cell; have u1 := (boxed_go ZC.out hoo hne).frozen; have u2 := (boxed_go ZC.out hoo hne).lt; have q1 := keepM_only hoo hne2 q0; have qq := q1; have p0 := q1.1; have p1 := q1.2)
    | fail)
  all_goals
    have HOO := Lib.hid hoo
    clear hoo
    go_wp2_with fail
    refine bodyPost_ret (v := .tuple #[.agg #[.slice a' os.length c], .string key]) (by simp [results, Try.results23, go_sem, u0, u1]) rfl ⟨os, a', c, key, hkey, rfl, ?_, ?_⟩
    · exact ((HM3.out.go HOO.out (by omega)).set (p := ⟨w.heap.size, 0, none⟩) (by show w.heap.size < _; omega) _).lower (by omega)
    · exact (E3.out.trans (HOO.out.below (B := w.heap.size) (by omega) (by omega))).setCell (p := ⟨w.heap.size, 0, none⟩) (Nat.le_refl _) _

def SomeVmapAt (w : World) (e : Ending) (w' : World) : Prop := ∃ (os : List ObjD) (a : Option Addr) (c : Nat) (key : ByteArray) (id : Int), key.size ≤ maxLen ∧ 0 ≤ id ∧ id ≤ 9999 ∧ e = .returned (.tuple #[.agg #[.slice a os.length c], .string key, .int .i64 id]) ∧ Md w.heap.size w' a os ∧ Below w.heap.size w w'

set_option maxRecDepth 100000 in
set_option maxHeartbeats 4000000 in
theorem drawVmapAt_any (a : Option Addr) (len cap : Nat) (w : World) (h : BytesIn w a len cap) :
    Calls Try.prog 24 #[.slice a len cap] w (SomeVmapAt w) := by
  have H := Lib.hid h
  clear h
  go_enter Try.func24, Try.ntmps24
  go_wp2_with fail
  obtain ⟨W0, hW0⟩ : ∃ W0, w.alloc (.cells #[.slice none 0 0] 25) = W0 := ⟨_, rfl⟩
  have b0 : Below w.heap.size w W0 := by rw [← hW0]; exact (Below.refl _ _).alloc (Nat.le_refl _) _
  have ZA0 : Boxed W0 w.heap.size 25 (.slice none 0 0) := by rw [← hW0]; exact Boxed.new _ _ _
  have g0 : W0.heap.size = w.heap.size + 1 := by rw [← hW0]; simp
  rw [hW0]
  clear hW0
  have HG0 := Lib.hid g0
  clear g0
  with_reducible refine (l20Open_any a len cap (w.heap.size + 1) W0 HG0.out (H.out.below (b0.mono (Nat.le_refl _)))).mono ?_
  rintro e w1 ⟨rfl, hr, hb1⟩
  have hb1' := hb1
  have hsz0 : w.heap.size < W0.heap.size := by rw [HG0.out]; omega
  have ZA := Lib.hid ((hb1.block _ ZA0.lt).trans ZA0 : Boxed w1 w.heap.size 25 (.slice none 0 0))
  have E1 := Lib.hid (b0.trans (hb1.mono b0.size))
  have HR := Lib.hid hr
  clear hr hb1 hb1' H b0 ZA0
  go_wp2_with fail
  with_reducible refine (l20AnyMap_any (w.heap.size + 1) 0 w1 HR.out (by omega)).mono ?_
  rintro e w2 ⟨os, a', c, q, hq, rfl, hm, hr, ho⟩
  have hr1 := hr.lt
  have hr0 := HR.out.lt
  have hne : w.heap.size ≠ (w.heap.size + 1) := by omega
  have hne1 : w.heap.size + 1 ≠ w.heap.size + 2 := by omega
  have hne2 : w2.heap.size ≠ (w.heap.size + 1) := by omega
  have hne3 : w2.heap.size ≠ w.heap.size := by omega
  have hne4 : w2.heap.size ≠ w.heap.size + 1 := by omega
  have ZB := Lib.hid (boxed_go ZA.out ho hne)
  have E2 := Lib.hid (E1.out.trans (ho.below (B := w.heap.size) (by omega) (by omega)))
  have HR2 := Lib.hid hr
  have HM := Lib.hid hm
  clear hr ho HR E1 ZA hm
  go_upto_region 3 with fail
  obtain ⟨W3, hW3⟩ : ∃ W3, w2.alloc (.cells #[.slice a' os.length c] 25) = W3 := ⟨_, rfl⟩
  have b3 : Below w2.heap.size w2 W3 := by rw [← hW3]; exact (Below.refl _ _).alloc (Nat.le_refl _) _
  have s0 : W3.cell? ⟨w2.heap.size, 0, none⟩ = some (.slice a' os.length c) := by rw [← hW3]; simp
  have s2 : w2.heap.size < W3.heap.size := by rw [← hW3]; simp
  have ZC := Lib.hid ((b3.block _ ZB.out.lt).trans ZB.out : Boxed W3 w.heap.size 25 (.slice none 0 0))
  have HR3 := Lib.hid (HR2.out.below b3)
  have HM3 := Lib.hid (HM.out.below b3)
  have E3 := Lib.hid (E2.out.trans (b3.mono E2.out.size))
  rw [hW3]
  clear hW3 b3 ZB HR2 HM E2
  have q0 : W3.cell? ⟨w2.heap.size, 0, none⟩ = some (.slice a' os.length c) ∧ w2.heap.size < W3.heap.size := ⟨s0, s2⟩
  have qq := q0
  have hrW : (w.heap.size + 1) < W3.heap.size := by omega
  have hsA : intsB (fun s => decide (0 ≤ s) && decide (s ≤ 9999)) (#[.int .i64 0, .int .i64 3, .int .i64 8, .int .i64 15, .int .i64 30, .int .i64 9999] : Array Value).toList = true := by rfl
  have HSA := Lib.hid hsA
  clear hsA
  go_region_held3 (fun u => u.cell? ⟨w2.heap.size, 0, none⟩ = some (.slice a' os.length c) ∧ w2.heap.size < u.heap.size)
    (first | with_reducible exact qq | with_reducible exact keepM_drew qq | with_reducible exact keepM_alloc qq | with_reducible exact keepM_drew (keepM_alloc qq) | with_reducible exact keepM_set hne3 qq | with_reducible exact keepM_set hne4 qq | with_reducible exact keepM_set hne4 (keepM_set hne4 qq) | with_reducible exact keepM_set hne4 (keepM_set hne4 (keepM_set hne3 qq)) | with_reducible exact keepM_set hne3 (keepM_set hne4 (keepM_set hne4 qq)) | fail)
    (first
    | (go_at_call 72; (with_reducible refine (l20AnyKey_any (w.heap.size + 1) q _ HR3.out.drew (by omega)).mono ?_); rintro e w4 ⟨key, q4, hq4, hkey, rfl, hr4, ho4⟩; have hom : Only (w.heap.size + 1) W3 w4 := ((Only.refl (w.heap.size + 1) W3).drew).trans ho4; have qq := keepM_only hom hne2 q0; have HR4 := Lib.hid hr4; clear hr4)
    | (go_at_call 72; (with_reducible refine (l20AnyKey_any (w.heap.size + 1) q _ ((HR3.out.alloc _).drew) (by omega)).mono ?_); rintro e w4 ⟨key, q4, hq4, hkey, rfl, hr4, ho4⟩; have hom : Only (w.heap.size + 1) W3 w4 := (((Only.refl (w.heap.size + 1) W3).alloc _).drew).trans ho4; have qq := keepM_only hom hne2 q0; have HR4 := Lib.hid hr4; clear hr4)
    | (go_at_call 73; (with_reducible refine (oneB_any (fun s => decide (0 ≤ s) && decide (s ≤ 9999)) (w.heap.size + 1) q4 6 w4 _ #[.int .i64 0, .int .i64 3, .int .i64 8, .int .i64 15, .int .i64 30, .int .i64 9999] rfl HR4.out (by omega) HSA.out rfl (by omega) (by omega)).mono ?_); rintro e w5 ⟨id, hid, rfl, hr5, ho5⟩; have hoo : Only (w.heap.size + 1) W3 w5 := hom.trans ho5; have u0 := (boxed_go ZC.out hoo hne).cell; have u1 := (boxed_go ZC.out hoo hne).frozen; have u2 := (boxed_go ZC.out hoo hne).lt; have q1 := keepM_only hoo hne2 q0; have qq := q1; have p0 := q1.1; have p1 := q1.2)
    | (go_at_call 73; (with_reducible refine (oneBOld_any (fun s => decide (0 ≤ s) && decide (s ≤ 9999)) (w.heap.size + 1) q4 6 W3 w4 _ #[.int .i64 0, .int .i64 3, .int .i64 8, .int .i64 15, .int .i64 30, .int .i64 9999] rfl (((Only.refl (w.heap.size + 1) _).drew).trans ho4) hrW HR4.out (by omega) HSA.out rfl (by omega) (by omega)).mono ?_); rintro e w5 ⟨id, hid, rfl, hr5, ho5⟩; have hoo : Only (w.heap.size + 1) W3 w5 := hom.trans ho5; have u0 := (boxed_go ZC.out hoo hne).cell; have u1 := (boxed_go ZC.out hoo hne).frozen; have u2 := (boxed_go ZC.out hoo hne).lt; have q1 := keepM_only hoo hne2 q0; have qq := q1; have p0 := q1.1; have p1 := q1.2)
    | fail)
  all_goals
    have HOO := Lib.hid hoo
    clear hoo
    go_wp2_with fail
    refine bodyPost_ret (v := .tuple #[.agg #[.slice a' os.length c], .string key, .int .i64 id]) (by simp [results, Try.results24, go_sem, u0, u1]) rfl ⟨os, a', c, key, id, hkey, (by simp at hid; omega), (by simp at hid; omega), rfl, ?_, ?_⟩
    · exact ((HM3.out.go HOO.out (by omega)).set (p := ⟨w.heap.size, 0, none⟩) (by show w.heap.size < _; omega) _).lower (by omega)
    · exact (E3.out.trans (HOO.out.below (B := w.heap.size) (by omega) (by omega))).setCell (p := ⟨w.heap.size, 0, none⟩) (Nat.le_refl _) _

def SomeVmapPrune (w : World) (e : Ending) (w' : World) : Prop := ∃ (os : List ObjD) (a : Option Addr) (c : Nat) (id : Int), 0 ≤ id ∧ id ≤ 9999 ∧ e = .returned (.tuple #[.agg #[.slice a os.length c], .int .i64 id]) ∧ Md w.heap.size w' a os ∧ Below w.heap.size w w'

set_option maxRecDepth 100000 in
set_option maxHeartbeats 4000000 in
theorem drawVmapPrune_any (a : Option Addr) (len cap : Nat) (w : World) (h : BytesIn w a len cap) :
    Calls Try.prog 37 #[.slice a len cap] w (SomeVmapPrune w) := by
  have H := Lib.hid h
  clear h
  go_enter Try.func37, Try.ntmps37
  go_wp2_with fail
  obtain ⟨W0, hW0⟩ : ∃ W0, w.alloc (.cells #[.slice none 0 0] 25) = W0 := ⟨_, rfl⟩
  have b0 : Below w.heap.size w W0 := by rw [← hW0]; exact (Below.refl _ _).alloc (Nat.le_refl _) _
  have ZA0 : Boxed W0 w.heap.size 25 (.slice none 0 0) := by rw [← hW0]; exact Boxed.new _ _ _
  have g0 : W0.heap.size = w.heap.size + 1 := by rw [← hW0]; simp
  rw [hW0]
  clear hW0
  have HG0 := Lib.hid g0
  clear g0
  with_reducible refine (l20Open_any a len cap (w.heap.size + 1) W0 HG0.out (H.out.below (b0.mono (Nat.le_refl _)))).mono ?_
  rintro e w1 ⟨rfl, hr, hb1⟩
  have hb1' := hb1
  have hsz0 : w.heap.size < W0.heap.size := by rw [HG0.out]; omega
  have ZA := Lib.hid ((hb1.block _ ZA0.lt).trans ZA0 : Boxed w1 w.heap.size 25 (.slice none 0 0))
  have E1 := Lib.hid (b0.trans (hb1.mono b0.size))
  have HR := Lib.hid hr
  clear hr hb1 hb1' H b0 ZA0
  go_wp2_with fail
  with_reducible refine (l20AnyMap_any (w.heap.size + 1) 0 w1 HR.out (by omega)).mono ?_
  rintro e w2 ⟨os, a', c, q, hq, rfl, hm, hr, ho⟩
  have hr1 := hr.lt
  have hr0 := HR.out.lt
  have hne : w.heap.size ≠ (w.heap.size + 1) := by omega
  have hne1 : w.heap.size + 1 ≠ w.heap.size + 2 := by omega
  have hne2 : w2.heap.size ≠ (w.heap.size + 1) := by omega
  have hne3 : w2.heap.size ≠ w.heap.size := by omega
  have hne4 : w2.heap.size ≠ w.heap.size + 1 := by omega
  have ZB := Lib.hid (boxed_go ZA.out ho hne)
  have E2 := Lib.hid (E1.out.trans (ho.below (B := w.heap.size) (by omega) (by omega)))
  have HR2 := Lib.hid hr
  have HM := Lib.hid hm
  clear hr ho HR E1 ZA hm
  go_upto_region 3 with fail
  obtain ⟨W3, hW3⟩ : ∃ W3, w2.alloc (.cells #[.slice a' os.length c] 25) = W3 := ⟨_, rfl⟩
  have b3 : Below w2.heap.size w2 W3 := by rw [← hW3]; exact (Below.refl _ _).alloc (Nat.le_refl _) _
  have s0 : W3.cell? ⟨w2.heap.size, 0, none⟩ = some (.slice a' os.length c) := by rw [← hW3]; simp
  have s2 : w2.heap.size < W3.heap.size := by rw [← hW3]; simp
  have ZC := Lib.hid ((b3.block _ ZB.out.lt).trans ZB.out : Boxed W3 w.heap.size 25 (.slice none 0 0))
  have HR3 := Lib.hid (HR2.out.below b3)
  have HM3 := Lib.hid (HM.out.below b3)
  have E3 := Lib.hid (E2.out.trans (b3.mono E2.out.size))
  rw [hW3]
  clear hW3 b3 ZB HR2 HM E2
  have q0 : W3.cell? ⟨w2.heap.size, 0, none⟩ = some (.slice a' os.length c) ∧ w2.heap.size < W3.heap.size := ⟨s0, s2⟩
  have qq := q0
  have hrW : (w.heap.size + 1) < W3.heap.size := by omega
  have hsA : intsB (fun s => decide (0 ≤ s) && decide (s ≤ 9999)) (#[.int .i64 0, .int .i64 3, .int .i64 8, .int .i64 15, .int .i64 30, .int .i64 9999] : Array Value).toList = true := by rfl
  have HSA := Lib.hid hsA
  clear hsA
  go_region_held3 (fun u => u.cell? ⟨w2.heap.size, 0, none⟩ = some (.slice a' os.length c) ∧ w2.heap.size < u.heap.size)
    (first | with_reducible exact qq | with_reducible exact keepM_drew qq | with_reducible exact keepM_alloc qq | with_reducible exact keepM_drew (keepM_alloc qq) | with_reducible exact keepM_set hne3 qq | with_reducible exact keepM_set hne4 qq | with_reducible exact keepM_set hne4 (keepM_set hne4 qq) | with_reducible exact keepM_set hne4 (keepM_set hne4 (keepM_set hne3 qq)) | with_reducible exact keepM_set hne3 (keepM_set hne4 (keepM_set hne4 qq)) | fail)
    (first
    | (go_at_call 73; (with_reducible refine (oneBOld_any (fun s => decide (0 ≤ s) && decide (s ≤ 9999)) (w.heap.size + 1) q 6 W3 _ _ #[.int .i64 0, .int .i64 3, .int .i64 8, .int .i64 15, .int .i64 30, .int .i64 9999] rfl ((Only.refl (w.heap.size + 1) _).drew) hrW ((HR3.out.alloc _).drew) (by omega) HSA.out rfl (by omega) (by omega)).mono ?_); rintro e w5 ⟨id, hid, rfl, hr5, ho5⟩; have hoo : Only (w.heap.size + 1) W3 w5 := (((Only.refl (w.heap.size + 1) W3).alloc _).drew).trans ho5; have u0 := (boxed_go ZC.out hoo hne).cell; have u1 := (boxed_go ZC.out hoo hne).frozen; have u2 := (boxed_go ZC.out hoo hne).lt; have q1 := keepM_only hoo hne2 q0; have qq := q1; have p0 := q1.1; have p1 := q1.2)
    | fail)
  all_goals
    have HOO := Lib.hid hoo
    clear hoo
    go_wp2_with fail
    refine bodyPost_ret (v := .tuple #[.agg #[.slice a' os.length c], .int .i64 id]) (by simp [results, Try.results37, go_sem, u0, u1]) rfl ⟨os, a', c, id, (by simp at hid; omega), (by simp at hid; omega), rfl, ?_, ?_⟩
    · exact ((HM3.out.go HOO.out (by omega)).set (p := ⟨w.heap.size, 0, none⟩) (by show w.heap.size < _; omega) _).lower (by omega)
    · exact (E3.out.trans (HOO.out.below (B := w.heap.size) (by omega) (by omega))).setCell (p := ⟨w.heap.size, 0, none⟩) (Nat.le_refl _) _

def SomeVmapCut (w : World) (e : Ending) (w' : World) : Prop := ∃ (os : List ObjD) (a : Option Addr) (c : Nat) (lo hi : ByteArray), lo.size ≤ maxLen ∧ hi.size ≤ maxLen ∧ e = .returned (.tuple #[.agg #[.slice a os.length c], .agg #[.string lo, .string hi]]) ∧ Md w.heap.size w' a os ∧ Below w.heap.size w w'

set_option maxRecDepth 100000 in
set_option maxHeartbeats 4000000 in
theorem drawVmapCut_any (a : Option Addr) (len cap : Nat) (w : World) (h : BytesIn w a len cap) :
    Calls Try.prog 27 #[.slice a len cap] w (SomeVmapCut w) := by
  have H := Lib.hid h
  clear h
  go_enter Try.func27, Try.ntmps27
  go_wp2_with fail
  obtain ⟨W0, hW0⟩ : ∃ W0, (w.alloc (.cells #[.slice none 0 0] 25)).alloc (.cells #[.string ⟨#[]⟩, .string ⟨#[]⟩] 47) = W0 := ⟨_, rfl⟩
  have b0 : Below w.heap.size w W0 := by rw [← hW0]; exact ((Below.refl _ _).alloc (Nat.le_refl _) _).alloc (by simp) _
  have ZA0 : Boxed W0 w.heap.size 25 (.slice none 0 0) := by rw [← hW0]; exact (Boxed.new _ _ _).alloc _
  have ZS0 : Zr (.string ⟨#[]⟩) (.string ⟨#[]⟩) (w.heap.size + 1) W0 := by rw [← hW0]; have := Zr.made (.string ⟨#[]⟩) (.string ⟨#[]⟩) 47 (w.alloc (.cells #[.slice none 0 0] 25)); simpa using this
  have g0 : W0.heap.size = w.heap.size + 2 := by rw [← hW0]; simp
  rw [hW0]
  clear hW0
  have HG0 := Lib.hid g0
  clear g0
  with_reducible refine (l20Open_any a len cap (w.heap.size + 2) W0 HG0.out (H.out.below (b0.mono (Nat.le_refl _)))).mono ?_
  rintro e w1 ⟨rfl, hr, hb1⟩
  have hb1' := hb1
  have hsz0 : w.heap.size < W0.heap.size := by rw [HG0.out]; omega
  have ZA := Lib.hid ((hb1.block _ ZA0.lt).trans ZA0 : Boxed w1 w.heap.size 25 (.slice none 0 0))
  have ZS := Lib.hid (ZS0.below hb1)
  have E1 := Lib.hid (b0.trans (hb1.mono b0.size))
  have HR := Lib.hid hr
  clear hr hb1 hb1' H b0 ZA0 ZS0
  go_wp2_with fail
  with_reducible refine (l20AnyMap_any (w.heap.size + 2) 0 w1 HR.out (by omega)).mono ?_
  rintro e w2 ⟨os, a', c, q, hq, rfl, hm, hr, ho⟩
  have hr1 := hr.lt
  have hr0 := HR.out.lt
  have hne : w.heap.size ≠ (w.heap.size + 2) := by omega
  have hne1 : w.heap.size + 1 ≠ w.heap.size + 2 := by omega
  have hne2 : w2.heap.size ≠ (w.heap.size + 2) := by omega
  have hne3 : w2.heap.size ≠ w.heap.size := by omega
  have hne4 : w2.heap.size ≠ w.heap.size + 1 := by omega
  have ZB := Lib.hid (boxed_go ZA.out ho hne)
  have ZT := Lib.hid (ZS.out.only ho hne1)
  have E2 := Lib.hid (E1.out.trans (ho.below (B := w.heap.size) (by omega) (by omega)))
  have HR2 := Lib.hid hr
  have HM := Lib.hid hm
  clear hr ho HR E1 ZA hm ZS
  go_upto_region 3 with fail
  obtain ⟨W3, hW3⟩ : ∃ W3, w2.alloc (.cells #[.slice a' os.length c] 25) = W3 := ⟨_, rfl⟩
  have b3 : Below w2.heap.size w2 W3 := by rw [← hW3]; exact (Below.refl _ _).alloc (Nat.le_refl _) _
  have s0 : W3.cell? ⟨w2.heap.size, 0, none⟩ = some (.slice a' os.length c) := by rw [← hW3]; simp
  have s2 : w2.heap.size < W3.heap.size := by rw [← hW3]; simp
  have ZC := Lib.hid ((b3.block _ ZB.out.lt).trans ZB.out : Boxed W3 w.heap.size 25 (.slice none 0 0))
  have ZU := Lib.hid (ZT.out.below b3)
  have HR3 := Lib.hid (HR2.out.below b3)
  have HM3 := Lib.hid (HM.out.below b3)
  have E3 := Lib.hid (E2.out.trans (b3.mono E2.out.size))
  rw [hW3]
  clear hW3 b3 ZB HR2 HM E2 ZT
  have q0 : W3.cell? ⟨w2.heap.size, 0, none⟩ = some (.slice a' os.length c) ∧ w2.heap.size < W3.heap.size := ⟨s0, s2⟩
  have qq := q0
  have hrW : (w.heap.size + 2) < W3.heap.size := by omega
  go_region_held3 (fun u => u.cell? ⟨w2.heap.size, 0, none⟩ = some (.slice a' os.length c) ∧ w2.heap.size < u.heap.size)
    (first | with_reducible exact qq | with_reducible exact keepM_drew qq | with_reducible exact keepM_alloc qq | with_reducible exact keepM_drew (keepM_alloc qq) | with_reducible exact keepM_set hne3 qq | with_reducible exact keepM_set hne4 qq | with_reducible exact keepM_set hne4 (keepM_set hne4 qq) | with_reducible exact keepM_set hne4 (keepM_set hne4 (keepM_set hne3 qq)) | with_reducible exact keepM_set hne3 (keepM_set hne4 (keepM_set hne4 qq)) | fail)
    (first
    | (go_at_call 92; (with_reducible refine (l20AnySpan_any (w.heap.size + 2) q _ HR3.out.drew (by omega)).mono ?_); rintro e w5 ⟨lo, hi, q5, hq5, hlo, hhi, rfl, hr5, ho5⟩; have hoo : Only (w.heap.size + 2) W3 w5 := ((Only.refl (w.heap.size + 2) W3).drew).trans ho5; have u0 := (boxed_go ZC.out hoo hne).cell; have u1 := (boxed_go ZC.out hoo hne).frozen; have u2 := (boxed_go ZC.out hoo hne).lt; have q1 := keepM_only hoo hne2 q0; have qq := q1; have p0 := q1.1; have p1 := q1.2; have k0 := (ZU.out.only hoo hne1).c0; have k1 := (ZU.out.only hoo hne1).c1; have k2 := (ZU.out.only hoo hne1).f0; have k3 := (ZU.out.only hoo hne1).f1; have k4 := (ZU.out.only hoo hne1).lt)
    | fail)
  all_goals
    have HOO := Lib.hid hoo
    clear hoo
    go_wp2_with fail
    refine bodyPost_ret (v := .tuple #[.agg #[.slice a' os.length c], .agg #[.string lo, .string hi]]) (by simp [results, Try.results27, go_sem, u0, u1, k0, k1]) rfl ⟨os, a', c, lo, hi, hlo, hhi, rfl, ?_, ?_⟩
    · first
        | exact (((((HM3.out.go HOO.out (by omega)).set (p := ⟨w.heap.size, 0, none⟩) (by show w.heap.size < _; omega) _).set (p := ⟨w.heap.size + 1, 0, none⟩) (by show w.heap.size + 1 < _; omega) _).set (p := ⟨w.heap.size + 1, 1, none⟩) (by show w.heap.size + 1 < _; omega) _).lower (by omega))
        | exact (((((HM3.out.go HOO.out (by omega)).set (p := ⟨w.heap.size + 1, 0, none⟩) (by show w.heap.size + 1 < _; omega) _).set (p := ⟨w.heap.size + 1, 1, none⟩) (by show w.heap.size + 1 < _; omega) _).set (p := ⟨w.heap.size, 0, none⟩) (by show w.heap.size < _; omega) _).lower (by omega))
    · first
        | exact (((E3.out.trans (HOO.out.below (B := w.heap.size) (by omega) (by omega))).setCell (p := ⟨w.heap.size, 0, none⟩) (Nat.le_refl _) _).setCell (p := ⟨w.heap.size + 1, 0, none⟩) (by show w.heap.size ≤ w.heap.size + 1; omega) _).setCell (p := ⟨w.heap.size + 1, 1, none⟩) (by show w.heap.size ≤ w.heap.size + 1; omega) _
        | exact (((E3.out.trans (HOO.out.below (B := w.heap.size) (by omega) (by omega))).setCell (p := ⟨w.heap.size + 1, 0, none⟩) (by show w.heap.size ≤ w.heap.size + 1; omega) _).setCell (p := ⟨w.heap.size + 1, 1, none⟩) (by show w.heap.size ≤ w.heap.size + 1; omega) _).setCell (p := ⟨w.heap.size, 0, none⟩) (Nat.le_refl _) _

end Go.Proofs.Ytjijichgoodocaa
