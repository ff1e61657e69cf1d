/- Drawing two maps that may be joined. -/
import Derived.Test.YtjijichgoodocaaDrawM
import Derived.Test.YtjijichgoodocaaCpV
import Derived.Test.YtjijichgoodocaaFvP
namespace Go.Proofs.Ytjijichgoodocaa
open Go.RowKit

theorem keepM_below {n : Nat} {x : Value} {u v : World} (hb : Below u.heap.size u v) (h : u.cell? ⟨n, 0, none⟩ = some x ∧ n < u.heap.size) : v.cell? ⟨n, 0, none⟩ = some x ∧ n < v.heap.size := ⟨(hb.cell (p := ⟨n, 0, none⟩) h.2).trans h.1, Nat.lt_of_lt_of_le h.2 hb.size⟩
theorem VmAt.setLow {u : World} {lo hi r : Nat} {a : Option Addr} {cs : List ObjD} {x : Value} (h : VmAt u lo hi a cs) (hr : r < lo) : VmAt (u.setCell ⟨r, 0, none⟩ x) lo hi a cs :=
  h.turned (S := fun b => b = r) (fun b h1 h2 e => by omega) ((Turned.refl (fun b => b = r) _).setCell (p := ⟨r, 0, none⟩) rfl _)
theorem Md.of_kv {w : World} {lo hi : Nat} {a : Option Addr} {cs : List ObjD} {kvs : List Kv} (h : VmAt w lo hi a cs) (e : cs.map ObjD.kv = kvs) (hf : kvFits kvs) (hn : kvs.length ≤ 20) (hv : ∀ p ∈ kvs, p.2.length ≤ 20) : Md lo w a cs :=
  Md.of_at h (fits_of_kv e hf) (by rw [← e, List.length_map] at hn; exact hn) (fun o ho => hv o.kv (by rw [← e]; exact List.mem_map_of_mem ho))
theorem Md.kvf {lo : Nat} {w : World} {a : Option Addr} {os : List ObjD} (h : Md lo w a os) : kvFits (os.map ObjD.kv) := kvFits_of h.fits
theorem Md.kvl {lo : Nat} {w : World} {a : Option Addr} {os : List ObjD} (h : Md lo w a os) : (os.map ObjD.kv).length ≤ 20 := by rw [List.length_map]; exact h.len
theorem Md.kvv {lo : Nat} {w : World} {a : Option Addr} {os : List ObjD} (h : Md lo w a os) : ∀ p ∈ os.map ObjD.kv, p.2.length ≤ 20 := fun p hp => by
  obtain ⟨o, ho, rfl⟩ := List.mem_map.1 hp
  exact h.vl o ho
/-- What is cut out of a drawn map. -/
theorem l2Cut_d {lo0 : Nat} {a : Option Addr} {os : List ObjD} {w : World} (h : Md lo0 w a os) (cap : Nat) (lo hi : ByteArray) : Calls Try.prog 95 #[.agg #[.slice a os.length cap], .agg #[.string lo, .string hi]] w fun e w' => ∃ b cs c, e = .returned (.agg #[.slice b cs.length c]) ∧ Md w.heap.size w' b cs ∧ Below w.heap.size w w' :=
  (l2Cut_any a os cap lo hi w h.inn h.pl h.n h.vn).mono fun e w' ⟨b, cs, c, hk, he, hat, hb⟩ => ⟨b, cs, c, he, Md.of_kv hat hk (fun p hp => h.kvf p (List.mem_filter.1 hp).1) (Nat.le_trans (List.length_filter_le _ _) h.kvl) (fun p hp => h.kvv p (List.mem_filter.1 hp).1), hb⟩

def SomeMaps (w : World) (e : Ending) (w' : World) : Prop := ∃ (os : List ObjD) (a : Option Addr) (c : Nat) (ps : List ObjD) (b : Option Addr) (d : Nat), e = .returned (.tuple #[.agg #[.slice a os.length c], .agg #[.slice b ps.length d]]) ∧ Md w.heap.size w' a os ∧ Md w.heap.size w' b ps ∧ Below w.heap.size w w'

set_option maxRecDepth 100000 in
set_option maxHeartbeats 4000000 in
theorem drawVmapJoin_any (a : Option Addr) (len cap : Nat) (w : World) (h : BytesIn w a len cap) :
    Calls Try.prog 35 #[.slice a len cap] w (SomeMaps w) := by
  have H := Lib.hid h
  clear h
  go_enter Try.func35, Try.ntmps35
  go_wp2_with fail
  obtain ⟨W0, hW0⟩ : ∃ W0, (w.alloc (.cells #[.slice none 0 0] 25)).alloc (.cells #[.slice none 0 0] 25) = W0 := ⟨_, rfl⟩
  have b0 : Below w.heap.size w W0 := by rw [← hW0]; exact ((Below.refl _ _).alloc (Nat.le_refl _) _).alloc (by simp) _
  have ZA0 : Boxed W0 w.heap.size 25 (.slice none 0 0) := by rw [← hW0]; exact (Boxed.new _ _ _).alloc _
  have ZS0 : Boxed W0 (w.heap.size + 1) 25 (.slice none 0 0) := by rw [← hW0]; have := Boxed.new (w.alloc (.cells #[.slice none 0 0] 25)) 25 (.slice none 0 0); simpa using this
  have g0 : W0.heap.size = w.heap.size + 2 := by rw [← hW0]; simp
  rw [hW0]
  clear hW0
  have HG0 := Lib.hid g0
  clear g0
  with_reducible refine (l20Open_any a len cap (w.heap.size + 2) W0 HG0.out (H.out.below (b0.mono (Nat.le_refl _)))).mono ?_
  rintro e w1 ⟨rfl, hr, hb1⟩
  have ZA := Lib.hid ((hb1.block _ ZA0.lt).trans ZA0 : Boxed w1 w.heap.size 25 (.slice none 0 0))
  have ZS := Lib.hid ((hb1.block _ ZS0.lt).trans ZS0 : Boxed w1 (w.heap.size + 1) 25 (.slice none 0 0))
  have E1 := Lib.hid (b0.trans (hb1.mono b0.size))
  have HR := Lib.hid hr
  clear hr hb1 H b0 ZA0 ZS0
  go_wp2_with fail
  with_reducible refine (l20AnyMap_any (w.heap.size + 2) 0 w1 HR.out (by omega)).mono ?_
  rintro e w2 ⟨os, a', c, q, hq, rfl, hm, hr, ho⟩
  have hr1 := hr.lt
  have hr0 := HR.out.lt
  have hne : w.heap.size ≠ w.heap.size + 2 := by omega
  have hne1 : w.heap.size + 1 ≠ w.heap.size + 2 := by omega
  have hne2 : w2.heap.size ≠ w.heap.size + 2 := by omega
  have hne3 : w2.heap.size ≠ w.heap.size := by omega
  have hne4 : w2.heap.size ≠ w.heap.size + 1 := by omega
  have ZB := Lib.hid (boxed_go ZA.out ho hne)
  have ZT := Lib.hid (boxed_go ZS.out ho hne1)
  have E2 := Lib.hid (E1.out.trans (ho.below (B := w.heap.size) (by omega) (by omega)))
  have HR2 := Lib.hid hr
  have HM := Lib.hid hm
  clear hr ho HR E1 ZA hm ZS
  obtain ⟨W3, hW3⟩ : ∃ W3, w2.alloc (.cells #[.slice a' os.length c] 25) = W3 := ⟨_, rfl⟩
  have b3 : Below w2.heap.size w2 W3 := by rw [← hW3]; exact (Below.refl _ _).alloc (Nat.le_refl _) _
  have s0 : W3.cell? ⟨w2.heap.size, 0, none⟩ = some (.slice a' os.length c) := by rw [← hW3]; simp
  have s2 : w2.heap.size < W3.heap.size := by rw [← hW3]; simp
  have ZC := Lib.hid ((b3.block _ ZB.out.lt).trans ZB.out : Boxed W3 w.heap.size 25 (.slice none 0 0))
  have ZU := Lib.hid ((b3.block _ ZT.out.lt).trans ZT.out : Boxed W3 (w.heap.size + 1) 25 (.slice none 0 0))
  have HR3 := Lib.hid (HR2.out.below b3)
  have HM3 := Lib.hid (HM.out.below b3)
  have E3 := Lib.hid (E2.out.trans (b3.mono E2.out.size))
  clear b3 ZB HR2 HM E2 ZT
  go_wp2_with fail
  clear hW3
  refine (pick_any (w.heap.size + 2) q 4 _ HR3.out (by omega) (by omega) (by omega)).mono ?_
  rintro e w4 ⟨n, hn0, hn1, rfl, hr, ho⟩
  have ZD := Lib.hid (boxed_go ZC.out ho hne)
  have ZV := Lib.hid (boxed_go ZU.out ho hne1)
  have s4 := (ho.cell (p := ⟨w2.heap.size, 0, none⟩) s2 hne2).trans s0
  have s5 : w2.heap.size < w4.heap.size := Nat.lt_of_lt_of_le s2 ho.size
  have HR4 := Lib.hid hr
  have HM4 := Lib.hid (HM3.out.go ho (by omega))
  have E4 := Lib.hid (E3.out.trans (ho.below (B := w.heap.size) (by omega) (by omega)))
  clear hr ho HR3 HM3 E3 ZC ZU s0 s2
  obtain ⟨ok, hok⟩ := mok_ex os
  have HOK := Lib.hid hok
  clear hok
  by_cases hz : n > 0 ∧ ok = true
  · obtain ⟨hz, rfl⟩ := hz
    have hzd : decide (0 < n) = true := by simpa using hz
    go_wp2_with fail
    refine (l2Ok_any a' os c _ HM4.out.inn HM4.out.fits HM4.out.nm).mono ?_
    rintro e w5 ⟨b, rfl, hb, hb5⟩
    obtain rfl : b = true := hb.2 (HOK.out.1 rfl)
    have ZE := Lib.hid ((hb5.block _ ZD.out.lt).trans ZD.out : Boxed w5 w.heap.size 25 (.slice none 0 0))
    have ZW := Lib.hid ((hb5.block _ ZV.out.lt).trans ZV.out : Boxed w5 (w.heap.size + 1) 25 (.slice none 0 0))
    have s6 := (hb5.cell (p := ⟨w2.heap.size, 0, none⟩) s5).trans s4
    have s7 : w2.heap.size < w5.heap.size := Nat.lt_of_lt_of_le s5 hb5.size
    have HR5 := Lib.hid (HR4.out.below hb5)
    have HM5 := Lib.hid (HM4.out.below hb5)
    have E5 := Lib.hid (E4.out.trans (hb5.mono E4.out.size))
    clear hb hb5 HR4 HM4 E4 ZD ZV s4 s5
    go_wp2_with fail
    refine (l20Key_any (w.heap.size + 2) (q + 1) _ HR5.out (by omega)).mono ?_
    rintro e w6 ⟨key, hkey, rfl, hr, ho⟩
    have ZF := Lib.hid (boxed_go ZE.out ho hne)
    have ZX := Lib.hid (boxed_go ZW.out ho hne1)
    have s8 := (ho.cell (p := ⟨w2.heap.size, 0, none⟩) s7 hne2).trans s6
    have s9 : w2.heap.size < w6.heap.size := Nat.lt_of_lt_of_le s7 ho.size
    have HM6 := Lib.hid (HM5.out.go ho (by omega))
    have E6 := Lib.hid (E5.out.trans (ho.below (B := w.heap.size) (by omega) (by omega)))
    clear hr ho HR5 HM5 E5 ZE ZW s6 s7
    have q0 : w6.cell? ⟨w2.heap.size, 0, none⟩ = some (.slice a' os.length c) ∧ w2.heap.size < w6.heap.size := ⟨s8, s9⟩
    have qq := q0
    have hlw : w.heap.size + 2 ≤ w6.heap.size := by omega
    go_wp2_with fail
    go_region_held3 (fun u => u.cell? ⟨w2.heap.size, 0, none⟩ = some (.slice a' os.length c) ∧ w2.heap.size < u.heap.size)
      (first | with_reducible exact qq | with_reducible exact keepM_drew qq | with_reducible exact keepM_set hne3 qq | with_reducible exact keepM_set hne4 qq | with_reducible exact keepM_set hne4 (keepM_set hne3 qq) | with_reducible exact keepM_set hne3 (keepM_set hne4 qq) | fail)
      (first
        | (go_at_call 95; (with_reducible refine (l2Cut_d (HM6.out.below ((Below.refl _ _).drew)) c ⟨#[]⟩ key).mono ?_); rintro e v1 ⟨b1, cs1, c1, rfl, hm1, hb⟩; have hb1 : Below w6.heap.size w6 v1 := ((Below.refl w6.heap.size w6).drew).trans hb; have qq := keepM_below hb1 q0; have HM7 := Lib.hid hm1; clear hb hm1)
        | (go_at_call 95; (with_reducible refine (l2Cut_d (HM6.out.below hb1) c key ⟨#[]⟩).mono ?_); rintro e v2 ⟨b2, cs2, c2, rfl, hm2, hb⟩; have hb2 : Below w6.heap.size w6 v2 := hb1.trans (hb.mono hb1.size); have qq := keepM_below hb2 q0; have HM8 := Lib.hid (HM7.out.below hb); have HM9 := Lib.hid hm2; have hz1 : w6.heap.size ≤ v1.heap.size := hb1.size; have u0 := (show Boxed v2 w.heap.size 25 (.slice none 0 0) from (hb2.block _ ZF.out.lt).trans ZF.out).cell; have u1 := (show Boxed v2 w.heap.size 25 (.slice none 0 0) from (hb2.block _ ZF.out.lt).trans ZF.out).frozen; have u2 := (show Boxed v2 w.heap.size 25 (.slice none 0 0) from (hb2.block _ ZF.out.lt).trans ZF.out).lt; have k0 := (show Boxed v2 (w.heap.size + 1) 25 (.slice none 0 0) from (hb2.block _ ZX.out.lt).trans ZX.out).cell; have k1 := (show Boxed v2 (w.heap.size + 1) 25 (.slice none 0 0) from (hb2.block _ ZX.out.lt).trans ZX.out).frozen; have k2 := (show Boxed v2 (w.heap.size + 1) 25 (.slice none 0 0) from (hb2.block _ ZX.out.lt).trans ZX.out).lt; have HB2 := Lib.hid (E6.out.trans (hb2.mono E6.out.size)); clear hb)
        | fail)
    all_goals
      clear hb1 hb2
      go_wp2_with fail
      refine bodyPost_ret (v := .tuple #[.agg #[.slice b1 cs1.length c1], .agg #[.slice b2 cs2.length c2]]) (by simp [results, Try.results35, go_sem, u0, u1, k0, k1]) rfl ⟨cs1, b1, c1, cs2, b2, c2, rfl, ?_, ?_, ?_⟩
      · first
        | exact (((HM8.out.set (p := ⟨w.heap.size, 0, none⟩) (by show w.heap.size < w6.heap.size; omega) _).set (p := ⟨w.heap.size + 1, 0, none⟩) (by show w.heap.size + 1 < w6.heap.size; omega) _).lower (show w.heap.size ≤ w6.heap.size by omega))
        | exact (((HM8.out.set (p := ⟨w.heap.size + 1, 0, none⟩) (by show w.heap.size + 1 < w6.heap.size; omega) _).set (p := ⟨w.heap.size, 0, none⟩) (by show w.heap.size < w6.heap.size; omega) _).lower (show w.heap.size ≤ w6.heap.size by omega))
      · first
        | exact (((HM9.out.set (p := ⟨w.heap.size, 0, none⟩) (by show w.heap.size < v1.heap.size; omega) _).set (p := ⟨w.heap.size + 1, 0, none⟩) (by show w.heap.size + 1 < v1.heap.size; omega) _).lower (show w.heap.size ≤ v1.heap.size by omega))
        | exact (((HM9.out.set (p := ⟨w.heap.size + 1, 0, none⟩) (by show w.heap.size + 1 < v1.heap.size; omega) _).set (p := ⟨w.heap.size, 0, none⟩) (by show w.heap.size < v1.heap.size; omega) _).lower (show w.heap.size ≤ v1.heap.size by omega))
      · first
        | exact (HB2.out.setCell (p := ⟨w.heap.size, 0, none⟩) (Nat.le_refl _) _).setCell (p := ⟨w.heap.size + 1, 0, none⟩) (by show w.heap.size ≤ w.heap.size + 1; omega) _
        | exact (HB2.out.setCell (p := ⟨w.heap.size + 1, 0, none⟩) (by show w.heap.size ≤ w.heap.size + 1; omega) _).setCell (p := ⟨w.heap.size, 0, none⟩) (Nat.le_refl _) _
  · have hnz : ¬ (n > 0) ∨ ok = false := by
      by_cases h : n > 0
      · exact .inr (by cases ok; rfl; exact absurd ⟨h, rfl⟩ hz)
      · exact .inl h
    clear hz
    rcases Int.lt_or_le 0 n with hp | hp
    · obtain rfl : ok = false := by rcases hnz with h | h; exact absurd hp h; exact h
      clear hnz
      have hzd : decide (0 < n) = true := by simpa using hp
      go_wp2_with fail
      refine (l2Ok_any a' os c _ HM4.out.inn HM4.out.fits HM4.out.nm).mono ?_
      rintro e w5 ⟨b, rfl, hb, hb5⟩
      obtain rfl : b = false := by
        cases b
        · rfl
        · exact absurd (HOK.out.2 (hb.1 rfl)) (by decide)
      have ZE := Lib.hid ((hb5.block _ ZD.out.lt).trans ZD.out : Boxed w5 w.heap.size 25 (.slice none 0 0))
      have ZW := Lib.hid ((hb5.block _ ZV.out.lt).trans ZV.out : Boxed w5 (w.heap.size + 1) 25 (.slice none 0 0))
      have s6 := (hb5.cell (p := ⟨w2.heap.size, 0, none⟩) s5).trans s4
      have s7 : w2.heap.size < w5.heap.size := Nat.lt_of_lt_of_le s5 hb5.size
      have HR5 := Lib.hid (HR4.out.below hb5)
      have HM5 := Lib.hid (HM4.out.below hb5)
      have E5 := Lib.hid (E4.out.trans (hb5.mono E4.out.size))
      clear hb hb5 HR4 HM4 E4 ZD ZV s4 s5
      go_wp2_with fail
      have q0 : w5.cell? ⟨w2.heap.size, 0, none⟩ = some (.slice a' os.length c) ∧ w2.heap.size < w5.heap.size := ⟨s6, s7⟩
      have qq := q0
      have hlw : w.heap.size + 2 < w5.heap.size := by omega
      go_region_held3 (fun u => u.cell? ⟨w2.heap.size, 0, none⟩ = some (.slice a' os.length c) ∧ w2.heap.size < u.heap.size)
        (first | with_reducible exact qq | with_reducible exact keepM_drew qq | with_reducible exact keepM_set hne3 qq | with_reducible exact keepM_set hne4 qq | with_reducible exact keepM_set hne4 (keepM_set hne3 qq) | with_reducible exact keepM_set hne3 (keepM_set hne4 qq) | fail)
        (first
          | (go_at_call 71; (with_reducible refine (l20AnyMap_any (w.heap.size + 2) (q + 1) _ HR5.out.drew (by omega)).mono ?_); rintro e v2 ⟨ps, b2, c2, q2, hq2, rfl, hm2, hr2, ho2⟩; have hoo : Only (w.heap.size + 2) w5 v2 := ((Only.refl _ w5).drew).trans ho2; have qq := keepM_only hoo hne2 q0; have HM8 := Lib.hid (HM5.out.go hoo (by omega)); have HM9 := Lib.hid hm2; have u0 := (boxed_go ZE.out hoo hne).cell; have u1 := (boxed_go ZE.out hoo hne).frozen; have u2 := (boxed_go ZE.out hoo hne).lt; have k0 := (boxed_go ZW.out hoo hne1).cell; have k1 := (boxed_go ZW.out hoo hne1).frozen; have k2 := (boxed_go ZW.out hoo hne1).lt; have HB2 := Lib.hid (E5.out.trans (hoo.below (B := w.heap.size) (by omega) (by omega))); clear hr2 hm2)
          | fail)
      all_goals
        clear hoo ho2
        go_wp2_with fail
        have hlw2 : w.heap.size + 1 < w5.drew.heap.size + 1 := by show w.heap.size + 1 < w5.heap.size + 1; omega
        refine bodyPost_ret (v := .tuple #[.agg #[.slice a' os.length c], .agg #[.slice b2 ps.length c2]]) (by simp [results, Try.results35, go_sem, u0, u1, k0, k1]) rfl ⟨os, a', c, ps, b2, c2, rfl, ?_, ?_, ?_⟩
        · first
          | exact (((HM8.out.set (p := ⟨w.heap.size, 0, none⟩) (by show w.heap.size < w1.heap.size + 1; omega) _).set (p := ⟨w.heap.size + 1, 0, none⟩) (by show w.heap.size + 1 < w1.heap.size + 1; omega) _).lower (by omega))
          | exact (((HM8.out.set (p := ⟨w.heap.size + 1, 0, none⟩) (by show w.heap.size + 1 < w1.heap.size + 1; omega) _).set (p := ⟨w.heap.size, 0, none⟩) (by show w.heap.size < w1.heap.size + 1; omega) _).lower (by omega))
        · first
          | exact (((HM9.out.set (p := ⟨w.heap.size, 0, none⟩) (by show w.heap.size < _; omega) _).set (p := ⟨w.heap.size + 1, 0, none⟩) hlw2 _).lower (by show w.heap.size ≤ w5.heap.size + 1; omega))
          | exact (((HM9.out.set (p := ⟨w.heap.size + 1, 0, none⟩) hlw2 _).set (p := ⟨w.heap.size, 0, none⟩) (by show w.heap.size < w5.heap.size + 1; omega) _).lower (by show w.heap.size ≤ w5.heap.size + 1; omega))
        · first
          | exact (HB2.out.setCell (p := ⟨w.heap.size, 0, none⟩) (Nat.le_refl _) _).setCell (p := ⟨w.heap.size + 1, 0, none⟩) (by show w.heap.size ≤ w.heap.size + 1; omega) _
          | exact (HB2.out.setCell (p := ⟨w.heap.size + 1, 0, none⟩) (by show w.heap.size ≤ w.heap.size + 1; omega) _).setCell (p := ⟨w.heap.size, 0, none⟩) (Nat.le_refl _) _
    · have hzd : decide (0 < n) = false := by simpa using hp
      clear hnz
      go_wp2_with fail
      have q0 : w4.cell? ⟨w2.heap.size, 0, none⟩ = some (.slice a' os.length c) ∧ w2.heap.size < w4.heap.size := ⟨s4, s5⟩
      have qq := q0
      have hlw : w.heap.size + 2 < w4.heap.size := by omega
      go_region_held3 (fun u => u.cell? ⟨w2.heap.size, 0, none⟩ = some (.slice a' os.length c) ∧ w2.heap.size < u.heap.size)
        (first | with_reducible exact qq | with_reducible exact keepM_drew qq | with_reducible exact keepM_set hne3 qq | with_reducible exact keepM_set hne4 qq | with_reducible exact keepM_set hne4 (keepM_set hne3 qq) | with_reducible exact keepM_set hne3 (keepM_set hne4 qq) | fail)
        (first
          | (go_at_call 71; (with_reducible refine (l20AnyMap_any (w.heap.size + 2) (q + 1) _ HR4.out.drew (by omega)).mono ?_); rintro e v2 ⟨ps, b2, c2, q2, hq2, rfl, hm2, hr2, ho2⟩; have hoo : Only (w.heap.size + 2) w4 v2 := ((Only.refl _ w4).drew).trans ho2; have qq := keepM_only hoo hne2 q0; have HM8 := Lib.hid (HM4.out.go hoo (by omega)); have HM9 := Lib.hid hm2; have u0 := (boxed_go ZD.out hoo hne).cell; have u1 := (boxed_go ZD.out hoo hne).frozen; have u2 := (boxed_go ZD.out hoo hne).lt; have k0 := (boxed_go ZV.out hoo hne1).cell; have k1 := (boxed_go ZV.out hoo hne1).frozen; have k2 := (boxed_go ZV.out hoo hne1).lt; have HB2 := Lib.hid (E4.out.trans (hoo.below (B := w.heap.size) (by omega) (by omega))); clear hr2 hm2)
          | fail)
      all_goals
        clear hoo ho2
        go_wp2_with fail
        have hlw2 : w.heap.size + 1 < w4.drew.heap.size + 1 := by show w.heap.size + 1 < w4.heap.size + 1; omega
        refine bodyPost_ret (v := .tuple #[.agg #[.slice a' os.length c], .agg #[.slice b2 ps.length c2]]) (by simp [results, Try.results35, go_sem, u0, u1, k0, k1]) rfl ⟨os, a', c, ps, b2, c2, rfl, ?_, ?_, ?_⟩
        · first
          | exact (((HM8.out.set (p := ⟨w.heap.size, 0, none⟩) (by show w.heap.size < w1.heap.size + 1; omega) _).set (p := ⟨w.heap.size + 1, 0, none⟩) (by show w.heap.size + 1 < w1.heap.size + 1; omega) _).lower (by omega))
          | exact (((HM8.out.set (p := ⟨w.heap.size + 1, 0, none⟩) (by show w.heap.size + 1 < w1.heap.size + 1; omega) _).set (p := ⟨w.heap.size, 0, none⟩) (by show w.heap.size < w1.heap.size + 1; omega) _).lower (by omega))
        · first
          | exact (((HM9.out.set (p := ⟨w.heap.size, 0, none⟩) (by show w.heap.size < _; omega) _).set (p := ⟨w.heap.size + 1, 0, none⟩) hlw2 _).lower (by show w.heap.size ≤ w4.heap.size + 1; omega))
          | exact (((HM9.out.set (p := ⟨w.heap.size + 1, 0, none⟩) hlw2 _).set (p := ⟨w.heap.size, 0, none⟩) (by show w.heap.size < w4.heap.size + 1; omega) _).lower (by show w.heap.size ≤ w4.heap.size + 1; omega))
        · first
          | exact (HB2.out.setCell (p := ⟨w.heap.size, 0, none⟩) (Nat.le_refl _) _).setCell (p := ⟨w.heap.size + 1, 0, none⟩) (by show w.heap.size ≤ w.heap.size + 1; omega) _
          | exact (HB2.out.setCell (p := ⟨w.heap.size + 1, 0, none⟩) (by show w.heap.size ≤ w.heap.size + 1; omega) _).setCell (p := ⟨w.heap.size, 0, none⟩) (Nat.le_refl _) _
end Go.Proofs.Ytjijichgoodocaa
