/- Drawing a map of parts, and a row or a key beside it. -/
import Derived.Test.YtodpodgdhiadnaaDrawS
namespace Go.Proofs.Ytodpodgdhiadnaa
open Go.RowKit

/-- A map of parts that was drawn: whatever it holds, it is small. -/
structure PmDrawn (w : World) (a : Option Addr) (vs : List RowD) (c : Nat) : Prop where
  inn : RowsIn w a vs
  fits : ∀ v ∈ vs, v.fits
  pos : 0 < vs.length
  five : vs.length ≤ 5
  cap : vs.length ≤ c ∧ c ≤ maxLen
theorem PmDrawn.below {w u : World} {a : Option Addr} {vs : List RowD} {c : Nat} (h : PmDrawn w a vs c) (hb : Below w.heap.size w u) : PmDrawn u a vs c := ⟨h.inn.below hb, h.fits, h.pos, h.five, h.cap⟩
def SomePmK (w : World) (e : Ending) (w' : World) : Prop := ∃ (ep : Int) (vs : List RowD) (a : Option Addr) (c : Nat) (k : Int), -10 ≤ k ∧ k ≤ 10 ∧ e = .returned (.tuple #[.agg #[.int .i64 ep, .slice a vs.length c], .int .i64 k]) ∧ PmDrawn w' a vs c ∧ (∀ b o, a = some ⟨b, o, none⟩ → w.heap.size ≤ b) ∧ Below w.heap.size w w'
def SomePmKey (w : World) (e : Ending) (w' : World) : Prop := ∃ (ep : Int) (vs : List RowD) (a : Option Addr) (c : Nat) (key : ByteArray), key.size ≤ maxLen ∧ e = .returned (.tuple #[.agg #[.int .i64 ep, .slice a vs.length c], .string key]) ∧ PmDrawn w' a vs c ∧ (∀ b o, a = some ⟨b, o, none⟩ → w.heap.size ≤ b) ∧ Below w.heap.size w w'

set_option maxRecDepth 100000 in
set_option maxHeartbeats 2000000 in
theorem drawPmapSpan_any (a : Option Addr) (len cap : Nat) (w : World) (h : BytesIn w a len cap) :
    Calls Try.prog 51 #[.slice a len cap] w (SomePmK w) := by
  have H := Lib.hid h
  clear h
  go_enter Try.func51, Try.ntmps51
  go_wp2_with fail
  with_reducible refine (l20Open_any a len cap (w.heap.size + 1) _ ?hg ?hb).mono ?_
  case hg => simp
  case hb => exact H.out.alloc _
  rintro e w1 ⟨rfl, hr, hb1⟩
  have hne : w.heap.size ≠ w.heap.size + 1 := by omega
  have ZA := (Zr.made _ _ _ w).below hb1
  have E1 := Lib.hid (((Below.refl w.heap.size w).alloc (Nat.le_refl _) _).trans (hb1.mono (by simp)))
  have zA := ZA.lt
  have HR := Lib.hid hr
  clear hr hb1 H
  go_wp2_with fail
  with_reducible refine (l20AnyPmap_any (w.heap.size + 1) 0 w1 HR.out (by omega)).mono ?_
  rintro e w2 ⟨ep, vs, a', c, q, hq, h0, h5, rfl, hin, hf, hc1, hc2, hlb, hr, ho⟩
  have hr1 := hr.lt
  have hne2 : w2.heap.size ≠ w.heap.size + 1 := by omega
  have ZB := ZA.only ho hne
  have E2 := Lib.hid (E1.out.trans (ho.below (B := w.heap.size) (by omega) (by omega)))
  have HR2 := Lib.hid hr
  have HI := Lib.hid hin
  have HF := Lib.hid hf
  have hab : ∀ b o, a' = some ⟨b, o, none⟩ → w.heap.size + 1 < b := fun b o e => by have := hlb b o e; have := HR.out.lt; omega
  have HAB := Lib.hid hab
  have zB := ZB.lt
  clear hr ho HR E1 ZA hin hf hlb hab
  go_upto_region 3 with fail
  obtain ⟨W3, hW3⟩ : ∃ W3, w2.alloc (.cells #[.int .i64 ep, .slice a' vs.length c] 80) = W3 := ⟨_, rfl⟩
  have b3 : Below w2.heap.size w2 W3 := by rw [← hW3]; exact (Below.refl _ _).alloc (Nat.le_refl _) _
  have s0 : W3.cell? ⟨w2.heap.size, 0, none⟩ = some (.int .i64 ep) := by rw [← hW3]; simp
  have s1 : W3.cell? ⟨w2.heap.size, 1, none⟩ = some (.slice a' vs.length c) := by rw [← hW3]; simp
  have s2 : w2.heap.size < W3.heap.size := by rw [← hW3]; simp
  have ZC := ZB.below b3
  have HR3 := Lib.hid (HR2.out.below b3)
  have HI3 := Lib.hid (HI.out.below b3)
  have E3 := Lib.hid (E2.out.trans (b3.mono E2.out.size))
  have zC := ZC.lt
  rw [hW3]
  clear hW3 b3 ZB HR2 HI
  have hw1 : IntKind.i64.wrap ((vs.length : Int) + 1) = (vs.length : Int) + 1 := IntWalk.i64_in _ (by omega)
  go_region_held3 (fun u => u.cell? ⟨w2.heap.size, 0, none⟩ = some (.int .i64 ep) ∧ u.cell? ⟨w2.heap.size, 1, none⟩ = some (.slice a' vs.length c))
    (first | with_reducible exact ⟨s0, s1⟩ | with_reducible exact ⟨t0, t1⟩ | with_reducible exact keep2Set hne3 ⟨t0, t1⟩ | (go_keep; done))
    (first
      | (go_at_call 133; (with_reducible refine (pick_any (w.heap.size + 1) q ((vs.length : Int) + 1) _ ?hrA (by omega) (by omega) (by omega)).mono ?_); (case hrA => exact HR3.out.drew); rintro e w4 ⟨n4, hn40, hn41, rfl, hr4, ho40⟩; have ho4 := ((Only.refl (w.heap.size + 1) W3).drew).trans ho40; have t0 := (ho4.cell (p := ⟨w2.heap.size, 0, none⟩) s2 hne2).trans s0; have t1 := (ho4.cell (p := ⟨w2.heap.size, 1, none⟩) s2 hne2).trans s1; have HR4 := Lib.hid hr4; have s4 : w2.heap.size < w4.heap.size := Nat.lt_of_lt_of_le s2 ho4.size; clear hr4)
      | (go_at_call 133; (with_reducible refine (pick_any (w.heap.size + 1) (q + 1) 2 w4 HR4.out (by omega) (by omega) (by omega)).mono ?_); rintro e w5 ⟨n5, hn50, hn51, rfl, hr5, ho50⟩; have ho5 := ho4.trans ho50; have t0 := (ho5.cell (p := ⟨w2.heap.size, 0, none⟩) s2 hne2).trans s0; have t1 := (ho5.cell (p := ⟨w2.heap.size, 1, none⟩) s2 hne2).trans s1; have ZD := ZC.only ho5 hne; have a0 := ZD.c0; have a1 := ZD.c1; have a2 := ZD.f0; have a3 := ZD.f1; have a4 := ZD.lt; have hne3 : w2.heap.size ≠ w.heap.size := (by omega); have hw2 : IntKind.i64.wrap (n4 - n5) = n4 - n5 := IntWalk.i64_in _ (by omega)))
  all_goals
    go_wp2_with fail
    refine bodyPost_ret (v := .tuple #[.agg #[.int .i64 ep, .slice a' vs.length c], .int .i64 (n4 - n5)]) (by simp [results, Try.results51, go_sem, a0, a1, hw2]) rfl ⟨ep, vs, a', c, n4 - n5, by omega, by omega, rfl, ⟨?_, HF.out, h0, h5, hc1, hc2⟩, fun b o e => by have := HAB.out b o e; omega, ?_⟩
    · exact ((HI3.out.turned (S := fun k => k = w.heap.size + 1) (fun b o e k => by have := HAB.out b o e; omega) ho5.turned).setNew _ (fun b o e => by have := HAB.out b o e; show b ≠ w.heap.size; omega)).setNew _ (fun b o e => by have := HAB.out b o e; show b ≠ w.heap.size; omega)
    · exact ((E3.out.trans (ho5.below (B := w.heap.size) (by omega) (by omega))).setCell (p := ⟨w.heap.size, 0, none⟩) (Nat.le_refl _) _).setCell (p := ⟨w.heap.size, 1, none⟩) (Nat.le_refl _) _

set_option maxRecDepth 100000 in
set_option maxHeartbeats 2000000 in
theorem drawPmapFind_any (a : Option Addr) (len cap : Nat) (w : World) (h : BytesIn w a len cap) :
    Calls Try.prog 56 #[.slice a len cap] w (SomePmKey w) := by
  have H := Lib.hid h
  clear h
  go_enter Try.func56, Try.ntmps56
  go_wp2_with fail
  with_reducible refine (l20Open_any a len cap (w.heap.size + 1) _ ?hg ?hb).mono ?_
  case hg => simp
  case hb => exact H.out.alloc _
  rintro e w1 ⟨rfl, hr, hb1⟩
  have hne : w.heap.size ≠ w.heap.size + 1 := by omega
  have ZA := (Zr.made _ _ _ w).below hb1
  have E1 := Lib.hid (((Below.refl w.heap.size w).alloc (Nat.le_refl _) _).trans (hb1.mono (by simp)))
  have zA := ZA.lt
  have HR := Lib.hid hr
  clear hr hb1 H
  go_wp2_with fail
  with_reducible refine (l20AnyPmap_any (w.heap.size + 1) 0 w1 HR.out (by omega)).mono ?_
  rintro e w2 ⟨ep, vs, a', c, q, hq, h0, h5, rfl, hin, hf, hc1, hc2, hlb, hr, ho⟩
  have hr1 := hr.lt
  have hne2 : w2.heap.size ≠ w.heap.size + 1 := by omega
  have ZB := ZA.only ho hne
  have E2 := Lib.hid (E1.out.trans (ho.below (B := w.heap.size) (by omega) (by omega)))
  have HR2 := Lib.hid hr
  have HI := Lib.hid hin
  have HF := Lib.hid hf
  have hab : ∀ b o, a' = some ⟨b, o, none⟩ → w.heap.size + 1 < b := fun b o e => by have := hlb b o e; have := HR.out.lt; omega
  have HAB := Lib.hid hab
  have zB := ZB.lt
  clear hr ho HR E1 ZA hin hf hlb hab
  go_upto_region 3 with fail
  obtain ⟨W3, hW3⟩ : ∃ W3, w2.alloc (.cells #[.int .i64 ep, .slice a' vs.length c] 80) = W3 := ⟨_, rfl⟩
  have b3 : Below w2.heap.size w2 W3 := by rw [← hW3]; exact (Below.refl _ _).alloc (Nat.le_refl _) _
  have s0 : W3.cell? ⟨w2.heap.size, 0, none⟩ = some (.int .i64 ep) := by rw [← hW3]; simp
  have s1 : W3.cell? ⟨w2.heap.size, 1, none⟩ = some (.slice a' vs.length c) := by rw [← hW3]; simp
  have s2 : w2.heap.size < W3.heap.size := by rw [← hW3]; simp
  have ZC := ZB.below b3
  have HR3 := Lib.hid (HR2.out.below b3)
  have HI3 := Lib.hid (HI.out.below b3)
  have E3 := Lib.hid (E2.out.trans (b3.mono E2.out.size))
  have zC := ZC.lt
  rw [hW3]
  clear hW3 b3 ZB HR2 HI
  go_region_held3 (fun u => u.cell? ⟨w2.heap.size, 0, none⟩ = some (.int .i64 ep) ∧ u.cell? ⟨w2.heap.size, 1, none⟩ = some (.slice a' vs.length c))
    (first | with_reducible exact ⟨s0, s1⟩ | with_reducible exact ⟨t0, t1⟩ | with_reducible exact keep2Set hne3 ⟨t0, t1⟩ | (go_keep; done))
    (first
      | (go_at_call 139; (with_reducible refine (l20AnyKey_any (w.heap.size + 1) q _ ?hrA (by omega)).mono ?_); (case hrA => exact HR3.out.drew); rintro e w5 ⟨key, q5, hq5, hkey, rfl, hr5, ho50⟩; have ho5 := ((Only.refl (w.heap.size + 1) W3).drew).trans ho50; have t0 := (ho5.cell (p := ⟨w2.heap.size, 0, none⟩) s2 hne2).trans s0; have t1 := (ho5.cell (p := ⟨w2.heap.size, 1, none⟩) s2 hne2).trans s1; have ZD := ZC.only ho5 hne; have a0 := ZD.c0; have a1 := ZD.c1; have a2 := ZD.f0; have a3 := ZD.f1; have a4 := ZD.lt; have hne3 : w2.heap.size ≠ w.heap.size := (by omega)))
  all_goals
    go_wp2_with fail
    refine bodyPost_ret (v := .tuple #[.agg #[.int .i64 ep, .slice a' vs.length c], .string key]) (by simp [results, Try.results56, go_sem, a0, a1]) rfl ⟨ep, vs, a', c, key, hkey, rfl, ⟨?_, HF.out, h0, h5, hc1, hc2⟩, fun b o e => by have := HAB.out b o e; omega, ?_⟩
    · exact ((HI3.out.turned (S := fun k => k = w.heap.size + 1) (fun b o e k => by have := HAB.out b o e; omega) ho5.turned).setNew _ (fun b o e => by have := HAB.out b o e; show b ≠ w.heap.size; omega)).setNew _ (fun b o e => by have := HAB.out b o e; show b ≠ w.heap.size; omega)
    · exact ((E3.out.trans (ho5.below (B := w.heap.size) (by omega) (by omega))).setCell (p := ⟨w.heap.size, 0, none⟩) (Nat.le_refl _) _).setCell (p := ⟨w.heap.size, 1, none⟩) (Nat.le_refl _) _
end Go.Proofs.Ytodpodgdhiadnaa
