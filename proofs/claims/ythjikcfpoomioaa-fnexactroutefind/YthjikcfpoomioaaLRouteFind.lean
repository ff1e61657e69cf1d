/- The law of RouteFind, walked. -/
import Derived.Test.YthjikcfpoomioaaRfI
import Derived.Test.YthjikcfpoomioaaOpKnown
namespace Go.Proofs.Ythjikcfpoomioaa
open Go.RowKit

set_option maxRecDepth 100000 in
set_option maxHeartbeats 4000000 in
theorem routeFind_law (a : Option Addr) (vs : List KnownD) (cap : Nat) (key : ByteArray) (w : World) (hv : KnownsIn w a vs) (hn : vs.length ≤ maxLen) (hf : ∀ v ∈ vs, v.fits) (hkey : key.size ≤ maxLen) :
    Calls Try.prog 7 #[.slice a vs.length cap, .string key] w fun e w' => e = .returned (.bool true) ∧ Below w.heap.size w w' := by
  have HV := Lib.hid hv
  have HF := Lib.hid hf
  have HN := Lib.hid hn
  have HK := Lib.hid hkey
  clear hv hf hn
  unfold maxLen at hkey
  by_cases hlong : 1048576 < key.size
  · go_enter Try.func7, Try.ntmps7
    go_wp2_with fail
    go_ret
    exact ⟨rfl, Below.refl _ _⟩
  go_enter Try.func7, Try.ntmps7
  go_wp2_with fail
  refine (szKnownS_any a vs cap _ _ HV.out HF.out HN.out (by omega) (by omega)).mono ?_
  rintro e w1 ⟨z, rfl, hz, hb1⟩
  have B1 := Lib.hid hb1
  clear hb1
  rcases hz with rfl | ⟨hz, hsum⟩
  · go_wp2_with fail
    go_ret
    exact ⟨rfl, B1.out⟩
  have hL : vs.length ≤ 1048576 := by have := KnownsSize_len vs; omega
  clear hsum
  go_wp2_with fail
  refine (toKnownS_any a vs cap _ (HV.out.below B1.out) hL).mono ?_
  rintro e w2 ⟨rfl, hin2, -, hb2, -⟩
  have B2 := Lib.hid (B1.out.trans (hb2.mono B1.out.size))
  have HI2 := Lib.hid hin2
  clear hin2 hb2
  go_wp2_with fail
  refine (specRouteFind_any _ vs _ key _ HI2.out HF.out HN.out HK.out).mono ?_
  rintro e w3 ⟨r, b, rfl, hR, hb3⟩
  have B3 := Lib.hid (B2.out.trans (hb3.mono B2.out.size))
  have HR := Lib.hid hR
  clear hb3 hR
  obtain ⟨W3, hW3⟩ : ∃ W3, w3.alloc (.cells #[.string r.f0, .string r.f1, .int .i64 r.f2, .int .i64 r.f3] 48) = W3 := ⟨_, rfl⟩
  have hbW : Below w3.heap.size w3 W3 := by rw [← hW3]; exact (Below.refl _ _).alloc (Nat.le_refl _) _
  have z3 : w3.heap.size < W3.heap.size := by rw [← hW3]; simp
  have c0 : W3.cell? ⟨w3.heap.size, 0, none⟩ = some (.string r.f0) := by rw [← hW3]; simp [go_sem]
  have c1 : W3.cell? ⟨w3.heap.size, 1, none⟩ = some (.string r.f1) := by rw [← hW3]; simp [go_sem]
  have c2 : W3.cell? ⟨w3.heap.size, 2, none⟩ = some (.int .i64 r.f2) := by rw [← hW3]; simp [go_sem]
  have c3 : W3.cell? ⟨w3.heap.size, 3, none⟩ = some (.int .i64 r.f3) := by rw [← hW3]; simp [go_sem]
  have BW := Lib.hid (B3.out.trans (hbW.mono B3.out.size))
  clear hbW
  go_wp2_with fail
  clear hW3
  refine (toKnownS_any a vs cap _ (HV.out.below BW.out) hL).mono ?_
  rintro e w4 ⟨rfl, hin4, -, hb4, -⟩
  replace c0 := (hb4.cell (p := ⟨w3.heap.size, 0, none⟩) z3).trans c0
  replace c1 := (hb4.cell (p := ⟨w3.heap.size, 1, none⟩) z3).trans c1
  replace c2 := (hb4.cell (p := ⟨w3.heap.size, 2, none⟩) z3).trans c2
  replace c3 := (hb4.cell (p := ⟨w3.heap.size, 3, none⟩) z3).trans c3
  replace z3 : w3.heap.size < w4.heap.size := Nat.lt_of_lt_of_le z3 hb4.size
  have B4 := Lib.hid (BW.out.trans (hb4.mono BW.out.size))
  have HI4 := Lib.hid hin4
  clear hin4 hb4
  go_wp2_with fail
  refine (routeFind_any _ vs _ key _ HI4.out HF.out HN.out HK.out).mono ?_
  rintro e w5 ⟨r', b', rfl, hR', hb5⟩
  obtain ⟨rfl, rfl⟩ := RfRel.unique hR' HR.out
  replace c0 := (hb5.cell (p := ⟨w3.heap.size, 0, none⟩) z3).trans c0
  replace c1 := (hb5.cell (p := ⟨w3.heap.size, 1, none⟩) z3).trans c1
  replace c2 := (hb5.cell (p := ⟨w3.heap.size, 2, none⟩) z3).trans c2
  replace c3 := (hb5.cell (p := ⟨w3.heap.size, 3, none⟩) z3).trans c3
  replace z3 : w3.heap.size < w5.heap.size := Nat.lt_of_lt_of_le z3 hb5.size
  have HI5 := Lib.hid (HI4.out.below hb5)
  have B5 := Lib.hid (B4.out.trans (hb5.mono B4.out.size))
  clear hb5 hR'
  obtain ⟨W5, hW5⟩ : ∃ W5, w5.alloc (.cells #[.string r'.f0, .string r'.f1, .int .i64 r'.f2, .int .i64 r'.f3] 48) = W5 := ⟨_, rfl⟩
  have hbW : Below w5.heap.size w5 W5 := by rw [← hW5]; exact (Below.refl _ _).alloc (Nat.le_refl _) _
  have d0 : W5.cell? ⟨w5.heap.size, 0, none⟩ = some (.string r'.f0) := by rw [← hW5]; simp [go_sem]
  have d1 : W5.cell? ⟨w5.heap.size, 1, none⟩ = some (.string r'.f1) := by rw [← hW5]; simp [go_sem]
  have d2 : W5.cell? ⟨w5.heap.size, 2, none⟩ = some (.int .i64 r'.f2) := by rw [← hW5]; simp [go_sem]
  have d3 : W5.cell? ⟨w5.heap.size, 3, none⟩ = some (.int .i64 r'.f3) := by rw [← hW5]; simp [go_sem]
  replace c0 := (hbW.cell (p := ⟨w3.heap.size, 0, none⟩) z3).trans c0
  replace c1 := (hbW.cell (p := ⟨w3.heap.size, 1, none⟩) z3).trans c1
  replace c2 := (hbW.cell (p := ⟨w3.heap.size, 2, none⟩) z3).trans c2
  replace c3 := (hbW.cell (p := ⟨w3.heap.size, 3, none⟩) z3).trans c3
  have BW5 := Lib.hid (B5.out.trans (hbW.mono B5.out.size))
  have HI6 := Lib.hid (HI5.out.below hbW)
  clear hbW
  have hbb : (b' != b') = false := by cases b' <;> rfl
  go_wp2_with fail
  clear hW5
  refine (eqKnown_same r' _).mono ?_
  rintro e w6 ⟨rfl, hb6⟩
  have HI7 := Lib.hid (HI6.out.below hb6)
  have B6 := Lib.hid (BW5.out.trans (hb6.mono BW5.out.size))
  clear hb6
  go_wp2_with fail
  refine (toKnownS_any a vs cap _ (HV.out.below B6.out) hL).mono ?_
  rintro e w7 ⟨rfl, hin7, -, hb7, -⟩
  have HI8 := Lib.hid hin7
  have HI9 := Lib.hid (HI7.out.below hb7)
  have B7 := Lib.hid (B6.out.trans (hb7.mono B6.out.size))
  clear hin7 hb7
  go_wp2_with fail
  refine (eqKnownS_same _ _ vs _ _ _ HI9.out HI8.out HN.out).mono ?_
  rintro e w8 ⟨rfl, hb8⟩
  have B8 := Lib.hid (B7.out.trans (hb8.mono B7.out.size))
  clear hb8
  go_wp2_with fail
  go_ret
  exact ⟨rfl, B8.out⟩
end Go.Proofs.Ythjikcfpoomioaa
