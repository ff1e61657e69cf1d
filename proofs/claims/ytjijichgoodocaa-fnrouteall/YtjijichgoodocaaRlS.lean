/- What is known with one more: the model's walk. -/
import Derived.Test.YtjijichgoodocaaRestS
import Derived.Test.YtjijichgoodocaaPutS
import Derived.Deep.RegionHeld3
namespace Go.Proofs.Ytjijichgoodocaa
open Go.RowKit

theorem keepRl {b c : Nat} {o00 o01 o02 o03 o10 o11 : Nat} {x00 x01 x02 x03 x10 x11 : Value} {u v : World} (hb : Below u.heap.size u v) (h : u.cell? ⟨b, o00, none⟩ = some x00 ∧ u.cell? ⟨b, o01, none⟩ = some x01 ∧ u.cell? ⟨b, o02, none⟩ = some x02 ∧ u.cell? ⟨b, o03, none⟩ = some x03 ∧ u.cell? ⟨c, o10, none⟩ = some x10 ∧ u.cell? ⟨c, o11, none⟩ = some x11 ∧ b < u.heap.size ∧ c < u.heap.size) : v.cell? ⟨b, o00, none⟩ = some x00 ∧ v.cell? ⟨b, o01, none⟩ = some x01 ∧ v.cell? ⟨b, o02, none⟩ = some x02 ∧ v.cell? ⟨b, o03, none⟩ = some x03 ∧ v.cell? ⟨c, o10, none⟩ = some x10 ∧ v.cell? ⟨c, o11, none⟩ = some x11 ∧ b < v.heap.size ∧ c < v.heap.size := by
  obtain ⟨h0, h1, h2, h3, h4, h5, lb, lc⟩ := h
  exact ⟨(hb.cell (p := ⟨b, o00, none⟩) lb).trans h0, (hb.cell (p := ⟨b, o01, none⟩) lb).trans h1, (hb.cell (p := ⟨b, o02, none⟩) lb).trans h2, (hb.cell (p := ⟨b, o03, none⟩) lb).trans h3, (hb.cell (p := ⟨c, o10, none⟩) lc).trans h4, (hb.cell (p := ⟨c, o11, none⟩) lc).trans h5, Nat.lt_of_lt_of_le lb hb.size, Nat.lt_of_lt_of_le lc hb.size⟩
theorem keepRl_alloc {b c : Nat} {o00 o01 o02 o03 o10 o11 : Nat} {x00 x01 x02 x03 x10 x11 : Value} {u : World} {o : Obj} (h : u.cell? ⟨b, o00, none⟩ = some x00 ∧ u.cell? ⟨b, o01, none⟩ = some x01 ∧ u.cell? ⟨b, o02, none⟩ = some x02 ∧ u.cell? ⟨b, o03, none⟩ = some x03 ∧ u.cell? ⟨c, o10, none⟩ = some x10 ∧ u.cell? ⟨c, o11, none⟩ = some x11 ∧ b < u.heap.size ∧ c < u.heap.size) : (u.alloc o).cell? ⟨b, o00, none⟩ = some x00 ∧ (u.alloc o).cell? ⟨b, o01, none⟩ = some x01 ∧ (u.alloc o).cell? ⟨b, o02, none⟩ = some x02 ∧ (u.alloc o).cell? ⟨b, o03, none⟩ = some x03 ∧ (u.alloc o).cell? ⟨c, o10, none⟩ = some x10 ∧ (u.alloc o).cell? ⟨c, o11, none⟩ = some x11 ∧ b < (u.alloc o).heap.size ∧ c < (u.alloc o).heap.size := keepRl ((Below.refl _ _).alloc (Nat.le_refl _) _) h
theorem keepRl_allocD {b c : Nat} {o00 o01 o02 o03 o10 o11 : Nat} {x00 x01 x02 x03 x10 x11 : Value} {u : World} {o : Obj} (h : u.drew.cell? ⟨b, o00, none⟩ = some x00 ∧ u.drew.cell? ⟨b, o01, none⟩ = some x01 ∧ u.drew.cell? ⟨b, o02, none⟩ = some x02 ∧ u.drew.cell? ⟨b, o03, none⟩ = some x03 ∧ u.drew.cell? ⟨c, o10, none⟩ = some x10 ∧ u.drew.cell? ⟨c, o11, none⟩ = some x11 ∧ b < u.drew.heap.size ∧ c < u.drew.heap.size) : (u.alloc o).drew.cell? ⟨b, o00, none⟩ = some x00 ∧ (u.alloc o).drew.cell? ⟨b, o01, none⟩ = some x01 ∧ (u.alloc o).drew.cell? ⟨b, o02, none⟩ = some x02 ∧ (u.alloc o).drew.cell? ⟨b, o03, none⟩ = some x03 ∧ (u.alloc o).drew.cell? ⟨c, o10, none⟩ = some x10 ∧ (u.alloc o).drew.cell? ⟨c, o11, none⟩ = some x11 ∧ b < (u.alloc o).drew.heap.size ∧ c < (u.alloc o).drew.heap.size := keepRl_alloc (u := u) h
theorem keepRl_far {b c : Nat} {o00 o01 o02 o03 o10 o11 : Nat} {x00 x01 x02 x03 x10 x11 : Value} {u v : World} {row : Option Nat} (hg : u.grownBy v row) (nb : some b ≠ row) (nc : some c ≠ row) (h : u.cell? ⟨b, o00, none⟩ = some x00 ∧ u.cell? ⟨b, o01, none⟩ = some x01 ∧ u.cell? ⟨b, o02, none⟩ = some x02 ∧ u.cell? ⟨b, o03, none⟩ = some x03 ∧ u.cell? ⟨c, o10, none⟩ = some x10 ∧ u.cell? ⟨c, o11, none⟩ = some x11 ∧ b < u.heap.size ∧ c < u.heap.size) : v.cell? ⟨b, o00, none⟩ = some x00 ∧ v.cell? ⟨b, o01, none⟩ = some x01 ∧ v.cell? ⟨b, o02, none⟩ = some x02 ∧ v.cell? ⟨b, o03, none⟩ = some x03 ∧ v.cell? ⟨c, o10, none⟩ = some x10 ∧ v.cell? ⟨c, o11, none⟩ = some x11 ∧ b < v.heap.size ∧ c < v.heap.size := by
  obtain ⟨h0, h1, h2, h3, h4, h5, lb, lc⟩ := h
  exact ⟨(hg.cell_far ⟨b, o00, none⟩ lb nb).trans h0, (hg.cell_far ⟨b, o01, none⟩ lb nb).trans h1, (hg.cell_far ⟨b, o02, none⟩ lb nb).trans h2, (hg.cell_far ⟨b, o03, none⟩ lb nb).trans h3, (hg.cell_far ⟨c, o10, none⟩ lc nc).trans h4, (hg.cell_far ⟨c, o11, none⟩ lc nc).trans h5, Nat.lt_of_lt_of_le lb hg.size, Nat.lt_of_lt_of_le lc hg.size⟩
theorem routeOk_one (k : KnownD) : RouteOkP [k] ↔ knownOkB k = true := by
  constructor
  · intro h; exact h.1.1 0 (by simp) (by simp)
  · intro h
    exact ⟨SepOk.one (vs := [k]) (by simp) h, by simp⟩
theorem rest_le (k v : KnownD) : (restK k v).length ≤ 2 := by
  unfold restK
  split
  · rw [List.length_append]
    split <;> split <;> simp
  · simp
theorem restAll_le (k : KnownD) (vs : List KnownD) : ∀ n, (restAll k vs n).length ≤ 2 * n
  | 0 => by simp [restAll]
  | n + 1 => by
    have ih := restAll_le k vs n
    by_cases hn : n < vs.length
    · have e : restAll k vs (n + 1) = restAll k vs n ++ restK k vs[n] := by unfold restAll; rw [List.take_succ_eq_append_getElem hn, List.flatMap_append]; simp
      rw [e, List.length_append]
      have := rest_le k vs[n]
      omega
    · have e : restAll k vs (n + 1) = restAll k vs n := by unfold restAll; rw [List.take_of_length_le (by omega), List.take_of_length_le (by omega)]
      rw [e]; omega
theorem restAll_succ {k : KnownD} {vs : List KnownD} {n : Nat} (hn : n < vs.length) : restAll k vs (n + 1) = restAll k vs n ++ restK k vs[n] := by
  unfold restAll; rw [List.take_succ_eq_append_getElem hn, List.flatMap_append]; simp

set_option maxRecDepth 100000 in
set_option maxHeartbeats 4000000 in
theorem specRouteLearn_any (k : KnownD) (b1 o1 : Nat) (vs : List KnownD) (cap : Nat) (w : World) (hkf : k.fits) (hv : KnownsIn w (some ⟨b1, o1, none⟩) vs) (hf : ∀ v ∈ vs, v.fits) (hn : vs.length ≤ 1048576) :
    Calls Try.prog 185 #[.slice (some ⟨b1, o1, none⟩) vs.length cap, .agg #[.string k.f0, .string k.f1, .int .i64 k.f2, .int .i64 k.f3]] w fun e w' => ∃ us b, LearnRel vs k us b ∧ KnownsOutB us b w e w' := by
  have HV := Lib.hid hv
  have HF := Lib.hid hf
  have HKF := Lib.hid hkf
  have HN := Lib.hid (show vs.length ≤ maxLen by unfold maxLen; omega)
  clear hv hf
  obtain ⟨hk0, hk1⟩ := hkf
  obtain ⟨i0, hi0, hz0, hz1, hz2⟩ := info_parts infoKnown
  obtain ⟨W0, hW0⟩ : ∃ W0, w.alloc (.cells #[.string k.f0, .string k.f1, .int .i64 k.f2, .int .i64 k.f3] 84) = W0 := ⟨_, rfl⟩
  have B0 : Below w.heap.size w W0 := by rw [← hW0]; exact (Below.refl _ _).alloc (Nat.le_refl _) _
  have s0 : w.heap.size < W0.heap.size := by rw [← hW0]; simp
  have x0 : W0.cell? ⟨w.heap.size, 0, none⟩ = some (.string k.f0) := by rw [← hW0]; simp [go_sem]
  have x1 : W0.cell? ⟨w.heap.size, 1, none⟩ = some (.string k.f1) := by rw [← hW0]; simp [go_sem]
  have x2 : W0.cell? ⟨w.heap.size, 2, none⟩ = some (.int .i64 k.f2) := by rw [← hW0]; simp [go_sem]
  have x3 : W0.cell? ⟨w.heap.size, 3, none⟩ = some (.int .i64 k.f3) := by rw [← hW0]; simp [go_sem]
  have HB0 := Lib.hid B0
  clear B0
  go_enter Try.func185, Try.ntmps185
  go_wp2_with fail
  clear hW0
  refine (l12Ok_any (some ⟨b1, o1, none⟩) vs cap _ (HV.out.below HB0.out) HF.out HN.out).mono ?_
  rintro e w1 ⟨b, rfl, hb, hbw⟩
  have HI := Lib.hid hb
  replace x0 := (hbw.cell (p := ⟨w.heap.size, 0, none⟩) s0).trans x0
  replace x1 := (hbw.cell (p := ⟨w.heap.size, 1, none⟩) s0).trans x1
  replace x2 := (hbw.cell (p := ⟨w.heap.size, 2, none⟩) s0).trans x2
  replace x3 := (hbw.cell (p := ⟨w.heap.size, 3, none⟩) s0).trans x3
  replace s0 : w.heap.size < w1.heap.size := Nat.lt_of_lt_of_le s0 hbw.size
  have HB1 := Lib.hid (HB0.out.trans (hbw.mono HB0.out.size))
  clear hb hbw
  cases b
  · go_wp2_with fail
    go_ret2
    exact ⟨[], false, .inr (.inr ⟨fun h => absurd (HI.out.2 h.1) (by decide), rfl, rfl⟩), knownsOutB_nil HB1.out⟩
  have HRK := Lib.hid (HI.out.1 (by simp))
  clear HI
  obtain ⟨W2, hW2⟩ : ∃ W2, w1.alloc (.cells #[.string k.f0, .string k.f1, .int .i64 k.f2, .int .i64 k.f3] 84) = W2 := ⟨_, rfl⟩
  have b2 : Below w1.heap.size w1 W2 := by rw [← hW2]; exact (Below.refl _ _).alloc (Nat.le_refl _) _
  have O2 : W2.ownsRow w1.heap.size 84 4 (.slice (some ⟨w1.heap.size, 0, none⟩) [k].length 1) [k].length ([k].flatMap knownCells) := by rw [← hW2]; simpa using own_litK w1 k (Nat.le_refl _)
  obtain ⟨a', c', he, hat⟩ := own_knowns O2
  cases he
  have HK1 := Lib.hid hat.in1
  have HB2 := Lib.hid (HB1.out.trans (b2.mono HB1.out.size))
  have y0 := (b2.cell (p := ⟨w.heap.size, 0, none⟩) s0).trans x0
  have y1 := (b2.cell (p := ⟨w.heap.size, 1, none⟩) s0).trans x1
  have y2 := (b2.cell (p := ⟨w.heap.size, 2, none⟩) s0).trans x2
  have y3 := (b2.cell (p := ⟨w.heap.size, 3, none⟩) s0).trans x3
  have s2 : w.heap.size < W2.heap.size := Nat.lt_of_lt_of_le s0 b2.size
  clear b2 O2 hat
  go_wp2_with fail
  clear hW2 x0 x1 x2 x3 s0
  refine (l12Ok_any (some ⟨w1.heap.size, 0, none⟩) [k] 1 _ HK1.out (fun v hv => by simp at hv; rw [hv]; exact HKF.out) (by unfold maxLen; simp)).mono ?_
  rintro e w3 ⟨b, rfl, hb, hbw⟩
  have HI := Lib.hid (hb.trans (routeOk_one k))
  have x0 := (hbw.cell (p := ⟨w.heap.size, 0, none⟩) s2).trans y0
  have x1 := (hbw.cell (p := ⟨w.heap.size, 1, none⟩) s2).trans y1
  have x2 := (hbw.cell (p := ⟨w.heap.size, 2, none⟩) s2).trans y2
  have x3 := (hbw.cell (p := ⟨w.heap.size, 3, none⟩) s2).trans y3
  have s3 : w.heap.size < w3.heap.size := Nat.lt_of_lt_of_le s2 hbw.size
  have HB3 := Lib.hid (HB2.out.trans (hbw.mono HB2.out.size))
  clear hb hbw y0 y1 y2 y3 s2
  cases b
  · go_wp2_with fail
    go_ret2
    exact ⟨[], false, .inr (.inr ⟨fun h => absurd (HI.out.2 h.2) (by decide), rfl, rfl⟩), knownsOutB_nil HB3.out⟩
  have HOK := Lib.hid (And.intro HRK.out (HI.out.1 (by simp)))
  clear HI
  have HD3 := Lib.hid (show ∀ j u, (vs.flatMap knownCells)[j]? = some u → (w3.alloc (.cells #[] 84)).cell? ((⟨b1, o1, none⟩ : Addr).add j) = some u from by
    rcases (HV.out.below (HB3.out.alloc HB3.out.size (.cells #[] 84))) with hnil | ⟨b, o, he, hb, hc⟩
    · rw [hnil]; intro j u h; simp at h
    · cases he; exact knowns_news hc)
  have q3 : w.heap.size ≤ w3.heap.size := HB3.out.size
  go_upto_region 4 with (at_builtin; refine wpList_append_any rfl _ _ 80 rfl Try.underlying80 (w.heap.size + 1) (.slice (some ⟨w3.heap.size, 0, none⟩) 0 0) 0 [] rfl (empty_knowns (heap_alloc_new w3 _) s3) ⟨b1, o1, none⟩ vs.length cap (vs.flatMap knownCells) rfl (knowns_len vs) HD3.out (knowns_one _) (by omega) (by simp; omega) (by simp) ?_; intro g4 c4 w4 hown hgrow; have X := Lib.hid (And.intro hown hgrow); clear hown hgrow)
  have O4 := X.out.1
  rw [Nat.zero_add, List.nil_append] at O4
  have b34 := Below.grown ((Below.refl w3.heap.size w3).alloc (Nat.le_refl _) _) X.out.2 (by simp) (fun j hj => by cases hj; exact Nat.le_refl _)
  have HO4 := Lib.hid O4
  have HB4 := Lib.hid (HB3.out.trans (b34.mono HB3.out.size))
  replace x0 := (b34.cell (p := ⟨w.heap.size, 0, none⟩) s3).trans x0
  replace x1 := (b34.cell (p := ⟨w.heap.size, 1, none⟩) s3).trans x1
  replace x2 := (b34.cell (p := ⟨w.heap.size, 2, none⟩) s3).trans x2
  replace x3 := (b34.cell (p := ⟨w.heap.size, 3, none⟩) s3).trans x3
  have s4 : w.heap.size < w4.heap.size := Nat.lt_of_lt_of_le s3 b34.size
  clear X O4 b34 HD3 s3
  go_wp2_with fail
  refine (l12Newer_any k (some ⟨b1, o1, none⟩) vs cap _ HKF.out (HV.out.below HB4.out) HF.out (by omega)).mono ?_
  rintro e w5 ⟨b, rfl, hb, hbw⟩
  have HI := Lib.hid hb
  have HB5 := Lib.hid (HB4.out.trans (hbw.mono HB4.out.size))
  have HO5 := Lib.hid (Go.Proofs.Ytjijichgoodocaa.ownsRow_of_below HO4.out hbw)
  replace x0 := (hbw.cell (p := ⟨w.heap.size, 0, none⟩) s4).trans x0
  replace x1 := (hbw.cell (p := ⟨w.heap.size, 1, none⟩) s4).trans x1
  replace x2 := (hbw.cell (p := ⟨w.heap.size, 2, none⟩) s4).trans x2
  replace x3 := (hbw.cell (p := ⟨w.heap.size, 3, none⟩) s4).trans x3
  have s5 : w.heap.size < w5.heap.size := Nat.lt_of_lt_of_le s4 hbw.size
  clear hb hbw HO4 s4
  cases b
  · go_wp2_with fail
    go_ret2
    exact ⟨vs, false, .inr (.inl ⟨HOK.out, fun h => absurd (HI.out.2 h.1) (by decide), rfl, rfl⟩), knownsOutB_own rfl HO5.out (by omega) HB5.out⟩
  have HOld := Lib.hid (HI.out.1 (by simp))
  clear HI
  have hb15 : 0 < vs.length → b1 < w5.heap.size := fun h => by
    rcases HV.out.below HB5.out with hnil | ⟨b, o, e, hb, -⟩
    · rw [hnil] at h; simp at h
    · cases e; exact hb
  obtain ⟨W6, hW6⟩ : ∃ W6, w5.alloc (.cells #[] 84) = W6 := ⟨_, rfl⟩
  have b6 : Below w5.heap.size w5 W6 := by rw [← hW6]; exact (Below.refl _ _).alloc (Nat.le_refl _) _
  have O6 : W6.ownsRow w5.heap.size 84 4 (.slice (some ⟨w5.heap.size, 0, none⟩) 0 0) 0 [] := by rw [← hW6]; exact empty_knowns (heap_alloc_new _ _) (Nat.le_refl _)
  have HB6 := Lib.hid b6
  have HO6 := Lib.hid O6
  clear b6 O6
  go_wp2_with fail
  clear hW6
  go_loopw [7, 8] (fun v' i wr => ∃ (g n c : Nat) , v' = .slice (some ⟨g, 0, none⟩) (restAll k vs n).length c ∧ n ≤ vs.length ∧ i = .int .i64 (n : Int) ∧ Below w5.heap.size w5 wr ∧ wr.ownsRow w5.heap.size 84 4 (.slice (some ⟨g, 0, none⟩) (restAll k vs n).length c) (restAll k vs n).length ((restAll k vs n).flatMap knownCells)) (fun _ i _ => vs.length - (intOf i).toNat)
  case atStart => exact ⟨_, 0, _, rfl, Nat.zero_le _, rfl, HB6.out, HO6.out⟩
  case round =>
    obtain ⟨g, n, c, rfl, hn', rfl, hB, hO⟩ := hrel
    have z0 := (hB.cell (p := ⟨w.heap.size, 0, none⟩) s5).trans x0
    have z1 := (hB.cell (p := ⟨w.heap.size, 1, none⟩) s5).trans x1
    have z2 := (hB.cell (p := ⟨w.heap.size, 2, none⟩) s5).trans x2
    have z3 := (hB.cell (p := ⟨w.heap.size, 3, none⟩) s5).trans x3
    have sr : w.heap.size < wr.heap.size := Nat.lt_of_lt_of_le s5 hB.size
    have HX := Lib.hid (HB5.out.trans (hB.mono HB5.out.size))
    have HBr := Lib.hid hB
    have HOr := Lib.hid hO
    clear hB hO
    have hle := restAll_le k vs n
    have h6v := HOK.out.1.2
    by_cases hlt : n < vs.length
    · rcases HV.out.below HX.out with hnil | ⟨b1', o1', e1, sb, hc1⟩
      · rw [hnil] at hlt; simp at hlt
      cases e1
      obtain ⟨d0, d1, d2, d3⟩ := hc1 n hlt
      clear hc1
      have i1 : (0 : Int) ≤ (n : Int) := by omega
      have i2 : (n : Int) < (vs.length : Int) := by omega
      have q : wr.drew.cell? ⟨b1, o1 + n * 4, none⟩ = some (.string vs[n].f0) ∧ wr.drew.cell? ⟨b1, o1 + n * 4 + 1, none⟩ = some (.string vs[n].f1) ∧ wr.drew.cell? ⟨b1, o1 + n * 4 + 2, none⟩ = some (.int .i64 vs[n].f2) ∧ wr.drew.cell? ⟨b1, o1 + n * 4 + 3, none⟩ = some (.int .i64 vs[n].f3) ∧ wr.drew.cell? ⟨w.heap.size, 0, none⟩ = some (.string k.f0) ∧ wr.drew.cell? ⟨w.heap.size, 1, none⟩ = some (.string k.f1) ∧ b1 < wr.drew.heap.size ∧ w.heap.size < wr.drew.heap.size := ⟨d0, d1, d2, d3, z0, z1, sb, sr⟩
      have HO := Lib.hid (show wr.drew.ownsRow w5.heap.size 84 4 (.slice (some ⟨g, 0, none⟩) (restAll k vs n).length c) (restAll k vs n).length ((restAll k vs n).flatMap knownCells) from HOr.out.drew)
      have HB := Lib.hid (show Below w5.heap.size w5 wr.drew from HBr.out.drew)
      have hzz : w5.heap.size ≤ wr.drew.heap.size := HBr.out.size
      have hrl := rest_le k vs[n]
      have sb5 : b1 < w5.heap.size := hb15 (by omega)
      have nb : some b1 ≠ (Value.slice (some ⟨g, 0, none⟩) (restAll k vs n).length c).ownBlock := own_ne HOr.out (.inl sb5)
      have nc : some w.heap.size ≠ (Value.slice (some ⟨g, 0, none⟩) (restAll k vs n).length c).ownBlock := own_ne HOr.out (.inl s5)
      go_wp2_with fail
      clear z0 z1 z2 z3 d0 d1 d2 d3
      go_region_held3 (fun u => u.cell? ⟨b1, o1 + n * 4, none⟩ = some (.string vs[n].f0) ∧ u.cell? ⟨b1, o1 + n * 4 + 1, none⟩ = some (.string vs[n].f1) ∧ u.cell? ⟨b1, o1 + n * 4 + 2, none⟩ = some (.int .i64 vs[n].f2) ∧ u.cell? ⟨b1, o1 + n * 4 + 3, none⟩ = some (.int .i64 vs[n].f3) ∧ u.cell? ⟨w.heap.size, 0, none⟩ = some (.string k.f0) ∧ u.cell? ⟨w.heap.size, 1, none⟩ = some (.string k.f1) ∧ b1 < u.heap.size ∧ w.heap.size < u.heap.size)
        (first | with_reducible exact q | fail)
        (first
          | (go_at_call 208; (with_reducible refine (l12Rest_any k vs[n] _ HKF.out (HF.out _ (List.getElem_mem hlt))).mono ?_); rintro e wC ⟨gx, cx, rfl, hOx, hb⟩; have q := keepRl hb q; have HO := Lib.hid (Go.Proofs.Ytjijichgoodocaa.ownsRow_of_below HO.out hb); have hzz := Nat.le_trans hzz hb.size; have HB := Lib.hid (HB.out.trans (hb.mono HB.out.size)); have HOx := Lib.hid hOx; clear hb hOx)
          | (refine step_append_any (by rfl) _ _ 80 (by rfl) Try.underlying80 w5.heap.size (.slice (some ⟨g, 0, none⟩) (restAll k vs n).length c) (restAll k vs n).length ((restAll k vs n).flatMap knownCells) (by rfl) HO.out ⟨gx, 0, none⟩ (restK k vs[n]).length cx ((restK k vs[n]).flatMap knownCells) (by rfl) (knowns_len _) (own_news HOx.out) (knowns_one _) (by omega) hzz (by simp) ?_; intro gg cp wD hown hgrow; have q := keepRl_far hgrow nb nc q; have X := Lib.hid (And.intro hown hgrow); clear hown hgrow)
          | fail)
      all_goals
        go_wp2_with fail
        go_roundw
        case rel => exact ⟨gg, n + 1, cp, by rw [restAll_succ hlt, List.length_append], by omega, by go_num, Below.grown HB.out X.out.2 hzz (fun j hj => (HO.out.lt j hj).1), by rw [restAll_succ hlt, List.length_append, List.flatMap_append]; exact X.out.1⟩
        case measure => simp [intOf]; omega
    · obtain rfl : n = vs.length := by omega
      go_wp2_with fail
      refine (l12Put_any k g c _ (restAll k vs vs.length) _ HOr.out (by omega)).mono ?_
      rintro e w7 ⟨x, rfl, hO7, hbw⟩
      have HB7 := Lib.hid (HX.out.trans (hbw.mono HX.out.size))
      have HO57 := Lib.hid (Go.Proofs.Ytjijichgoodocaa.ownsRow_of_below (Go.Proofs.Ytjijichgoodocaa.ownsRow_of_below HO5.out HBr.out) hbw)
      rw [learn_one HOK.out.1 HOK.out.2] at hO7
      obtain ⟨a7, c7, rfl, -⟩ := own_knowns hO7
      have HO7 := Lib.hid hO7
      clear hO7 hbw
      obtain ⟨N1, hN1⟩ : ∃ N1, (putI k vs).length = N1 := ⟨_, rfl⟩
      have hN1b : N1 ≤ 2 * vs.length + 1 := by rw [← hN1]; exact putI_le
      rw [hN1]
      by_cases h6 : 6 < N1
      · go_wp2_with fail
        go_ret2
        exact ⟨vs, false, .inr (.inl ⟨HOK.out, fun h => absurd h.2 (by omega), rfl, rfl⟩), knownsOutB_own rfl HO57.out (by omega) HB7.out⟩
      · go_wp2_with fail
        go_ret2
        exact ⟨putI k vs, true, .inl ⟨HOK.out, ⟨HOld.out, by omega⟩, rfl, rfl⟩, knownsOutB_own hN1.symm (hN1 ▸ HO7.out) (by have := HX.out.size; omega) HB7.out⟩
end Go.Proofs.Ytjijichgoodocaa
