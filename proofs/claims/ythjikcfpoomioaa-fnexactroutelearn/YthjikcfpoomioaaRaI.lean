/- All rows as they are known, as the program lists them. -/
import Derived.Test.YthjikcfpoomioaaRaS
import Derived.Test.YthjikcfpoomioaaSpRows
import Derived.Test.YthjikcfpoomioaaPmapI
namespace Go.Proofs.Ythjikcfpoomioaa
open Go.RowKit

theorem keepRb {d b c : Nat} {o00 o01 o02 o10 o11 o20 : Nat} {x00 x01 x02 x10 x11 x20 : Value} {u v : World} (hb : Below u.heap.size u v) (h : u.cell? ⟨d, o00, none⟩ = some x00 ∧ u.cell? ⟨d, o01, none⟩ = some x01 ∧ u.cell? ⟨d, o02, none⟩ = some x02 ∧ u.cell? ⟨b, o10, none⟩ = some x10 ∧ u.cell? ⟨b, o11, none⟩ = some x11 ∧ u.cell? ⟨c, o20, none⟩ = some x20 ∧ d < u.heap.size ∧ b < u.heap.size ∧ c < u.heap.size) : v.cell? ⟨d, o00, none⟩ = some x00 ∧ v.cell? ⟨d, o01, none⟩ = some x01 ∧ v.cell? ⟨d, o02, none⟩ = some x02 ∧ v.cell? ⟨b, o10, none⟩ = some x10 ∧ v.cell? ⟨b, o11, none⟩ = some x11 ∧ v.cell? ⟨c, o20, none⟩ = some x20 ∧ d < v.heap.size ∧ b < v.heap.size ∧ c < v.heap.size := by
  obtain ⟨h0, h1, h2, h3, h4, h5, ld, lb, lc⟩ := h
  exact ⟨(hb.cell (p := ⟨d, o00, none⟩) ld).trans h0, (hb.cell (p := ⟨d, o01, none⟩) ld).trans h1, (hb.cell (p := ⟨d, o02, none⟩) ld).trans h2, (hb.cell (p := ⟨b, o10, none⟩) lb).trans h3, (hb.cell (p := ⟨b, o11, none⟩) lb).trans h4, (hb.cell (p := ⟨c, o20, none⟩) lc).trans h5, Nat.lt_of_lt_of_le ld hb.size, Nat.lt_of_lt_of_le lb hb.size, Nat.lt_of_lt_of_le lc hb.size⟩
theorem keepRb_alloc {d b c : Nat} {o00 o01 o02 o10 o11 o20 : Nat} {x00 x01 x02 x10 x11 x20 : Value} {u : World} {o : Obj} (h : u.cell? ⟨d, o00, none⟩ = some x00 ∧ u.cell? ⟨d, o01, none⟩ = some x01 ∧ u.cell? ⟨d, o02, none⟩ = some x02 ∧ u.cell? ⟨b, o10, none⟩ = some x10 ∧ u.cell? ⟨b, o11, none⟩ = some x11 ∧ u.cell? ⟨c, o20, none⟩ = some x20 ∧ d < u.heap.size ∧ b < u.heap.size ∧ c < u.heap.size) : (u.alloc o).cell? ⟨d, o00, none⟩ = some x00 ∧ (u.alloc o).cell? ⟨d, o01, none⟩ = some x01 ∧ (u.alloc o).cell? ⟨d, o02, none⟩ = some x02 ∧ (u.alloc o).cell? ⟨b, o10, none⟩ = some x10 ∧ (u.alloc o).cell? ⟨b, o11, none⟩ = some x11 ∧ (u.alloc o).cell? ⟨c, o20, none⟩ = some x20 ∧ d < (u.alloc o).heap.size ∧ b < (u.alloc o).heap.size ∧ c < (u.alloc o).heap.size := keepRb ((Below.refl _ _).alloc (Nat.le_refl _) _) h
theorem keepRb_allocD {d b c : Nat} {o00 o01 o02 o10 o11 o20 : Nat} {x00 x01 x02 x10 x11 x20 : Value} {u : World} {o : Obj} (h : u.drew.cell? ⟨d, o00, none⟩ = some x00 ∧ u.drew.cell? ⟨d, o01, none⟩ = some x01 ∧ u.drew.cell? ⟨d, o02, none⟩ = some x02 ∧ u.drew.cell? ⟨b, o10, none⟩ = some x10 ∧ u.drew.cell? ⟨b, o11, none⟩ = some x11 ∧ u.drew.cell? ⟨c, o20, none⟩ = some x20 ∧ d < u.drew.heap.size ∧ b < u.drew.heap.size ∧ c < u.drew.heap.size) : (u.alloc o).drew.cell? ⟨d, o00, none⟩ = some x00 ∧ (u.alloc o).drew.cell? ⟨d, o01, none⟩ = some x01 ∧ (u.alloc o).drew.cell? ⟨d, o02, none⟩ = some x02 ∧ (u.alloc o).drew.cell? ⟨b, o10, none⟩ = some x10 ∧ (u.alloc o).drew.cell? ⟨b, o11, none⟩ = some x11 ∧ (u.alloc o).drew.cell? ⟨c, o20, none⟩ = some x20 ∧ d < (u.alloc o).drew.heap.size ∧ b < (u.alloc o).drew.heap.size ∧ c < (u.alloc o).drew.heap.size := keepRb_alloc (u := u) h
theorem keepRb_far {d b c : Nat} {o00 o01 o02 o10 o11 o20 : Nat} {x00 x01 x02 x10 x11 x20 : Value} {u v : World} {row : Option Nat} (hg : u.grownBy v row) (nd : some d ≠ row) (nb : some b ≠ row) (nc : some c ≠ row) (h : u.cell? ⟨d, o00, none⟩ = some x00 ∧ u.cell? ⟨d, o01, none⟩ = some x01 ∧ u.cell? ⟨d, o02, none⟩ = some x02 ∧ u.cell? ⟨b, o10, none⟩ = some x10 ∧ u.cell? ⟨b, o11, none⟩ = some x11 ∧ u.cell? ⟨c, o20, none⟩ = some x20 ∧ d < u.heap.size ∧ b < u.heap.size ∧ c < u.heap.size) : v.cell? ⟨d, o00, none⟩ = some x00 ∧ v.cell? ⟨d, o01, none⟩ = some x01 ∧ v.cell? ⟨d, o02, none⟩ = some x02 ∧ v.cell? ⟨b, o10, none⟩ = some x10 ∧ v.cell? ⟨b, o11, none⟩ = some x11 ∧ v.cell? ⟨c, o20, none⟩ = some x20 ∧ d < v.heap.size ∧ b < v.heap.size ∧ c < v.heap.size := by
  obtain ⟨h0, h1, h2, h3, h4, h5, ld, lb, lc⟩ := h
  exact ⟨(hg.cell_far ⟨d, o00, none⟩ ld nd).trans h0, (hg.cell_far ⟨d, o01, none⟩ ld nd).trans h1, (hg.cell_far ⟨d, o02, none⟩ ld nd).trans h2, (hg.cell_far ⟨b, o10, none⟩ lb nb).trans h3, (hg.cell_far ⟨b, o11, none⟩ lb nb).trans h4, (hg.cell_far ⟨c, o20, none⟩ lc nc).trans h5, Nat.lt_of_lt_of_le ld hg.size, Nat.lt_of_lt_of_le lb hg.size, Nat.lt_of_lt_of_le lc hg.size⟩

set_option maxRecDepth 100000 in
set_option maxHeartbeats 4000000 in
theorem routeAll_any (ep : Int) (a : Option Addr) (vs : List RowD) (cap : Nat) (w : World) (hv : RowsIn w a vs) (hf : ∀ v ∈ vs, v.fits) (hn : vs.length ≤ 1048576) :
    Calls Try.prog 40 #[.agg #[.int .i64 ep, .slice a vs.length cap]] w (RouteAllPost ep vs w) := by
  have HV := Lib.hid hv
  have HF := Lib.hid hf
  have hn2 : vs.length ≤ maxLen := by unfold maxLen; omega
  clear hv hf
  obtain ⟨i0, hi0, hz0, hz1, hz2⟩ := info_parts infoKnown
  obtain ⟨W0, hW0⟩ : ∃ W0, w.alloc (.cells #[.int .i64 ep, .slice a vs.length cap] 60) = W0 := ⟨_, rfl⟩
  have B0 : Below w.heap.size w W0 := by rw [← hW0]; exact (Below.refl _ _).alloc (Nat.le_refl _) _
  have s0 : w.heap.size < W0.heap.size := by rw [← hW0]; simp
  have x0 : W0.cell? ⟨w.heap.size, 0, none⟩ = some (.int .i64 ep) := by rw [← hW0]; simp [go_sem]
  have x1 : W0.cell? ⟨w.heap.size, 1, none⟩ = some (.slice a vs.length cap) := by rw [← hW0]; simp [go_sem]
  have HB0 := Lib.hid B0
  clear B0
  go_enter Try.func40, Try.ntmps40
  go_wp2_with fail
  clear hW0
  refine (pmapOk_any ep a vs cap _ (HV.out.below HB0.out) HF.out hn2).mono ?_
  rintro e w1 ⟨b, rfl, hb, hb1⟩
  have HI := Lib.hid hb
  replace x0 := (hb1.cell (p := ⟨w.heap.size, 0, none⟩) s0).trans x0
  replace x1 := (hb1.cell (p := ⟨w.heap.size, 1, none⟩) s0).trans x1
  replace s0 : w.heap.size < w1.heap.size := Nat.lt_of_lt_of_le s0 hb1.size
  have HB1 := Lib.hid (HB0.out.trans (hb1.mono HB0.out.size))
  clear hb hb1
  cases b
  · go_wp2_with fail
    go_ret
    exact ⟨[], .inr ⟨fun h => absurd (HI.out.2 h) (by decide), rfl⟩, none, 0, rfl, (KnownsAt.nil w1).lower HB1.out.size, HB1.out⟩
  have hY := HI.out.1 (by simp)
  have h5 : 1 ≤ vs.length := by have := hY.2.1; simp [inB] at this; omega
  have HY := Lib.hid hY
  clear hY
  go_wp2_with fail
  refine (spanRows_any ep a vs cap _ (HV.out.below HB1.out) hn).mono ?_
  rintro e w2 ⟨vr, rfl, hR, hb2⟩
  replace x0 := (hb2.cell (p := ⟨w.heap.size, 0, none⟩) s0).trans x0
  replace x1 := (hb2.cell (p := ⟨w.heap.size, 1, none⟩) s0).trans x1
  replace s0 : w.heap.size < w2.heap.size := Nat.lt_of_lt_of_le s0 hb2.size
  have HB2 := Lib.hid (HB1.out.trans (hb2.mono HB1.out.size))
  clear hb2
  obtain ⟨gr, cr, rfl, -⟩ := hR.form (by omega)
  have hgr := (hR.lt gr rfl).2
  have HR := Lib.hid hR
  clear hR
  go_wp2_with fail
  go_loopw [3, 12] (fun v' i wr => ∃ (v : Value) (k : Nat), v = v' ∧ k ≤ vs.length ∧ i = .int .i64 (k : Int) ∧ Below w2.heap.size w2 wr ∧ wr.ownsRow w2.heap.size 48 4 v k ((kRows ep vs k).flatMap knownCells)) (fun _ i _ => vs.length - (intOf i).toNat)
  case atStart => exact ⟨_, 0, rfl, Nat.zero_le _, rfl, Below.refl _ _, World.ownsRow_nil _ _ _ _⟩
  case round =>
    obtain ⟨v, k, rfl, hk, rfl, hB, hO⟩ := hrel
    have x0 := (hB.cell (p := ⟨w.heap.size, 0, none⟩) s0).trans x0
    have x1 := (hB.cell (p := ⟨w.heap.size, 1, none⟩) s0).trans x1
    have hsz : w2.heap.size ≤ wr.heap.size := hB.size
    have HX := Lib.hid (HB2.out.trans (hB.mono HB2.out.size))
    by_cases hlt : k < vs.length
    · have hRow := HV.out.below HX.out
      rcases hRow with hnil | ⟨b1, o1, rfl, hb1, hc1⟩
      · rw [hnil] at hlt; simp at hlt
      obtain ⟨c0, c1⟩ := hc1 k hlt
      clear hc1
      have hbw : b1 < w.heap.size := by
        rcases HV.out with hnil | ⟨b2, o2, e2, hb2, _⟩
        · rw [hnil] at hlt; simp at hlt
        · injection e2 with e2; injection e2 with e2 _; rw [e2]; exact hb2
      have hx := fun (j : Nat) (hj : j < 3) => ((hB.cell (p := ⟨gr, k * 3 + j, none⟩) hgr).trans (HR.out.cellAt (k * 3 + j) (by omega))).trans (flat_at (srCells vs) 3 (fun _ => rfl) (List.range vs.length) k j (by simpa using hlt) hj)
      have g0 : wr.cell? ⟨gr, k * 3, none⟩ = some (.string (loOf vs k)) := by have := hx 0 (by omega); simpa [srCells] using this
      have g1 : wr.cell? ⟨gr, k * 3 + 1, none⟩ = some (.string (hiOf vs k)) := by have := hx 1 (by omega); simpa [srCells] using this
      have g2 : wr.cell? ⟨gr, k * 3 + 2, none⟩ = some (.int .i64 (k : Int)) := by have := hx 2 (by omega); simpa [srCells] using this
      clear hx
      obtain ⟨W1, hW1⟩ : ∃ W1, wr.alloc (.cells #[.string (loOf vs k), .string (hiOf vs k), .int .i64 (k : Int)] 139) = W1 := ⟨_, rfl⟩
      have B1 : Below wr.heap.size wr W1 := by rw [← hW1]; exact (Below.refl _ _).alloc (Nat.le_refl _) _
      have d0 : W1.cell? ⟨wr.heap.size, 0, none⟩ = some (.string (loOf vs k)) := by rw [← hW1]; simp [go_sem]
      have d1 : W1.cell? ⟨wr.heap.size, 1, none⟩ = some (.string (hiOf vs k)) := by rw [← hW1]; simp [go_sem]
      have d2 : W1.cell? ⟨wr.heap.size, 2, none⟩ = some (.int .i64 (k : Int)) := by rw [← hW1]; simp [go_sem]
      have z1 : wr.heap.size < W1.heap.size := by rw [← hW1]; simp
      have i1 : (0 : Int) ≤ (k : Int) := by omega
      have i2 : (k : Int) < (vs.length : Int) := by omega
      have nd : some wr.heap.size ≠ v.ownBlock := own_ne hO (.inr (Nat.le_refl _))
      have nb : some w.heap.size ≠ v.ownBlock := own_ne hO (.inl s0)
      have nc : some b1 ≠ v.ownBlock := own_ne hO (.inl (by omega))
      have q : W1.drew.cell? ⟨wr.heap.size, 0, none⟩ = some (.string (loOf vs k)) ∧ W1.drew.cell? ⟨wr.heap.size, 1, none⟩ = some (.string (hiOf vs k)) ∧ W1.drew.cell? ⟨wr.heap.size, 2, none⟩ = some (.int .i64 (k : Int)) ∧ W1.drew.cell? ⟨w.heap.size, 0, none⟩ = some (.int .i64 ep) ∧ W1.drew.cell? ⟨w.heap.size, 1, none⟩ = some (.slice (some ⟨b1, o1, none⟩) vs.length cap) ∧ W1.drew.cell? ⟨b1, o1 + k * 2 + 1, none⟩ = some (.int .i64 vs[k].f1) ∧ wr.heap.size < W1.drew.heap.size ∧ w.heap.size < W1.drew.heap.size ∧ b1 < W1.drew.heap.size := ⟨d0, d1, d2, (B1.cell (p := ⟨w.heap.size, 0, none⟩) (show w.heap.size < wr.heap.size by omega)).trans x0, (B1.cell (p := ⟨w.heap.size, 1, none⟩) (show w.heap.size < wr.heap.size by omega)).trans x1, (B1.cell (p := ⟨b1, o1 + k * 2 + 1, none⟩) hb1).trans c1, z1, by show _ < W1.heap.size; omega, by show _ < W1.heap.size; omega⟩
      have HB := Lib.hid (show Below w2.heap.size w2 W1.drew from (hB.trans (B1.mono hsz)).drew)
      have HO := Lib.hid (show W1.drew.ownsRow w2.heap.size 48 4 v k ((kRows ep vs k).flatMap knownCells) from (Go.Proofs.Ythjikcfpoomioaa.ownsRow_of_below hO B1).drew)
      have hkr : kRow ep vs k = ⟨loOf vs k, hiOf vs k, vs[k].f1, ep⟩ := by rw [kRow, nodeOf_lt hlt]
      have hzz : w2.heap.size ≤ W1.drew.heap.size := by show _ ≤ W1.heap.size; omega
      clear hB hO B1
      go_wp2_with fail
      clear hW1 x0 x1 c0 c1 g0 g1 g2 d0 d1 d2
      go_region_held3 (fun u => u.cell? ⟨wr.heap.size, 0, none⟩ = some (.string (loOf vs k)) ∧ u.cell? ⟨wr.heap.size, 1, none⟩ = some (.string (hiOf vs k)) ∧ u.cell? ⟨wr.heap.size, 2, none⟩ = some (.int .i64 (k : Int)) ∧ u.cell? ⟨w.heap.size, 0, none⟩ = some (.int .i64 ep) ∧ u.cell? ⟨w.heap.size, 1, none⟩ = some (.slice (some ⟨b1, o1, none⟩) vs.length cap) ∧ u.cell? ⟨b1, o1 + k * 2 + 1, none⟩ = some (.int .i64 vs[k].f1) ∧ wr.heap.size < u.heap.size ∧ w.heap.size < u.heap.size ∧ b1 < u.heap.size)
        (first | with_reducible exact q | with_reducible exact keepRb_allocD q | fail)
        (first
          | (refine step_append_lies _ (by rfl) _ _ 41 (by rfl) (w2.heap.size) 48 i0 (.agg #[.string ⟨#[]⟩, .string ⟨#[]⟩, .int .i64 0, .int .i64 0]) 4 48 Try.underlying41 hi0 hz0 hz1 hz2 rfl (by omega) v k ((kRows ep vs k).flatMap knownCells) (by rfl) (own_allocD HO.out) ⟨W1.heap.size, 0, none⟩ 1 1 (knownCells (kRow ep vs k)) (by rfl) (by rfl) (newsKr _ _ _ _ _ _ hkr rfl) (known_one _) (by omega) (by unfold maxLen; omega) (by omega) (by simp; omega) _ rfl ?_; intro gg cp wD hown hgrow hat hlt2; have q := keepRb_far hgrow nd nb nc (keepRb_alloc q); have X := Lib.hid (And.intro hown hgrow); clear hown hgrow hat hlt2)
          | fail)
      all_goals
        go_wp2_with fail
        go_roundw
        case rel => exact ⟨_, k + 1, rfl, by omega, by go_num, grown_ownK (own_allocD HO.out) X.out.2 (below_allocD HB.out hzz) (by simp; omega), by rw [kRows_succ, List.flatMap_append]; simpa using X.out.1⟩
        case measure => simp [intOf]; omega
    · obtain rfl : k = vs.length := by omega
      go_wp2_with fail
      go_ret
      exact ⟨kRows ep vs vs.length, .inl ⟨HY.out, rfl⟩, knownsOut_own (kRows_len _ _ _).symm hO HB2.out.size HX.out⟩
end Go.Proofs.Ythjikcfpoomioaa
