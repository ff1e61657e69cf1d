/- All rows as they are known, as the program lists them. -/
import Derived.Test.YtjijichgoodocaaRaS
import Derived.Test.YtjijichgoodocaaLst2
import Derived.Test.YtjijichgoodocaaPmapI
import Derived.Test.YtjijichgoodocaaLie
import Derived.Deep.DeepCutAuto
namespace Go.Proofs.Ytjijichgoodocaa
open Go.RowKit

theorem keepRb {d b c : Nat} {o00 o01 o02 o10 o11 o20 : Nat} {x00 x01 x02 x10 x11 x20 : Value} {u v : World} (hb : Below u.heap.size u v) (h : u.cell? ⟨d, o00, none⟩ = some x00 ∧ u.cell? ⟨d, o01, none⟩ = some x01 ∧ u.cell? ⟨d, o02, none⟩ = some x02 ∧ u.cell? ⟨b, o10, none⟩ = some x10 ∧ u.cell? ⟨b, o11, none⟩ = some x11 ∧ u.cell? ⟨c, o20, none⟩ = some x20 ∧ d < u.heap.size ∧ b < u.heap.size ∧ c < u.heap.size) : v.cell? ⟨d, o00, none⟩ = some x00 ∧ v.cell? ⟨d, o01, none⟩ = some x01 ∧ v.cell? ⟨d, o02, none⟩ = some x02 ∧ v.cell? ⟨b, o10, none⟩ = some x10 ∧ v.cell? ⟨b, o11, none⟩ = some x11 ∧ v.cell? ⟨c, o20, none⟩ = some x20 ∧ d < v.heap.size ∧ b < v.heap.size ∧ c < v.heap.size := by
  obtain ⟨h0, h1, h2, h3, h4, h5, ld, lb, lc⟩ := h
  exact ⟨(hb.cell (p := ⟨d, o00, none⟩) ld).trans h0, (hb.cell (p := ⟨d, o01, none⟩) ld).trans h1, (hb.cell (p := ⟨d, o02, none⟩) ld).trans h2, (hb.cell (p := ⟨b, o10, none⟩) lb).trans h3, (hb.cell (p := ⟨b, o11, none⟩) lb).trans h4, (hb.cell (p := ⟨c, o20, none⟩) lc).trans h5, Nat.lt_of_lt_of_le ld hb.size, Nat.lt_of_lt_of_le lb hb.size, Nat.lt_of_lt_of_le lc hb.size⟩
theorem keepRb_alloc {d b c : Nat} {o00 o01 o02 o10 o11 o20 : Nat} {x00 x01 x02 x10 x11 x20 : Value} {u : World} {o : Obj} (h : u.cell? ⟨d, o00, none⟩ = some x00 ∧ u.cell? ⟨d, o01, none⟩ = some x01 ∧ u.cell? ⟨d, o02, none⟩ = some x02 ∧ u.cell? ⟨b, o10, none⟩ = some x10 ∧ u.cell? ⟨b, o11, none⟩ = some x11 ∧ u.cell? ⟨c, o20, none⟩ = some x20 ∧ d < u.heap.size ∧ b < u.heap.size ∧ c < u.heap.size) : (u.alloc o).cell? ⟨d, o00, none⟩ = some x00 ∧ (u.alloc o).cell? ⟨d, o01, none⟩ = some x01 ∧ (u.alloc o).cell? ⟨d, o02, none⟩ = some x02 ∧ (u.alloc o).cell? ⟨b, o10, none⟩ = some x10 ∧ (u.alloc o).cell? ⟨b, o11, none⟩ = some x11 ∧ (u.alloc o).cell? ⟨c, o20, none⟩ = some x20 ∧ d < (u.alloc o).heap.size ∧ b < (u.alloc o).heap.size ∧ c < (u.alloc o).heap.size := keepRb ((Below.refl _ _).alloc (Nat.le_refl _) _) h
theorem keepRb_allocD {d b c : Nat} {o00 o01 o02 o10 o11 o20 : Nat} {x00 x01 x02 x10 x11 x20 : Value} {u : World} {o : Obj} (h : u.drew.cell? ⟨d, o00, none⟩ = some x00 ∧ u.drew.cell? ⟨d, o01, none⟩ = some x01 ∧ u.drew.cell? ⟨d, o02, none⟩ = some x02 ∧ u.drew.cell? ⟨b, o10, none⟩ = some x10 ∧ u.drew.cell? ⟨b, o11, none⟩ = some x11 ∧ u.drew.cell? ⟨c, o20, none⟩ = some x20 ∧ d < u.drew.heap.size ∧ b < u.drew.heap.size ∧ c < u.drew.heap.size) : (u.alloc o).drew.cell? ⟨d, o00, none⟩ = some x00 ∧ (u.alloc o).drew.cell? ⟨d, o01, none⟩ = some x01 ∧ (u.alloc o).drew.cell? ⟨d, o02, none⟩ = some x02 ∧ (u.alloc o).drew.cell? ⟨b, o10, none⟩ = some x10 ∧ (u.alloc o).drew.cell? ⟨b, o11, none⟩ = some x11 ∧ (u.alloc o).drew.cell? ⟨c, o20, none⟩ = some x20 ∧ d < (u.alloc o).drew.heap.size ∧ b < (u.alloc o).drew.heap.size ∧ c < (u.alloc o).drew.heap.size := keepRb_alloc (u := u) h
theorem keepRb_far {d b c : Nat} {o00 o01 o02 o10 o11 o20 : Nat} {x00 x01 x02 x10 x11 x20 : Value} {u v : World} {row : Option Nat} (hg : u.grownBy v row) (nd : some d ≠ row) (nb : some b ≠ row) (nc : some c ≠ row) (h : u.cell? ⟨d, o00, none⟩ = some x00 ∧ u.cell? ⟨d, o01, none⟩ = some x01 ∧ u.cell? ⟨d, o02, none⟩ = some x02 ∧ u.cell? ⟨b, o10, none⟩ = some x10 ∧ u.cell? ⟨b, o11, none⟩ = some x11 ∧ u.cell? ⟨c, o20, none⟩ = some x20 ∧ d < u.heap.size ∧ b < u.heap.size ∧ c < u.heap.size) : v.cell? ⟨d, o00, none⟩ = some x00 ∧ v.cell? ⟨d, o01, none⟩ = some x01 ∧ v.cell? ⟨d, o02, none⟩ = some x02 ∧ v.cell? ⟨b, o10, none⟩ = some x10 ∧ v.cell? ⟨b, o11, none⟩ = some x11 ∧ v.cell? ⟨c, o20, none⟩ = some x20 ∧ d < v.heap.size ∧ b < v.heap.size ∧ c < v.heap.size := by
  obtain ⟨h0, h1, h2, h3, h4, h5, ld, lb, lc⟩ := h
  exact ⟨(hg.cell_far ⟨d, o00, none⟩ ld nd).trans h0, (hg.cell_far ⟨d, o01, none⟩ ld nd).trans h1, (hg.cell_far ⟨d, o02, none⟩ ld nd).trans h2, (hg.cell_far ⟨b, o10, none⟩ lb nb).trans h3, (hg.cell_far ⟨b, o11, none⟩ lb nb).trans h4, (hg.cell_far ⟨c, o20, none⟩ lc nc).trans h5, Nat.lt_of_lt_of_le ld hg.size, Nat.lt_of_lt_of_le lb hg.size, Nat.lt_of_lt_of_le lc hg.size⟩

set_option maxRecDepth 100000 in
set_option maxHeartbeats 4000000 in
theorem routeAll_any (ep : Int) (a : Option Addr) (vs : List RowD) (cap : Nat) (w : World) (hv : RowsIn w a vs) (hf : ∀ v ∈ vs, v.fits) (hn : vs.length ≤ 1048576) :
    Calls Try.prog 55 #[.agg #[.int .i64 ep, .slice a vs.length cap]] w (RouteAllPost ep vs w) := by
  have HV := Lib.hid hv
  have HF := Lib.hid hf
  have hn2 : vs.length ≤ maxLen := by unfold maxLen; omega
  clear hv hf
  obtain ⟨i0, hi0, hz0, hz1, hz2⟩ := info_parts infoKnown
  obtain ⟨W0, hW0⟩ : ∃ W0, w.alloc (.cells #[.int .i64 ep, .slice a vs.length cap] 90) = W0 := ⟨_, rfl⟩
  have B0 : Below w.heap.size w W0 := by rw [← hW0]; exact (Below.refl _ _).alloc (Nat.le_refl _) _
  have s0 : w.heap.size < W0.heap.size := by rw [← hW0]; simp
  have x0 : W0.cell? ⟨w.heap.size, 0, none⟩ = some (.int .i64 ep) := by rw [← hW0]; simp [go_sem]
  have x1 : W0.cell? ⟨w.heap.size, 1, none⟩ = some (.slice a vs.length cap) := by rw [← hW0]; simp [go_sem]
  have HB0 := Lib.hid B0
  clear B0
  go_enter Try.func55, Try.ntmps55
  go_wp2_with fail
  clear hW0
  refine (pmapOk_any ep a vs cap _ (HV.out.below HB0.out) HF.out hn2).mono ?_
  rintro e w1 ⟨b, rfl, hb, hb1⟩
  have HI := Lib.hid hb
  replace x0 := (hb1.cell (p := ⟨w.heap.size, 0, none⟩) s0).trans x0
  replace x1 := (hb1.cell (p := ⟨w.heap.size, 1, none⟩) s0).trans x1
  replace s0 : w.heap.size < w1.heap.size := Nat.lt_of_lt_of_le s0 hb1.size
  have HB1 := Lib.hid (HB0.out.trans (hb1.mono HB0.out.size))
  clear hb hb1
  cases b
  · go_wp2_with fail
    go_ret
    exact ⟨[], .inr ⟨fun h => absurd (HI.out.2 h) (by decide), rfl⟩, none, 0, rfl, (KnownsAt.nil w1).lower HB1.out.size, HB1.out⟩
  have hY := HI.out.1 (by simp)
  have h5 : 1 ≤ vs.length := by have := hY.2.1; simp [inB] at this; omega
  have HY := Lib.hid hY
  clear hY
  go_wp2_with fail
  refine (spanRows_any ep a vs cap _ (HV.out.below HB1.out) hn).mono ?_
  rintro e w2 ⟨vr, rfl, hR, hb2⟩
  replace x0 := (hb2.cell (p := ⟨w.heap.size, 0, none⟩) s0).trans x0
  replace x1 := (hb2.cell (p := ⟨w.heap.size, 1, none⟩) s0).trans x1
  replace s0 : w.heap.size < w2.heap.size := Nat.lt_of_lt_of_le s0 hb2.size
  have HB2 := Lib.hid (HB1.out.trans (hb2.mono HB1.out.size))
  clear hb2
  obtain ⟨gr, cr, rfl, -⟩ := hR.form (by omega)
  have hgr := (hR.lt gr rfl).2
  have HR := Lib.hid hR
  clear hR
  go_wp2_with fail
  go_loopw [3, 12] (fun v' i wr => ∃ (v : Value) (k : Nat), v = v' ∧ k ≤ vs.length ∧ i = .int .i64 (k : Int) ∧ Below w2.heap.size w2 wr ∧ wr.ownsRow w2.heap.size 84 4 v k ((kRows ep vs k).flatMap knownCells)) (fun _ i _ => vs.length - (intOf i).toNat)
  case atStart => exact ⟨_, 0, rfl, Nat.zero_le _, rfl, Below.refl _ _, World.ownsRow_nil _ _ _ _⟩
  case round =>
    obtain ⟨v, k, rfl, hk, rfl, hB, hO⟩ := hrel
    have x0 := (hB.cell (p := ⟨w.heap.size, 0, none⟩) s0).trans x0
    have x1 := (hB.cell (p := ⟨w.heap.size, 1, none⟩) s0).trans x1
    have hsz : w2.heap.size ≤ wr.heap.size := hB.size
    have HX := Lib.hid (HB2.out.trans (hB.mono HB2.out.size))
    by_cases hlt : k < vs.length
    · have hRow := HV.out.below HX.out
      rcases hRow with hnil | ⟨b1, o1, rfl, hb1, hc1⟩
      · rw [hnil] at hlt; simp at hlt
      obtain ⟨c0, c1⟩ := hc1 k hlt
      clear hc1
      have hbw : b1 < w.heap.size := by
        rcases HV.out with hnil | ⟨b2, o2, e2, hb2, _⟩
        · rw [hnil] at hlt; simp at hlt
        · injection e2 with e2; injection e2 with e2 _; rw [e2]; exact hb2
      have hx := fun (j : Nat) (hj : j < 3) => ((hB.cell (p := ⟨gr, k * 3 + j, none⟩) hgr).trans (HR.out.cellAt (k * 3 + j) (by omega))).trans (flat_at (srCells vs) 3 (fun _ => rfl) (List.range vs.length) k j (by simpa using hlt) hj)
      have g0 : wr.cell? ⟨gr, k * 3, none⟩ = some (.string (loOf vs k)) := by have := hx 0 (by omega); simpa [srCells] using this
      have g1 : wr.cell? ⟨gr, k * 3 + 1, none⟩ = some (.string (hiOf vs k)) := by have := hx 1 (by omega); simpa [srCells] using this
      have g2 : wr.cell? ⟨gr, k * 3 + 2, none⟩ = some (.int .i64 (k : Int)) := by have := hx 2 (by omega); simpa [srCells] using this
      clear hx
      obtain ⟨W1, hW1⟩ : ∃ W1, wr.alloc (.cells #[.string (loOf vs k), .string (hiOf vs k), .int .i64 (k : Int)] 156) = W1 := ⟨_, rfl⟩
      have B1 : Below wr.heap.size wr W1 := by rw [← hW1]; exact (Below.refl _ _).alloc (Nat.le_refl _) _
      have d0 : W1.cell? ⟨wr.heap.size, 0, none⟩ = some (.string (loOf vs k)) := by rw [← hW1]; simp [go_sem]
      have d1 : W1.cell? ⟨wr.heap.size, 1, none⟩ = some (.string (hiOf vs k)) := by rw [← hW1]; simp [go_sem]
      have d2 : W1.cell? ⟨wr.heap.size, 2, none⟩ = some (.int .i64 (k : Int)) := by rw [← hW1]; simp [go_sem]
      have z1 : wr.heap.size < W1.heap.size := by rw [← hW1]; simp
      have i1 : (0 : Int) ≤ (k : Int) := by omega
      have i2 : (k : Int) < (vs.length : Int) := by omega
      have nd : some wr.heap.size ≠ v.ownBlock := own_ne hO (.inr (Nat.le_refl _))
      have nb : some w.heap.size ≠ v.ownBlock := own_ne hO (.inl s0)
      have nc : some b1 ≠ v.ownBlock := own_ne hO (.inl (by omega))
      have q : W1.drew.cell? ⟨wr.heap.size, 0, none⟩ = some (.string (loOf vs k)) ∧ W1.drew.cell? ⟨wr.heap.size, 1, none⟩ = some (.string (hiOf vs k)) ∧ W1.drew.cell? ⟨wr.heap.size, 2, none⟩ = some (.int .i64 (k : Int)) ∧ W1.drew.cell? ⟨w.heap.size, 0, none⟩ = some (.int .i64 ep) ∧ W1.drew.cell? ⟨w.heap.size, 1, none⟩ = some (.slice (some ⟨b1, o1, none⟩) vs.length cap) ∧ W1.drew.cell? ⟨b1, o1 + k * 2 + 1, none⟩ = some (.int .i64 vs[k].f1) ∧ wr.heap.size < W1.drew.heap.size ∧ w.heap.size < W1.drew.heap.size ∧ b1 < W1.drew.heap.size := ⟨d0, d1, d2, (B1.cell (p := ⟨w.heap.size, 0, none⟩) (show w.heap.size < wr.heap.size by omega)).trans x0, (B1.cell (p := ⟨w.heap.size, 1, none⟩) (show w.heap.size < wr.heap.size by omega)).trans x1, (B1.cell (p := ⟨b1, o1 + k * 2 + 1, none⟩) hb1).trans c1, z1, by show _ < W1.heap.size; omega, by show _ < W1.heap.size; omega⟩
      have HB := Lib.hid (show Below w2.heap.size w2 W1.drew from (hB.trans (B1.mono hsz)).drew)
      have HO := Lib.hid (show W1.drew.ownsRow w2.heap.size 84 4 v k ((kRows ep vs k).flatMap knownCells) from (Go.Proofs.Ytjijichgoodocaa.ownsRow_of_below hO B1).drew)
      have hkr : kRow ep vs k = ⟨loOf vs k, hiOf vs k, vs[k].f1, ep⟩ := by rw [kRow, nodeOf_lt hlt]
      have hzz : w2.heap.size ≤ W1.drew.heap.size := by show _ ≤ W1.heap.size; omega
      clear hB hO B1
      go_wp2_with fail
      clear hW1 x0 x1 c0 c1 g0 g1 g2 d0 d1 d2
      go_region_held3 (fun u => u.cell? ⟨wr.heap.size, 0, none⟩ = some (.string (loOf vs k)) ∧ u.cell? ⟨wr.heap.size, 1, none⟩ = some (.string (hiOf vs k)) ∧ u.cell? ⟨wr.heap.size, 2, none⟩ = some (.int .i64 (k : Int)) ∧ u.cell? ⟨w.heap.size, 0, none⟩ = some (.int .i64 ep) ∧ u.cell? ⟨w.heap.size, 1, none⟩ = some (.slice (some ⟨b1, o1, none⟩) vs.length cap) ∧ u.cell? ⟨b1, o1 + k * 2 + 1, none⟩ = some (.int .i64 vs[k].f1) ∧ wr.heap.size < u.heap.size ∧ w.heap.size < u.heap.size ∧ b1 < u.heap.size)
        (first | with_reducible exact q | with_reducible exact keepRb_allocD q | fail)
        (first
          | (refine step_append_lies _ (by rfl) _ _ 80 (by rfl) (w2.heap.size) 84 i0 (.agg #[.string ⟨#[]⟩, .string ⟨#[]⟩, .int .i64 0, .int .i64 0]) 4 48 Try.underlying80 hi0 hz0 hz1 hz2 rfl (by omega) v k ((kRows ep vs k).flatMap knownCells) (by rfl) (own_allocD HO.out) ⟨W1.heap.size, 0, none⟩ 1 1 (knownCells (kRow ep vs k)) (by rfl) (by rfl) (newsKr _ _ _ _ _ _ hkr rfl) (known_one _) (by omega) (by unfold maxLen; omega) (by omega) (by simp; omega) _ rfl ?_; intro gg cp wD hown hgrow hat hlt2; have q := keepRb_far hgrow nd nb nc (keepRb_alloc q); have X := Lib.hid (And.intro hown hgrow); clear hown hgrow hat hlt2)
          | fail)
      all_goals
        go_wp2_with fail
        go_roundw
        case rel => exact ⟨_, k + 1, rfl, by omega, by go_num, grown_ownK (own_allocD HO.out) X.out.2 (below_allocD HB.out hzz) (by simp; omega), by rw [kRows_succ, List.flatMap_append]; simpa using X.out.1⟩
        case measure => simp [intOf]; omega
    · obtain rfl : k = vs.length := by omega
      go_wp2_with fail
      go_ret
      exact ⟨kRows ep vs vs.length, .inl ⟨HY.out, rfl⟩, knownsOut_own (kRows_len _ _ _).symm hO HB2.out.size HX.out⟩
end Go.Proofs.Ytjijichgoodocaa

/- Pairs of boxes that a region keeps. -/
namespace Go.Proofs.Ytjijichgoodocaa
open Go.RowKit

theorem keepS {n : Nat} {a1 a2 b1 b2 : Value} {w u v : World} (hb : Below u.heap.size u v) (h : (u).cell? ⟨n, 0, none⟩ = some a1 ∧ (u).cell? ⟨n, 1, none⟩ = some a2 ∧ (u).cell? ⟨n + 1, 0, none⟩ = some b1 ∧ (u).cell? ⟨n + 1, 1, none⟩ = some b2 ∧ n < (u).heap.size ∧ n + 1 < (u).heap.size ∧ Below w.heap.size w (u)) :
    (v).cell? ⟨n, 0, none⟩ = some a1 ∧ (v).cell? ⟨n, 1, none⟩ = some a2 ∧ (v).cell? ⟨n + 1, 0, none⟩ = some b1 ∧ (v).cell? ⟨n + 1, 1, none⟩ = some b2 ∧ n < (v).heap.size ∧ n + 1 < (v).heap.size ∧ Below w.heap.size w (v) := by
  obtain ⟨h1, h2, h3, h4, h5, h6, h7⟩ := h
  obtain ⟨hc, _⟩ := bcell hb
  have := hb.size
  exact ⟨by rw [hc _ _ h5, h1], by rw [hc _ _ h5, h2], by rw [hc _ _ h6, h3], by rw [hc _ _ h6, h4], by omega, by omega, h7.trans (hb.mono h7.size)⟩

theorem keepSet {n g : Nat} {a1 a2 b1 b2 x y : Value} {w u : World} (h : (u).cell? ⟨n, 0, none⟩ = some a1 ∧ (u).cell? ⟨n, 1, none⟩ = some a2 ∧ (u).cell? ⟨n + 1, 0, none⟩ = some b1 ∧ (u).cell? ⟨n + 1, 1, none⟩ = some b2 ∧ n < (u).heap.size ∧ n + 1 < (u).heap.size ∧ Below w.heap.size w (u)) (hn : n + 1 < w.heap.size) (hg : w.heap.size ≤ g) :
    ((u.setCell ⟨g, 0, none⟩ x).setCell ⟨g, 1, none⟩ y).cell? ⟨n, 0, none⟩ = some a1 ∧ ((u.setCell ⟨g, 0, none⟩ x).setCell ⟨g, 1, none⟩ y).cell? ⟨n, 1, none⟩ = some a2 ∧ ((u.setCell ⟨g, 0, none⟩ x).setCell ⟨g, 1, none⟩ y).cell? ⟨n + 1, 0, none⟩ = some b1 ∧ ((u.setCell ⟨g, 0, none⟩ x).setCell ⟨g, 1, none⟩ y).cell? ⟨n + 1, 1, none⟩ = some b2 ∧ n < ((u.setCell ⟨g, 0, none⟩ x).setCell ⟨g, 1, none⟩ y).heap.size ∧ n + 1 < ((u.setCell ⟨g, 0, none⟩ x).setCell ⟨g, 1, none⟩ y).heap.size ∧ Below w.heap.size w ((u.setCell ⟨g, 0, none⟩ x).setCell ⟨g, 1, none⟩ y) := by
  have hb : Below (n + 2) u ((u.setCell ⟨g, 0, none⟩ x).setCell ⟨g, 1, none⟩ y) := ((Below.refl _ _).setCell (by show n + 2 ≤ g; omega) _).setCell (by show n + 2 ≤ g; omega) _
  obtain ⟨h1, h2, h3, h4, h5, h6, h7⟩ := h
  have hs := hb.size
  exact ⟨by rw [hb.cell (p := ⟨n, 0, none⟩) (by show n < n + 2; omega), h1], by rw [hb.cell (p := ⟨n, 1, none⟩) (by show n < n + 2; omega), h2], by rw [hb.cell (p := ⟨n + 1, 0, none⟩) (by show n + 1 < n + 2; omega), h3], by rw [hb.cell (p := ⟨n + 1, 1, none⟩) (by show n + 1 < n + 2; omega), h4], by omega, by omega, (h7.setCell (p := ⟨g, 0, none⟩) hg _).setCell (p := ⟨g, 1, none⟩) hg _⟩

/-- Block g of u is a pair of cells that may be written. -/
def Zr (z0 z1 : Value) (g : Nat) (u : World) : Prop := u.cell? ⟨g, 0, none⟩ = some z0 ∧ u.cell? ⟨g, 1, none⟩ = some z1 ∧ u.frozen? ⟨g, 0, none⟩ = false ∧ u.frozen? ⟨g, 1, none⟩ = false ∧ g < u.heap.size
theorem newZr {z0 z1 : Value} {t : TypeId} {v w' : World} (hw : Below (v.alloc (.cells #[z0, z1] t)).heap.size (v.alloc (.cells #[z0, z1] t)) w') : Zr z0 z1 v.heap.size w' := by
  have lt : v.heap.size < (v.alloc (.cells #[z0, z1] t)).heap.size := by simp
  have hs := hw.size
  refine ⟨?_, ?_, ?_, ?_, by omega⟩
  · rw [hw.cell (p := ⟨v.heap.size, 0, none⟩) lt]; simp
  · rw [hw.cell (p := ⟨v.heap.size, 1, none⟩) lt]; simp
  · rw [hw.frozen (p := ⟨v.heap.size, 0, none⟩) lt]; simp
  · rw [hw.frozen (p := ⟨v.heap.size, 1, none⟩) lt]; simp
theorem carryZr {z0 z1 : Value} {g : Nat} {u w' : World} (hw : Below u.heap.size u w') (h : Zr z0 z1 g u) : Zr z0 z1 g w' := by
  obtain ⟨h1, h2, h3, h4, h5⟩ := h
  have hs := hw.size
  exact ⟨by rw [hw.cell (p := ⟨g, 0, none⟩) h5, h1], by rw [hw.cell (p := ⟨g, 1, none⟩) h5, h2], by rw [hw.frozen (p := ⟨g, 0, none⟩) h5, h3], by rw [hw.frozen (p := ⟨g, 1, none⟩) h5, h4], by omega⟩
theorem of_new {C : Prop} {z0 z1 : Value} {t : TypeId} {v w' : World} (hw : Below (v.alloc (.cells #[z0, z1] t)).heap.size (v.alloc (.cells #[z0, z1] t)) w') (k : Zr z0 z1 v.heap.size w' → C) : C := k (newZr hw)
theorem of_newD {C : Prop} {z0 z1 : Value} {t : TypeId} {v w' : World} (hw : Below (v.alloc (.cells #[z0, z1] t)).drew.heap.size (v.alloc (.cells #[z0, z1] t)).drew w') (k : Zr z0 z1 v.heap.size w' → C) : C :=
  k (newZr (t := t) (((Below.refl _ _).drew).trans hw))
theorem of_carry (g : Nat) {C : Prop} {z0 z1 : Value} {u w' : World} (hw : Below u.heap.size u w') (h : Zr z0 z1 g u) (k : Zr z0 z1 g w' → C) : C := k (carryZr hw h)
theorem Zr.c0 {z0 z1 : Value} {g : Nat} {u : World} (h : Zr z0 z1 g u) : u.cell? ⟨g, 0, none⟩ = some z0 := h.1
theorem Zr.c1 {z0 z1 : Value} {g : Nat} {u : World} (h : Zr z0 z1 g u) : u.cell? ⟨g, 1, none⟩ = some z1 := h.2.1
theorem Zr.f0 {z0 z1 : Value} {g : Nat} {u : World} (h : Zr z0 z1 g u) : u.frozen? ⟨g, 0, none⟩ = false := h.2.2.1
theorem Zr.f1 {z0 z1 : Value} {g : Nat} {u : World} (h : Zr z0 z1 g u) : u.frozen? ⟨g, 1, none⟩ = false := h.2.2.2.1
theorem Zr.lt {z0 z1 : Value} {g : Nat} {u : World} (h : Zr z0 z1 g u) : g < u.heap.size := h.2.2.2.2

theorem szSpanZ_le (lo hi : ByteArray) (left : Int) (h : 0 ≤ left) : szSpanZ lo hi left ≤ left := by
  unfold szSpanZ; split <;> (try split) <;> omega

/-- What holds behind a pair of results that is stored: the two boxes as they were; the new one; nothing old turned. -/
def AfterPair (n : Nat) (w : World) (a1 a2 b1 b2 x1 x2 : Value) (b : Bool) (s6 s7 : Value) (u : World) : Prop :=
  ∃ g : Nat, s6 = .pointer (some ⟨g, 0, none⟩) ∧ s7 = .bool b ∧ u.cell? ⟨g, 0, none⟩ = some x1 ∧ u.cell? ⟨g, 1, none⟩ = some x2 ∧ g < u.heap.size ∧ w.heap.size ≤ g ∧ (u).cell? ⟨n, 0, none⟩ = some a1 ∧ (u).cell? ⟨n, 1, none⟩ = some a2 ∧ (u).cell? ⟨n + 1, 0, none⟩ = some b1 ∧ (u).cell? ⟨n + 1, 1, none⟩ = some b2 ∧ n < (u).heap.size ∧ n + 1 < (u).heap.size ∧ Below w.heap.size w (u)
theorem afterA {n : Nat} {w u : World} {a1 a2 b1 b2 : Value} {x1 x2 : ByteArray} {b : Bool} {t : TypeId} (h : (u).cell? ⟨n, 0, none⟩ = some a1 ∧ (u).cell? ⟨n, 1, none⟩ = some a2 ∧ (u).cell? ⟨n + 1, 0, none⟩ = some b1 ∧ (u).cell? ⟨n + 1, 1, none⟩ = some b2 ∧ n < (u).heap.size ∧ n + 1 < (u).heap.size ∧ Below w.heap.size w (u)) :
    AfterPair n w a1 a2 b1 b2 (.string x1) (.string x2) b (.pointer (some ⟨u.heap.size, 0, none⟩)) (.bool b) (u.alloc (.cells #[.string x1, .string x2] t)) := by
  have q := keepS ((Below.refl _ u).alloc (Nat.le_refl _) (.cells #[.string x1, .string x2] t)) h
  exact ⟨_, rfl, rfl, by simp, by simp, by simp, h.2.2.2.2.2.2.size, q⟩
theorem afterB {n g : Nat} {w u : World} {a1 a2 b1 b2 z0 z1 : Value} {x1 x2 : ByteArray} {b : Bool} (h : (u).cell? ⟨n, 0, none⟩ = some a1 ∧ (u).cell? ⟨n, 1, none⟩ = some a2 ∧ (u).cell? ⟨n + 1, 0, none⟩ = some b1 ∧ (u).cell? ⟨n + 1, 1, none⟩ = some b2 ∧ n < (u).heap.size ∧ n + 1 < (u).heap.size ∧ Below w.heap.size w (u)) (hn : n + 1 < w.heap.size) (hg : w.heap.size ≤ g) (z : Zr z0 z1 g u) :
    AfterPair n w a1 a2 b1 b2 (.string x1) (.string x2) b (.pointer (some ⟨g, 0, none⟩)) (.bool b) ((u.setCell ⟨g, 0, none⟩ (.string x1)).setCell ⟨g, 1, none⟩ (.string x2)) := by
  have q := keepSet (x := .string x1) (y := .string x2) h hn hg
  have c0 := z.c0
  have c1 := z.c1
  have hz := z.lt
  exact ⟨_, rfl, rfl, by simp [go_sem, c0], by simp [go_sem, c1], by simpa using hz, hg, q⟩
theorem zle2m (n : Nat) : n ≤ n + 1 + 1 := by omega
theorem less_trans {x y z : List UInt8} (h : Op.bytesLess x y = true) (k : Op.bytesLess y z = true) : Op.bytesLess x z = true := by
  rw [bytesLess_eq] at *
  simp only [decide_eq_true_eq] at *
  exact List.lt_trans h k

theorem less_irrefl (x : List UInt8) : Op.bytesLess x x = false := by rw [bytesLess_eq]; exact decide_eq_false (List.lt_irrefl _)
theorem bytes_eq {x y : ByteArray} (h : x.toList = y.toList) : x = y := by
  rw [ByteArray.toList_eq, ByteArray.toList_eq] at h
  cases x; cases y
  congr
  exact Array.toList_inj.1 h
end Go.Proofs.Ytjijichgoodocaa
