/- All rows as they are known, as the model lists them. -/
import Derived.Test.YtjijichgoodocaaFlRow
import Derived.Test.YtjijichgoodocaaLst2
import Derived.Test.YtjijichgoodocaaKnS
import Derived.Deep.RegionHeld3
namespace Go.Proofs.Ytjijichgoodocaa
open Go.RowKit

def nodeOf (vs : List RowD) (i : Nat) : Int := if h : i < vs.length then vs[i].f1 else 0
theorem nodeOf_lt {vs : List RowD} {i : Nat} (h : i < vs.length) : nodeOf vs i = vs[i].f1 := by simp [nodeOf, h]
def kRow (ep : Int) (vs : List RowD) (i : Nat) : KnownD := ⟨loOf vs i, hiOf vs i, nodeOf vs i, ep⟩
def kRows (ep : Int) (vs : List RowD) (k : Nat) : List KnownD := (List.range k).map (kRow ep vs)
theorem kRows_succ (ep : Int) (vs : List RowD) (k : Nat) : kRows ep vs (k + 1) = kRows ep vs k ++ [kRow ep vs k] := by simp [kRows, List.range_succ]
theorem kRows_len (ep : Int) (vs : List RowD) (k : Nat) : (kRows ep vs k).length = k := by simp [kRows]
def RouteAllRel (ep : Int) (vs : List RowD) (us : List KnownD) : Prop := (PmapOkP ep vs ∧ us = kRows ep vs vs.length) ∨ (¬ PmapOkP ep vs ∧ us = [])
theorem RouteAllRel.unique {ep : Int} {vs : List RowD} {us us' : List KnownD} (h : RouteAllRel ep vs us) (g : RouteAllRel ep vs us') : us = us' := by
  rcases h with ⟨h1, rfl⟩ | ⟨h1, rfl⟩ <;> rcases g with ⟨g1, rfl⟩ | ⟨g1, rfl⟩
  · rfl
  · exact absurd h1 g1
  · exact absurd g1 h1
  · rfl
theorem RouteAllRel.len {ep : Int} {vs : List RowD} {us : List KnownD} (h : RouteAllRel ep vs us) (hn : vs.length ≤ 1048576) : us.length ≤ 2097152 := by
  rcases h with ⟨_, rfl⟩ | ⟨_, rfl⟩
  · rw [kRows_len]; omega
  · simp
def RouteAllPost (ep : Int) (vs : List RowD) (w : World) (e : Ending) (w' : World) : Prop := ∃ us, RouteAllRel ep vs us ∧ KnownsOut us w e w'
theorem knownsOut_own {w w' : World} {v : Value} {us : List KnownD} {base k : Nat} (hk : k = us.length) (h : w'.ownsRow base 84 4 v k (us.flatMap knownCells)) (hb : w.heap.size ≤ base) (hB : Below w.heap.size w w') : KnownsOut us w (.returned v) w' := by
  subst hk
  obtain ⟨a, c, rfl, hat⟩ := own_knowns h
  exact ⟨a, c, rfl, hat.lower hb, hB⟩
theorem grown_ownK {w W w' : World} {B n : Nat} {e : TypeId} {size : Nat} {v : Value} {xs : List Value} (hO : W.ownsRow B e size v n xs) (h : W.grownBy w' v.ownBlock) (hB : Below B w W) (hs : B ≤ W.heap.size) : Below B w w' := hB.grown h hs (fun j hj => (hO.lt j hj).1)
theorem newsKr {ep : Int} {vs : List RowD} {k : Nat} (w : World) (lo hi : ByteArray) (n : Int) (ty : TypeId) (g : Nat) (hk : kRow ep vs k = ⟨lo, hi, n, ep⟩) (hg : w.heap.size = g) : ∀ j u, (knownCells (kRow ep vs k))[j]? = some u → (w.alloc (.cells #[.string lo, .string hi, .int .i64 n, .int .i64 ep] ty)).cell? ((⟨g, 0, none⟩ : Addr).add j) = some u := by
  rw [hk]; exact newsKnown w ⟨lo, hi, n, ep⟩ ty g hg
theorem newsKrD {ep : Int} {vs : List RowD} {k : Nat} (w : World) (lo hi : ByteArray) (n : Int) (ty : TypeId) (g : Nat) (hk : kRow ep vs k = ⟨lo, hi, n, ep⟩) (hg : w.heap.size = g) : ∀ j u, (knownCells (kRow ep vs k))[j]? = some u → (w.alloc (.cells #[.string lo, .string hi, .int .i64 n, .int .i64 ep] ty)).drew.cell? ((⟨g, 0, none⟩ : Addr).add j) = some u := newsKr w lo hi n ty g hk hg
theorem own_allocD {u : World} {o : Obj} {B size n : Nat} {e : TypeId} {v : Value} {xs : List Value} (h : u.drew.ownsRow B e size v n xs) : (u.alloc o).drew.ownsRow B e size v n xs := World.ownsRow.drew (World.ownsRow.alloc (show u.ownsRow B e size v n xs from h) o)
theorem below_allocD {B : Nat} {a u : World} {o : Obj} (h : Below B a u.drew) (hs : B ≤ u.heap.size) : Below B a (u.alloc o).drew := ((show Below B a u from ⟨h.os, h.tape, h.output, h.size, h.block⟩).alloc hs o).drew
theorem own_ne {w : World} {B b : Nat} {e : TypeId} {size n : Nat} {v : Value} {xs : List Value} (h : w.ownsRow B e size v n xs) (hb : b < B ∨ w.heap.size ≤ b) : some b ≠ v.ownBlock := fun e => by
  have := h.lt b e.symm
  omega
theorem keepRa {b c : Nat} {o00 o01 o10 : Nat} {x00 x01 x10 : Value} {u v : World} (hb : Below u.heap.size u v) (h : u.cell? ⟨b, o00, none⟩ = some x00 ∧ u.cell? ⟨b, o01, none⟩ = some x01 ∧ u.cell? ⟨c, o10, none⟩ = some x10 ∧ b < u.heap.size ∧ c < u.heap.size) : v.cell? ⟨b, o00, none⟩ = some x00 ∧ v.cell? ⟨b, o01, none⟩ = some x01 ∧ v.cell? ⟨c, o10, none⟩ = some x10 ∧ b < v.heap.size ∧ c < v.heap.size := by
  obtain ⟨h0, h1, h2, lb, lc⟩ := h
  exact ⟨(hb.cell (p := ⟨b, o00, none⟩) lb).trans h0, (hb.cell (p := ⟨b, o01, none⟩) lb).trans h1, (hb.cell (p := ⟨c, o10, none⟩) lc).trans h2, Nat.lt_of_lt_of_le lb hb.size, Nat.lt_of_lt_of_le lc hb.size⟩
theorem keepRa_alloc {b c : Nat} {o00 o01 o10 : Nat} {x00 x01 x10 : Value} {u : World} {o : Obj} (h : u.cell? ⟨b, o00, none⟩ = some x00 ∧ u.cell? ⟨b, o01, none⟩ = some x01 ∧ u.cell? ⟨c, o10, none⟩ = some x10 ∧ b < u.heap.size ∧ c < u.heap.size) : (u.alloc o).cell? ⟨b, o00, none⟩ = some x00 ∧ (u.alloc o).cell? ⟨b, o01, none⟩ = some x01 ∧ (u.alloc o).cell? ⟨c, o10, none⟩ = some x10 ∧ b < (u.alloc o).heap.size ∧ c < (u.alloc o).heap.size := keepRa ((Below.refl _ _).alloc (Nat.le_refl _) _) h
theorem keepRa_allocD {b c : Nat} {o00 o01 o10 : Nat} {x00 x01 x10 : Value} {u : World} {o : Obj} (h : u.drew.cell? ⟨b, o00, none⟩ = some x00 ∧ u.drew.cell? ⟨b, o01, none⟩ = some x01 ∧ u.drew.cell? ⟨c, o10, none⟩ = some x10 ∧ b < u.drew.heap.size ∧ c < u.drew.heap.size) : (u.alloc o).drew.cell? ⟨b, o00, none⟩ = some x00 ∧ (u.alloc o).drew.cell? ⟨b, o01, none⟩ = some x01 ∧ (u.alloc o).drew.cell? ⟨c, o10, none⟩ = some x10 ∧ b < (u.alloc o).drew.heap.size ∧ c < (u.alloc o).drew.heap.size := keepRa_alloc (u := u) h
theorem keepRa_far {b c : Nat} {o00 o01 o10 : Nat} {x00 x01 x10 : Value} {u v : World} {row : Option Nat} (hg : u.grownBy v row) (nb : some b ≠ row) (nc : some c ≠ row) (h : u.cell? ⟨b, o00, none⟩ = some x00 ∧ u.cell? ⟨b, o01, none⟩ = some x01 ∧ u.cell? ⟨c, o10, none⟩ = some x10 ∧ b < u.heap.size ∧ c < u.heap.size) : v.cell? ⟨b, o00, none⟩ = some x00 ∧ v.cell? ⟨b, o01, none⟩ = some x01 ∧ v.cell? ⟨c, o10, none⟩ = some x10 ∧ b < v.heap.size ∧ c < v.heap.size := by
  obtain ⟨h0, h1, h2, lb, lc⟩ := h
  exact ⟨(hg.cell_far ⟨b, o00, none⟩ lb nb).trans h0, (hg.cell_far ⟨b, o01, none⟩ lb nb).trans h1, (hg.cell_far ⟨c, o10, none⟩ lc nc).trans h2, Nat.lt_of_lt_of_le lb hg.size, Nat.lt_of_lt_of_le lc hg.size⟩

set_option maxRecDepth 100000 in
set_option maxHeartbeats 4000000 in
theorem specRouteAll_any (ep : Int) (a : Option Addr) (vs : List RowD) (cap : Nat) (w : World) (hv : RowsIn w a vs) (hf : ∀ v ∈ vs, v.fits) (hn : vs.length ≤ 1048576) :
    Calls Try.prog 57 #[.agg #[.int .i64 ep, .slice a vs.length cap]] w (RouteAllPost ep vs w) := by
  have HV := Lib.hid hv
  have HF := Lib.hid hf
  have hn2 : vs.length ≤ maxLen := by unfold maxLen; omega
  clear hv hf
  obtain ⟨i0, hi0, hz0, hz1, hz2⟩ := info_parts infoKnown
  obtain ⟨W0, hW0⟩ : ∃ W0, w.alloc (.cells #[.int .i64 ep, .slice a vs.length cap] 90) = W0 := ⟨_, rfl⟩
  have B0 : Below w.heap.size w W0 := by rw [← hW0]; exact (Below.refl _ _).alloc (Nat.le_refl _) _
  have s0 : W0.heap.size = w.heap.size + 1 := by rw [← hW0]; simp
  have x0 : W0.cell? ⟨w.heap.size, 0, none⟩ = some (.int .i64 ep) := by rw [← hW0]; simp [go_sem]
  have x1 : W0.cell? ⟨w.heap.size, 1, none⟩ = some (.slice a vs.length cap) := by rw [← hW0]; simp [go_sem]
  obtain ⟨W1, hW1⟩ : ∃ W1, W0.alloc (.cells #[] 84) = W1 := ⟨_, rfl⟩
  have B1 : Below W0.heap.size W0 W1 := by rw [← hW1]; exact (Below.refl _ _).alloc (Nat.le_refl _) _
  have O1 : W1.ownsRow (w.heap.size + 1) 84 4 (.slice (some ⟨w.heap.size + 1, 0, none⟩) 0 0) 0 [] := by rw [← hW1, ← s0]; exact empty_knowns (heap_alloc_new _ _) (Nat.le_refl _)
  have x0' := (B1.cell (p := ⟨w.heap.size, 0, none⟩) (show w.heap.size < W0.heap.size by omega)).trans x0
  have x1' := (B1.cell (p := ⟨w.heap.size, 1, none⟩) (show w.heap.size < W0.heap.size by omega)).trans x1
  have HB1 := Lib.hid (B0.trans (B1.mono (by omega)))
  have Hb := Lib.hid B1
  have HO1 := Lib.hid O1
  clear B1 O1
  go_enter Try.func57, Try.ntmps57
  go_wp2_with fail
  clear hW1 hW0
  refine (l5Ok_any ep a vs cap _ (HV.out.below HB1.out) HF.out hn2).mono ?_
  rintro e w1 ⟨b, rfl, hb, hb1⟩
  have HI := Lib.hid hb
  have z1 : W0.heap.size ≤ W1.heap.size := Hb.out.size
  have HB := Lib.hid (HB1.out.trans (hb1.mono HB1.out.size))
  have HBB := Lib.hid (Hb.out.trans (hb1.mono z1))
  have HO := Lib.hid (Go.Proofs.Ytjijichgoodocaa.ownsRow_of_below HO1.out hb1)
  have y0 := (hb1.cell (p := ⟨w.heap.size, 0, none⟩) (show w.heap.size < W1.heap.size by omega)).trans x0'
  have y1 := (hb1.cell (p := ⟨w.heap.size, 1, none⟩) (show w.heap.size < W1.heap.size by omega)).trans x1'
  have s1 : w.heap.size < w1.heap.size := by have := hb1.size; omega
  clear hb hb1 x0' x1'
  cases b
  · go_wp2_with fail
    go_ret
    exact ⟨[], .inr ⟨fun h => absurd (HI.out.2 h) (by decide), rfl⟩, knownsOut_own rfl HO.out (by omega) HB.out⟩
  have hY := HI.out.1 (by simp)
  have HY := Lib.hid hY
  clear hY
  go_wp2_with fail
  go_loopw [3, 4] (fun v' i wr => ∃ (v : Value) (k : Nat), v = v' ∧ k ≤ vs.length ∧ i = .int .i64 (k : Int) ∧ Below (w.heap.size + 1) W0 wr ∧ wr.ownsRow (w.heap.size + 1) 84 4 v k ((kRows ep vs k).flatMap knownCells)) (fun _ i _ => vs.length - (intOf i).toNat)
  case atStart => exact ⟨_, 0, rfl, Nat.zero_le _, rfl, by rw [← s0]; exact HBB.out, HO.out⟩
  case round =>
    obtain ⟨v, k, rfl, hk, rfl, hB, hO⟩ := hrel
    have x0 := (hB.cell (p := ⟨w.heap.size, 0, none⟩) (by simp)).trans x0
    have x1 := (hB.cell (p := ⟨w.heap.size, 1, none⟩) (by simp)).trans x1
    have hsz : w.heap.size < wr.heap.size := by have := hB.size; omega
    have HX := Lib.hid (B0.trans (hB.mono (by omega)))
    by_cases hlt : k < vs.length
    · have hR := HV.out.below HX.out
      rcases hR with hnil | ⟨b1, o1, rfl, hb1, hc1⟩
      · rw [hnil] at hlt; simp at hlt
      obtain ⟨c0, c1⟩ := hc1 k hlt
      have hbw : b1 < w.heap.size := by
        rcases HV.out with hnil | ⟨b2, o2, e2, hb2, _⟩
        · rw [hnil] at hlt; simp at hlt
        · injection e2 with e2; injection e2 with e2 _; rw [e2]; exact hb2
      have HR := Lib.hid (show RowsIn wr.drew (some ⟨b1, o1, none⟩) vs from .inr ⟨b1, o1, rfl, hb1, hc1⟩)
      clear hc1
      have i1 : (0 : Int) ≤ (k : Int) := by omega
      have i2 : (k : Int) < (vs.length : Int) := by omega
      have nb : some w.heap.size ≠ v.ownBlock := own_ne hO (.inl (by omega))
      have nc : some b1 ≠ v.ownBlock := own_ne hO (.inl (by omega))
      have q : wr.drew.cell? ⟨w.heap.size, 0, none⟩ = some (.int .i64 ep) ∧ wr.drew.cell? ⟨w.heap.size, 1, none⟩ = some (.slice (some ⟨b1, o1, none⟩) vs.length cap) ∧ wr.drew.cell? ⟨b1, o1 + k * 2 + 1, none⟩ = some (.int .i64 vs[k].f1) ∧ w.heap.size < wr.drew.heap.size ∧ b1 < wr.drew.heap.size := ⟨x0, x1, c1, hsz, hb1⟩
      have HB := Lib.hid (show Below (w.heap.size + 1) W0 wr.drew from hB.drew)
      have HO := Lib.hid (show wr.drew.ownsRow (w.heap.size + 1) 84 4 v k ((kRows ep vs k).flatMap knownCells) from hO.drew)
      have hkr : kRow ep vs k = ⟨loOf vs k, hiOf vs k, vs[k].f1, ep⟩ := by rw [kRow, nodeOf_lt hlt]
      have hzz : w.heap.size + 1 ≤ wr.drew.heap.size := hsz
      clear hB hO
      go_wp2_with fail
      clear x0 x1 c0 c1
      go_region_held3 (fun u => u.cell? ⟨w.heap.size, 0, none⟩ = some (.int .i64 ep) ∧ u.cell? ⟨w.heap.size, 1, none⟩ = some (.slice (some ⟨b1, o1, none⟩) vs.length cap) ∧ u.cell? ⟨b1, o1 + k * 2 + 1, none⟩ = some (.int .i64 vs[k].f1) ∧ w.heap.size < u.heap.size ∧ b1 < u.heap.size)
        (first | with_reducible exact q | with_reducible exact keepRa_alloc q | fail)
        (first
          | (go_at_call 123; (with_reducible refine (l5Span_any ep (some ⟨b1, o1, none⟩) vs cap k _ HR.out hlt hn).mono ?_); rintro e wC ⟨rfl, hb⟩; have q := keepRa hb q; have HO := Lib.hid (Go.Proofs.Ytjijichgoodocaa.ownsRow_of_below HO.out hb); have hzz := Nat.le_trans hzz hb.size; have HB := Lib.hid (HB.out.trans (hb.mono (by have := HB.out.size; omega))); clear hb)
          | (refine step_append_lies _ (by rfl) _ _ 80 (by rfl) (w.heap.size + 1) 84 i0 (.agg #[.string ⟨#[]⟩, .string ⟨#[]⟩, .int .i64 0, .int .i64 0]) 4 48 Try.underlying80 hi0 hz0 hz1 hz2 rfl (by omega) v k ((kRows ep vs k).flatMap knownCells) (by rfl) (HO.out.alloc _) ⟨wC.heap.size, 0, none⟩ 1 1 (knownCells (kRow ep vs k)) (by rfl) (by rfl) (newsKr _ _ _ _ _ _ hkr rfl) (known_one _) (by omega) (by unfold maxLen; omega) (by omega) (by simp; omega) _ rfl ?_; intro gg cp wD hown hgrow hat hlt2; have q := keepRa_far hgrow nb nc (keepRa_alloc q); have X := Lib.hid (And.intro hown hgrow); clear hown hgrow hat hlt2)
          | fail)
      all_goals
        go_wp2_with fail
        go_roundw
        case rel => exact ⟨_, k + 1, rfl, by omega, by go_num, grown_ownK (HO.out.alloc _) X.out.2 (HB.out.alloc hzz _) (by simp; omega), by rw [kRows_succ, List.flatMap_append]; simpa using X.out.1⟩
        case measure => simp [intOf]; omega
    · obtain rfl : k = vs.length := by omega
      go_wp2_with fail
      go_ret
      exact ⟨kRows ep vs vs.length, .inl ⟨HY.out, rfl⟩, knownsOut_own (kRows_len _ _ _).symm hO (by omega) HX.out⟩
end Go.Proofs.Ytjijichgoodocaa
