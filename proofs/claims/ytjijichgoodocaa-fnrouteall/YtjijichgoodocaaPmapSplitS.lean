/- All rows are known, as the model has it, with the room of the list told. -/
import Derived.Test.YtjijichgoodocaaRaS
import Derived.Test.YtjijichgoodocaaAppK
import Derived.Test.YtjijichgoodocaaPmSpT
namespace Go.Proofs.Ytjijichgoodocaa
open Go.RowKit

def KnownsOutC (vs : List KnownD) (w : World) (e : Ending) (w' : World) : Prop :=
  ∃ a c, e = .returned (.slice a vs.length c) ∧ KnownsAt w' w.heap.size w'.heap.size a vs ∧ Below w.heap.size w w' ∧ vs.length ≤ c ∧ c ≤ maxLen
def RouteAllPostC (ep : Int) (vs : List RowD) (w : World) (e : Ending) (w' : World) : Prop := ∃ us, RouteAllRel ep vs us ∧ KnownsOutC us w e w'
theorem knownsOutC_own {w w' : World} {v : Value} {us : List KnownD} {base k : Nat} (hk : k = us.length) (h : w'.ownsRow base 84 4 v k (us.flatMap knownCells)) (hb : w.heap.size ≤ base) (hB : Below w.heap.size w w') : KnownsOutC us w (.returned v) w' := by
  subst hk
  obtain ⟨a, c, rfl, hat⟩ := own_knowns h
  rcases Joins.ownsRow_forms h with ⟨e, h0⟩ | ⟨g, cap, e⟩
  · injection e with e1 e2 e3
    subst e1 e3
    exact ⟨none, 0, rfl, hat.lower hb, hB, by omega, Nat.zero_le _⟩
  · injection e with e1 e2 e3
    subst e1 e3
    obtain ⟨h1, h2, _, _⟩ := own_some h
    exact ⟨_, c, rfl, hat.lower hb, hB, h1, h2⟩

set_option maxRecDepth 100000 in
set_option maxHeartbeats 4000000 in
theorem specRouteAllC_any (ep : Int) (a : Option Addr) (vs : List RowD) (cap : Nat) (w : World) (hv : RowsIn w a vs) (hf : ∀ v ∈ vs, v.fits) (hn : vs.length ≤ 1048576) :
    Calls Try.prog 57 #[.agg #[.int .i64 ep, .slice a vs.length cap]] w (RouteAllPostC ep vs w) := by
  have HV := Lib.hid hv
  have HF := Lib.hid hf
  have hn2 : vs.length ≤ maxLen := by unfold maxLen; omega
  clear hv hf
  obtain ⟨i0, hi0, hz0, hz1, hz2⟩ := info_parts infoKnown
  obtain ⟨W0, hW0⟩ : ∃ W0, w.alloc (.cells #[.int .i64 ep, .slice a vs.length cap] 90) = W0 := ⟨_, rfl⟩
  have B0 : Below w.heap.size w W0 := by rw [← hW0]; exact (Below.refl _ _).alloc (Nat.le_refl _) _
  have s0 : W0.heap.size = w.heap.size + 1 := by rw [← hW0]; simp
  have x0 : W0.cell? ⟨w.heap.size, 0, none⟩ = some (.int .i64 ep) := by rw [← hW0]; simp [go_sem]
  have x1 : W0.cell? ⟨w.heap.size, 1, none⟩ = some (.slice a vs.length cap) := by rw [← hW0]; simp [go_sem]
  obtain ⟨W1, hW1⟩ : ∃ W1, W0.alloc (.cells #[] 84) = W1 := ⟨_, rfl⟩
  have B1 : Below W0.heap.size W0 W1 := by rw [← hW1]; exact (Below.refl _ _).alloc (Nat.le_refl _) _
  have O1 : W1.ownsRow (w.heap.size + 1) 84 4 (.slice (some ⟨w.heap.size + 1, 0, none⟩) 0 0) 0 [] := by rw [← hW1, ← s0]; exact empty_knowns (heap_alloc_new _ _) (Nat.le_refl _)
  have x0' := (B1.cell (p := ⟨w.heap.size, 0, none⟩) (show w.heap.size < W0.heap.size by omega)).trans x0
  have x1' := (B1.cell (p := ⟨w.heap.size, 1, none⟩) (show w.heap.size < W0.heap.size by omega)).trans x1
  have HB1 := Lib.hid (B0.trans (B1.mono (by omega)))
  have Hb := Lib.hid B1
  have HO1 := Lib.hid O1
  clear B1 O1
  go_enter Try.func57, Try.ntmps57
  go_wp2_with fail
  clear hW1 hW0
  refine (l5Ok_any ep a vs cap _ (HV.out.below HB1.out) HF.out hn2).mono ?_
  rintro e w1 ⟨b, rfl, hb, hb1⟩
  have HI := Lib.hid hb
  have z1 : W0.heap.size ≤ W1.heap.size := Hb.out.size
  have HB := Lib.hid (HB1.out.trans (hb1.mono HB1.out.size))
  have HBB := Lib.hid (Hb.out.trans (hb1.mono z1))
  have HO := Lib.hid (Go.Proofs.Ytjijichgoodocaa.ownsRow_of_below HO1.out hb1)
  have y0 := (hb1.cell (p := ⟨w.heap.size, 0, none⟩) (show w.heap.size < W1.heap.size by omega)).trans x0'
  have y1 := (hb1.cell (p := ⟨w.heap.size, 1, none⟩) (show w.heap.size < W1.heap.size by omega)).trans x1'
  have s1 : w.heap.size < w1.heap.size := by have := hb1.size; omega
  clear hb hb1 x0' x1'
  cases b
  · go_wp2_with fail
    go_ret
    exact ⟨[], .inr ⟨fun h => absurd (HI.out.2 h) (by decide), rfl⟩, knownsOutC_own rfl HO.out (by omega) HB.out⟩
  have hY := HI.out.1 (by simp)
  have HY := Lib.hid hY
  clear hY
  go_wp2_with fail
  go_loopw [3, 4] (fun v' i wr => ∃ (v : Value) (k : Nat), v = v' ∧ k ≤ vs.length ∧ i = .int .i64 (k : Int) ∧ Below (w.heap.size + 1) W0 wr ∧ wr.ownsRow (w.heap.size + 1) 84 4 v k ((kRows ep vs k).flatMap knownCells)) (fun _ i _ => vs.length - (intOf i).toNat)
  case atStart => exact ⟨_, 0, rfl, Nat.zero_le _, rfl, by rw [← s0]; exact HBB.out, HO.out⟩
  case round =>
    obtain ⟨v, k, rfl, hk, rfl, hB, hO⟩ := hrel
    have x0 := (hB.cell (p := ⟨w.heap.size, 0, none⟩) (by simp)).trans x0
    have x1 := (hB.cell (p := ⟨w.heap.size, 1, none⟩) (by simp)).trans x1
    have hsz : w.heap.size < wr.heap.size := by have := hB.size; omega
    have HX := Lib.hid (B0.trans (hB.mono (by omega)))
    by_cases hlt : k < vs.length
    · have hR := HV.out.below HX.out
      rcases hR with hnil | ⟨b1, o1, rfl, hb1, hc1⟩
      · rw [hnil] at hlt; simp at hlt
      obtain ⟨c0, c1⟩ := hc1 k hlt
      have hbw : b1 < w.heap.size := by
        rcases HV.out with hnil | ⟨b2, o2, e2, hb2, _⟩
        · rw [hnil] at hlt; simp at hlt
        · injection e2 with e2; injection e2 with e2 _; rw [e2]; exact hb2
      have HR := Lib.hid (show RowsIn wr.drew (some ⟨b1, o1, none⟩) vs from .inr ⟨b1, o1, rfl, hb1, hc1⟩)
      clear hc1
      have i1 : (0 : Int) ≤ (k : Int) := by omega
      have i2 : (k : Int) < (vs.length : Int) := by omega
      have nb : some w.heap.size ≠ v.ownBlock := own_ne hO (.inl (by omega))
      have nc : some b1 ≠ v.ownBlock := own_ne hO (.inl (by omega))
      have q : wr.drew.cell? ⟨w.heap.size, 0, none⟩ = some (.int .i64 ep) ∧ wr.drew.cell? ⟨w.heap.size, 1, none⟩ = some (.slice (some ⟨b1, o1, none⟩) vs.length cap) ∧ wr.drew.cell? ⟨b1, o1 + k * 2 + 1, none⟩ = some (.int .i64 vs[k].f1) ∧ w.heap.size < wr.drew.heap.size ∧ b1 < wr.drew.heap.size := ⟨x0, x1, c1, hsz, hb1⟩
      have HB := Lib.hid (show Below (w.heap.size + 1) W0 wr.drew from hB.drew)
      have HO := Lib.hid (show wr.drew.ownsRow (w.heap.size + 1) 84 4 v k ((kRows ep vs k).flatMap knownCells) from hO.drew)
      have hkr : kRow ep vs k = ⟨loOf vs k, hiOf vs k, vs[k].f1, ep⟩ := by rw [kRow, nodeOf_lt hlt]
      have hzz : w.heap.size + 1 ≤ wr.drew.heap.size := hsz
      clear hB hO
      go_wp2_with fail
      clear x0 x1 c0 c1
      go_region_held3 (fun u => u.cell? ⟨w.heap.size, 0, none⟩ = some (.int .i64 ep) ∧ u.cell? ⟨w.heap.size, 1, none⟩ = some (.slice (some ⟨b1, o1, none⟩) vs.length cap) ∧ u.cell? ⟨b1, o1 + k * 2 + 1, none⟩ = some (.int .i64 vs[k].f1) ∧ w.heap.size < u.heap.size ∧ b1 < u.heap.size)
        (first | with_reducible exact q | with_reducible exact keepRa_alloc q | fail)
        (first
          | (go_at_call 123; (with_reducible refine (l5Span_any ep (some ⟨b1, o1, none⟩) vs cap k _ HR.out hlt hn).mono ?_); rintro e wC ⟨rfl, hb⟩; have q := keepRa hb q; have HO := Lib.hid (Go.Proofs.Ytjijichgoodocaa.ownsRow_of_below HO.out hb); have hzz := Nat.le_trans hzz hb.size; have HB := Lib.hid (HB.out.trans (hb.mono (by have := HB.out.size; omega))); clear hb)
          | (refine step_append_lies _ (by rfl) _ _ 80 (by rfl) (w.heap.size + 1) 84 i0 (.agg #[.string ⟨#[]⟩, .string ⟨#[]⟩, .int .i64 0, .int .i64 0]) 4 48 Try.underlying80 hi0 hz0 hz1 hz2 rfl (by omega) v k ((kRows ep vs k).flatMap knownCells) (by rfl) (HO.out.alloc _) ⟨wC.heap.size, 0, none⟩ 1 1 (knownCells (kRow ep vs k)) (by rfl) (by rfl) (newsKr _ _ _ _ _ _ hkr rfl) (known_one _) (by omega) (by unfold maxLen; omega) (by omega) (by simp; omega) _ rfl ?_; intro gg cp wD hown hgrow hat hlt2; have q := keepRa_far hgrow nb nc (keepRa_alloc q); have X := Lib.hid (And.intro hown hgrow); clear hown hgrow hat hlt2)
          | fail)
      all_goals
        go_wp2_with fail
        go_roundw
        case rel => exact ⟨_, k + 1, rfl, by omega, by go_num, grown_ownK (HO.out.alloc _) X.out.2 (HB.out.alloc hzz _) (by simp; omega), by rw [kRows_succ, List.flatMap_append]; simpa using X.out.1⟩
        case measure => simp [intOf]; omega
    · obtain rfl : k = vs.length := by omega
      go_wp2_with fail
      go_ret
      exact ⟨kRows ep vs vs.length, .inl ⟨HY.out, rfl⟩, knownsOutC_own (kRows_len _ _ _).symm hO (by omega) HX.out⟩
end Go.Proofs.Ytjijichgoodocaa

/- A row parted: the model's function. -/
namespace Go.Proofs.Ytjijichgoodocaa
open Go.RowKit

set_option maxRecDepth 100000 in
set_option maxHeartbeats 1000000 in
theorem specPmapSplit_any (ep : Int) (a : Option Addr) (vs : List RowD) (cap : Nat) (key : ByteArray) (node : Int) (w : World) (hv : RowsIn w a vs) (hf : ∀ v ∈ vs, v.fits) (hlen : vs.length ≤ 1048576) (hcap : vs.length ≤ cap) (hcm : cap ≤ maxLen) (hkey : key.size ≤ maxLen) :
    Calls Try.prog 125 #[.agg #[.int .i64 ep, .slice a vs.length cap], .string key, .int .i64 node] w (PmapSplitPost ep vs key node w) := by
  have HV := Lib.hid hv
  have HF := Lib.hid hf
  clear hv hf
  obtain ⟨W1, hW1⟩ : ∃ W1, (w.alloc (.cells #[.int .i64 ep, .slice a vs.length cap] 90)).alloc (.cells #[.int .i64 0, .slice none 0 0] 90) = W1 := ⟨_, rfl⟩
  have B1 : Below w.heap.size w W1 := by rw [← hW1]; exact ((Below.refl _ _).alloc (Nat.le_refl _) _).alloc (by simp) _
  have z1 : w.heap.size + 1 < W1.heap.size := by rw [← hW1]; simp
  have c0 : W1.cell? ⟨w.heap.size, 0, none⟩ = some (.int .i64 ep) := by rw [← hW1]; simp [go_sem]
  have c1 : W1.cell? ⟨w.heap.size, 1, none⟩ = some (.slice a vs.length cap) := by rw [← hW1]; simp [go_sem]
  have d0 : W1.cell? ⟨w.heap.size + 1, 0, none⟩ = some (.int .i64 0) := by rw [← hW1]; simp [go_sem]
  have d1 : W1.cell? ⟨w.heap.size + 1, 1, none⟩ = some (.slice none 0 0) := by rw [← hW1]; simp [go_sem]
  have f0 : W1.frozen? ⟨w.heap.size + 1, 0, none⟩ = false := by rw [← hW1]; simp [go_sem]
  have f1 : W1.frozen? ⟨w.heap.size + 1, 1, none⟩ = false := by rw [← hW1]; simp [go_sem]
  have z0 : w.heap.size < W1.heap.size := by omega
  have HB1 := Lib.hid B1
  clear B1
  go_enter Try.func125, Try.ntmps125
  go_wp2_with fail
  clear hW1
  refine (l5Ok_any ep a vs cap W1 (HV.out.below HB1.out) HF.out (by unfold maxLen; omega)).mono ?_
  rintro e w1 ⟨b, rfl, hk, hb⟩
  have B2 := Lib.hid (HB1.out.trans (hb.mono (by omega)))
  have c0' := (hb.cell (p := ⟨w.heap.size, 0, none⟩) z0).trans c0
  have c1' := (hb.cell (p := ⟨w.heap.size, 1, none⟩) z0).trans c1
  have d0' := (hb.cell (p := ⟨w.heap.size + 1, 0, none⟩) z1).trans d0
  have d1' := (hb.cell (p := ⟨w.heap.size + 1, 1, none⟩) z1).trans d1
  have f0' := (hb.frozen (p := ⟨w.heap.size + 1, 0, none⟩) z1).trans f0
  have f1' := (hb.frozen (p := ⟨w.heap.size + 1, 1, none⟩) z1).trans f1
  have s0 : w.heap.size < w1.heap.size := Nat.lt_of_lt_of_le z0 hb.size
  have s1 : w.heap.size + 1 < w1.heap.size := Nat.lt_of_lt_of_le z1 hb.size
  have HK := Lib.hid hk
  clear hb hk c0 c1 d0 d1 f0 f1
  cases b
  · go_wp2_with fail
    refine bodyPost_ret (v := .tuple #[.agg #[.int .i64 0, .slice none 0 0], .bool false]) (by simp [results, Try.results125, go_sem, d0', d1']) rfl ?_
    exact ⟨0, [], false, .inl ⟨fun h => by simpa using HK.out.2 h, rfl, rfl, rfl⟩, none, 0, rfl, pmAt_none _ _, (B2.out.setCell (p := ⟨w.heap.size + 1, 0, none⟩) (by simp) _).setCell (p := ⟨w.heap.size + 1, 1, none⟩) (by simp) _⟩
  · have hP := Lib.hid (HK.out.1 (by simp))
    have hpos : 0 < vs.length := by have := hP.out.2.1; simp [inB] at this; omega
    have hep : 0 ≤ ep ∧ ep ≤ 99 := by have := hP.out.2.2; simp [inB] at this; omega
    go_wp2_with fail
    refine (l5CanSplit_any ep a vs cap key node _ (HV.out.below B2.out) hP.out hlen hkey).mono ?_
    rintro e w2 ⟨b2, rfl, hk2, hb2⟩
    have B3 := Lib.hid (B2.out.trans (hb2.mono B2.out.size))
    have c0 := (hb2.cell (p := ⟨w.heap.size, 0, none⟩) s0).trans c0'
    have c1 := (hb2.cell (p := ⟨w.heap.size, 1, none⟩) s0).trans c1'
    have d0 := (hb2.cell (p := ⟨w.heap.size + 1, 0, none⟩) s1).trans d0'
    have d1 := (hb2.cell (p := ⟨w.heap.size + 1, 1, none⟩) s1).trans d1'
    have f0 := (hb2.frozen (p := ⟨w.heap.size + 1, 0, none⟩) s1).trans f0'
    have f1 := (hb2.frozen (p := ⟨w.heap.size + 1, 1, none⟩) s1).trans f1'
    have t1 : w.heap.size + 1 < w2.heap.size := Nat.lt_of_lt_of_le s1 hb2.size
    have HK2 := Lib.hid hk2
    clear hb2 hk2 c0' c1' d0' d1' f0' f1'
    cases b2
    · go_wp2_with fail
      refine (l5Copy_any ep a vs cap _ (HV.out.below B3.out) hpos hlen).mono ?_
      rintro e w3 ⟨a3, k3, rfl, hat, hb3, hc3⟩
      have d0' := (hb3.cell (p := ⟨w.heap.size + 1, 0, none⟩) t1).trans d0
      have d1' := (hb3.cell (p := ⟨w.heap.size + 1, 1, none⟩) t1).trans d1
      have f0' := (hb3.frozen (p := ⟨w.heap.size + 1, 0, none⟩) t1).trans f0
      have f1' := (hb3.frozen (p := ⟨w.heap.size + 1, 1, none⟩) t1).trans f1
      have X := Lib.hid (And.intro hat (And.intro hb3 hc3))
      clear hat hb3 hc3 d0 d1 f0 f1
      go_wp2_with fail
      refine bodyPost_ret (v := .tuple #[.agg #[.int .i64 ep, .slice a3 vs.length k3], .bool false]) (by simp [results, Try.results125, go_sem, d0', d1']) rfl ?_
      obtain ⟨hat, hb3, hc3⟩ := X.out
      have off : ∀ b off, a3 = some ⟨b, off, none⟩ → w.heap.size + 1 ≠ b := fun b off e => by have := (hat.l1 b off e).1; omega
      refine ⟨ep, vs, false, .inr (.inl ⟨hP.out, fun h => by simpa using HK2.out.2 h, rfl, rfl, rfl⟩), a3, k3, rfl, ?_, ((B3.out.trans (hb3.mono B3.out.size)).setCell (p := ⟨w.heap.size + 1, 0, none⟩) (by simp) _).setCell (p := ⟨w.heap.size + 1, 1, none⟩) (by simp) _⟩
      exact ⟨((hat.setT off).setT off).in1, ((hat.setT off).setT off).fr1, hat.l1.mono (by omega) (by simp), Nat.le_refl _⟩
    · have hC := HK2.out.1 (by simp)
      obtain ⟨j, hF⟩ := find_ex key hpos
      have HF2 := Lib.hid hF
      clear hF
      have HCm := Lib.hid hC
      clear hC
      go_wp2_with fail
      refine (l5Split_any ep a vs cap j key node _ (HV.out.below B3.out) HF2.out hcap hcm hep.1 hep.2 hlen).mono ?_
      rintro e w3 ⟨a3, k3, rfl, hat, hb3, hc3⟩
      have d0' := (hb3.cell (p := ⟨w.heap.size + 1, 0, none⟩) t1).trans d0
      have d1' := (hb3.cell (p := ⟨w.heap.size + 1, 1, none⟩) t1).trans d1
      have f0' := (hb3.frozen (p := ⟨w.heap.size + 1, 0, none⟩) t1).trans f0
      have f1' := (hb3.frozen (p := ⟨w.heap.size + 1, 1, none⟩) t1).trans f1
      have X := Lib.hid (And.intro hat (And.intro hb3 hc3))
      clear hat hb3 hc3 d0 d1 f0 f1
      go_wp2_with fail
      refine bodyPost_ret (v := .tuple #[.agg #[.int .i64 (ep + 1), .slice a3 (splitAt vs key node j).length k3], .bool true]) (by simp [results, Try.results125, go_sem, d0', d1']) rfl ?_
      obtain ⟨hat, hb3, hc3⟩ := X.out
      have off : ∀ b off, a3 = some ⟨b, off, none⟩ → w.heap.size + 1 ≠ b := fun b off e => by have := (hat.l1 b off e).1; omega
      refine ⟨ep + 1, splitAt vs key node j, true, .inr (.inr ⟨hP.out, HCm.out, rfl, ⟨j, HF2.out, rfl⟩, rfl⟩), a3, k3, rfl, ?_, ((B3.out.trans (hb3.mono B3.out.size)).setCell (p := ⟨w.heap.size + 1, 0, none⟩) (by simp) _).setCell (p := ⟨w.heap.size + 1, 1, none⟩) (by simp) _⟩
      exact ⟨((hat.setT off).setT off).in1, ((hat.setT off).setT off).fr1, hat.l1.mono (by omega) (by simp), Nat.le_refl _⟩
end Go.Proofs.Ytjijichgoodocaa
