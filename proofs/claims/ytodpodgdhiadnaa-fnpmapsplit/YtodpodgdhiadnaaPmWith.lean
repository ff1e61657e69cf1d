/- Rows with one more at its place, as the program makes them. -/
import Derived.Test.YtodpodgdhiadnaaPmCat
import Derived.Test.YtodpodgdhiadnaaPmSp
import Derived.Test.YtodpodgdhiadnaaPmapI
namespace Go.Proofs.Ytodpodgdhiadnaa
open Go.RowKit

def OwnRows (vs : List RowD) (w : World) (e : Ending) (w' : World) : Prop :=
  ∃ g cp, e = .returned (.slice (some ⟨g, 0, none⟩) vs.length cp) ∧ w'.ownsRow w.heap.size 102 2 (.slice (some ⟨g, 0, none⟩) vs.length cp) vs.length (vs.flatMap rowCells) ∧ Below w.heap.size w w'
theorem concat3_any (sb n0 n1 n2 p0 p1 p2 : Nat) (a0 a1 a2 : Option Addr) (v0 v1 v2 L : List RowD) (w : World) (h0 : v0.length = n0) (h1 : v1.length = n1) (h2 : v2.length = n2) (hL : v0 ++ (v1 ++ v2) = L)
    (c0 : w.cell? ⟨sb, 0, none⟩ = some (.slice a0 n0 p0)) (c1 : w.cell? ⟨sb, 1, none⟩ = some (.slice a1 n1 p1)) (c2 : w.cell? ⟨sb, 2, none⟩ = some (.slice a2 n2 p2))
    (r0 : RowsIn w a0 v0) (r1 : RowsIn w a1 v1) (r2 : RowsIn w a2 v2) (hsb : sb < w.heap.size) (hpos : 0 < L.length) (htot : L.length ≤ 4194304) :
    Calls Try.prog 212 #[.slice (some ⟨sb, 0, none⟩) 3 3] w (OwnRows L w) := by
  subst h0 h1 h2 hL
  have hc : catTo [⟨a0, v0, p0⟩, ⟨a1, v1, p1⟩, ⟨a2, v2, p2⟩] 3 = v0 ++ (v1 ++ v2) := by simp [catTo]
  have h := concatRow_any sb [⟨a0, v0, p0⟩, ⟨a1, v1, p1⟩, ⟨a2, v2, p2⟩] w (fun i hi => by
    have h3 : i = 0 ∨ i = 1 ∨ i = 2 := by simp at hi; omega
    rcases h3 with rfl | rfl | rfl
    · exact ⟨c0, r0⟩
    · exact ⟨c1, r1⟩
    · exact ⟨c2, r2⟩) hsb (by simp) (by show 0 < (catTo _ 3).length; rw [hc]; exact hpos) (by show (catTo _ 3).length ≤ _; rw [hc]; exact htot)
  refine h.mono fun e w' hp => ?_
  obtain ⟨g, cp, he, ho, hb⟩ := hp
  have e3 : [(⟨a0, v0, p0⟩ : SlD), ⟨a1, v1, p1⟩, ⟨a2, v2, p2⟩].length = 3 := rfl
  rw [e3, hc] at he ho
  exact ⟨g, cp, he, ho, hb⟩

theorem RowsIn.take {w : World} {b o n : Nat} {vs : List RowD} (hb : b < w.heap.size) (hc : ∀ i (h : i < vs.length), w.cell? ⟨b, o + i * 2, none⟩ = some (.string vs[i].f0) ∧ w.cell? ⟨b, o + i * 2 + 1, none⟩ = some (.int .i64 vs[i].f1)) : RowsIn w (some ⟨b, o, none⟩) (vs.take n) :=
  .inr ⟨b, o, rfl, hb, fun i h => by
    simp only [List.length_take] at h
    rw [List.getElem_take]
    exact hc i (by omega)⟩
theorem RowsIn.drop {w : World} {b o n : Nat} {vs : List RowD} (hb : b < w.heap.size) (hc : ∀ i (h : i < vs.length), w.cell? ⟨b, o + i * 2, none⟩ = some (.string vs[i].f0) ∧ w.cell? ⟨b, o + i * 2 + 1, none⟩ = some (.int .i64 vs[i].f1)) : RowsIn w (some ⟨b, o + n * 2, none⟩) (vs.drop n) :=
  .inr ⟨b, _, rfl, hb, fun i h => by
    simp only [List.length_drop] at h
    rw [List.getElem_drop]
    have := hc (n + i) (by omega)
    rw [show o + n * 2 + i * 2 = o + (n + i) * 2 by omega]
    exact this⟩

set_option maxHeartbeats 1000000 in
theorem withCat_any (b1 o1 q c0 n2 p2 : Nat) (a2 : Option Addr) (vs : List RowD) (key : ByteArray) (node : Int) (W : World) (hq : q < vs.length) (hlen : vs.length ≤ 1048576) (hb1 : b1 < W.heap.size)
    (hc : ∀ i (h : i < vs.length), W.cell? ⟨b1, o1 + i * 2, none⟩ = some (.string vs[i].f0) ∧ W.cell? ⟨b1, o1 + i * 2 + 1, none⟩ = some (.int .i64 vs[i].f1)) (h2 : vs.length - (q + 1) = n2) (ha : n2 = 0 ∨ a2 = some ⟨b1, o1 + (q + 1) * 2, none⟩) :
    Calls Try.prog 212 #[.slice (some ⟨W.heap.size + 1, 0, none⟩) 3 3] ((W.alloc (.cells #[.string key, .int .i64 node] 102)).alloc (.cells #[.slice (some ⟨b1, o1, none⟩) (q + 1) c0, .slice (some ⟨W.heap.size, 0, none⟩) 1 1, .slice a2 n2 p2] 187)).drew fun e w' =>
      ∃ g cp, e = .returned (.slice (some ⟨g, 0, none⟩) (splitAt vs key node q).length cp) ∧ w'.ownsRow W.heap.size 102 2 (.slice (some ⟨g, 0, none⟩) (splitAt vs key node q).length cp) (splitAt vs key node q).length ((splitAt vs key node q).flatMap rowCells) ∧ Below W.heap.size W w' := by
  obtain ⟨U, hU⟩ : ∃ U, ((W.alloc (.cells #[.string key, .int .i64 node] 102)).alloc (.cells #[.slice (some ⟨b1, o1, none⟩) (q + 1) c0, .slice (some ⟨W.heap.size, 0, none⟩) 1 1, .slice a2 n2 p2] 187)).drew = U := ⟨_, rfl⟩
  have hB : Below W.heap.size W U := by rw [← hU]; exact (((Below.refl _ _).alloc (Nat.le_refl _) _).alloc (by simp) _).drew
  have k0 : U.cell? ⟨W.heap.size + 1, 0, none⟩ = some (.slice (some ⟨b1, o1, none⟩) (q + 1) c0) := by rw [← hU]; simp [go_sem]
  have k1 : U.cell? ⟨W.heap.size + 1, 1, none⟩ = some (.slice (some ⟨W.heap.size, 0, none⟩) 1 1) := by rw [← hU]; simp [go_sem]
  have k2 : U.cell? ⟨W.heap.size + 1, 2, none⟩ = some (.slice a2 n2 p2) := by rw [← hU]; simp [go_sem]
  have m0 : U.cell? ⟨W.heap.size, 0, none⟩ = some (.string key) := by rw [← hU]; simp [go_sem]
  have m1 : U.cell? ⟨W.heap.size, 1, none⟩ = some (.int .i64 node) := by rw [← hU]; simp [go_sem]
  have hz : W.heap.size + 1 < U.heap.size := by rw [← hU]; simp
  rw [hU]
  have hcU : ∀ i (h : i < vs.length), U.cell? ⟨b1, o1 + i * 2, none⟩ = some (.string vs[i].f0) ∧ U.cell? ⟨b1, o1 + i * 2 + 1, none⟩ = some (.int .i64 vs[i].f1) := fun i h => ⟨(hB.cell (p := ⟨b1, o1 + i * 2, none⟩) hb1).trans (hc i h).1, (hB.cell (p := ⟨b1, o1 + i * 2 + 1, none⟩) hb1).trans (hc i h).2⟩
  have hbU : b1 < U.heap.size := Nat.lt_of_lt_of_le hb1 hB.size
  have HL := splitAt_len (key := key) (node := node) hq
  have r2 : RowsIn U a2 (vs.drop (q + 1)) := by
    rcases ha with h | h
    · exact .inl (List.eq_nil_of_length_eq_zero (by rw [List.length_drop]; omega))
    · rw [h]; exact RowsIn.drop hbU hcU
  refine (concat3_any (W.heap.size + 1) (q + 1) 1 n2 c0 1 p2 _ _ _ (vs.take (q + 1)) [⟨key, node⟩] (vs.drop (q + 1)) (splitAt vs key node q) U (by simp; omega) rfl (by rw [List.length_drop]; exact h2) rfl k0 k1 k2 (RowsIn.take hbU hcU) (.inr ⟨W.heap.size, 0, rfl, by omega, fun i h => ?_⟩) r2 hz (by rw [HL]; omega) (by rw [HL]; omega)).mono fun e w' hp => ?_
  · obtain rfl : i = 0 := by simp at h; omega
    exact ⟨by simpa using m0, by simpa using m1⟩
  · obtain ⟨g, cp, he, ho, hb⟩ := hp
    exact ⟨g, cp, he, Joins.ownsRow_le ho hB.size, hB.trans (hb.mono hB.size)⟩

set_option maxRecDepth 100000 in
set_option maxHeartbeats 2000000 in
theorem rowWith_any (ep : Int) (a : Option Addr) (vs : List RowD) (cap : Nat) (key : ByteArray) (node : Int) (q : Nat) (w : World) (hv : RowsIn w a vs) (hP : PmapOkP ep vs) (hF : FindAt vs key q) (hno : ¬ hasRow vs key) (hlen : vs.length ≤ 1048576) (hcap : vs.length ≤ cap) (hcm : cap ≤ maxLen) :
    Calls Try.prog 156 #[.slice a vs.length cap, .agg #[.string key, .int .i64 node]] w (OwnRows (splitAt vs key node q) w) := by
  have hq := hF.1.1
  unfold maxLen at hcm
  rcases hv with hnil | ⟨b1, o1, rfl, hb1, hc1⟩
  · rw [hnil] at hq; simp at hq
  have HV := Lib.hid (show RowsIn w (some ⟨b1, o1, none⟩) vs from .inr ⟨b1, o1, rfl, hb1, hc1⟩)
  have HC := Lib.hid hc1
  have HF := Lib.hid hF
  have HP := Lib.hid hP
  have HNo := Lib.hid hno
  clear hc1 hF hP hno
  have mr := meth_rank_row ⟨key, node⟩
  obtain ⟨W1, hW1⟩ : ∃ W1, w.alloc (.cells #[.string key, .int .i64 node] 102) = W1 := ⟨_, rfl⟩
  have B1 : Below w.heap.size w W1 := by rw [← hW1]; exact (Below.refl _ _).alloc (Nat.le_refl _) _
  have z1 : w.heap.size < W1.heap.size := by rw [← hW1]; simp
  have c0 : W1.cell? ⟨w.heap.size, 0, none⟩ = some (.string key) := by rw [← hW1]; simp [go_sem]
  have c1 : W1.cell? ⟨w.heap.size, 1, none⟩ = some (.int .i64 node) := by rw [← hW1]; simp [go_sem]
  have HB1 := Lib.hid B1
  clear B1
  go_enter Try.func156, Try.ntmps156
  go_wp2_with (go_at_call 295; refine (rowRank_any ⟨key, node⟩ _).mono ?_; rintro e w2 ⟨rfl, hb2⟩; have c0' := (hb2.cell (p := ⟨w.heap.size, 0, none⟩) z1).trans c0; have c1' := (hb2.cell (p := ⟨w.heap.size, 1, none⟩) z1).trans c1; have z2 : w.heap.size < w2.heap.size := Nat.lt_of_lt_of_le z1 hb2.size; have HB2 := Lib.hid (HB1.out.trans (hb2.mono HB1.out.size)); clear hb2)
  clear hW1 c0 c1
  refine (rowUpTo_any _ vs cap key _ (HV.out.below HB2.out) hlen).mono ?_
  rintro e w3 ⟨r, rfl, hr, hb3⟩
  obtain ⟨q', rfl, hF'⟩ := cut_find HP.out hr
  obtain rfl := HF.out.unique hF'
  have c0 := (hb3.cell (p := ⟨w.heap.size, 0, none⟩) z2).trans c0'
  have c1 := (hb3.cell (p := ⟨w.heap.size, 1, none⟩) z2).trans c1'
  have z3 : w.heap.size < w3.heap.size := Nat.lt_of_lt_of_le z2 hb3.size
  have HB3 := Lib.hid (HB2.out.trans (hb3.mono HB2.out.size))
  clear hr hF' hb3 c0' c1'
  go_wp2_with (go_at_call 295; refine (rowRank_any ⟨key, node⟩ _).mono ?_; rintro e w4 ⟨rfl, hb4⟩; have c0' := (hb4.cell (p := ⟨w.heap.size, 0, none⟩) z3).trans c0; have c1' := (hb4.cell (p := ⟨w.heap.size, 1, none⟩) z3).trans c1; have z4 : w.heap.size < w4.heap.size := Nat.lt_of_lt_of_le z3 hb4.size; have HB4 := Lib.hid (HB3.out.trans (hb4.mono HB3.out.size)); clear hb4)
  refine (rowGet_any _ vs cap key _ (HV.out.below HB4.out) hlen).mono ?_
  rintro e w5 ⟨r, hr, rfl, hb5⟩
  obtain ⟨q', rfl, hF'⟩ := cut_find HP.out hr
  obtain rfl := HF.out.unique hF'
  have hfound : rfoundAt vs key (q + 1) = none := by
    rcases rfound_has HP.out HF.out with ⟨h, _⟩ | ⟨_, _, h⟩
    · exact h
    · exact absurd h HNo.out
  rw [hfound, rowRes]
  have d0 := (hb5.cell (p := ⟨w.heap.size, 0, none⟩) z4).trans c0'
  have d1 := (hb5.cell (p := ⟨w.heap.size, 1, none⟩) z4).trans c1'
  have z5 : w.heap.size < w5.heap.size := Nat.lt_of_lt_of_le z4 hb5.size
  have HB5 := Lib.hid (HB4.out.trans (hb5.mono HB4.out.size))
  clear hr hF' hb5 c0' c1' hfound c0 c1
  go_wp2_with fail
  obtain ⟨W6, hW6⟩ : ∃ W6, w5.alloc (.cells #[.string ⟨#[]⟩, .int .i64 0] 102) = W6 := ⟨_, rfl⟩
  rw [hW6]
  have b6 : Below w5.heap.size w5 W6 := by rw [← hW6]; exact (Below.refl _ _).alloc (Nat.le_refl _) _
  have e0 := (b6.cell (p := ⟨w.heap.size, 0, none⟩) z5).trans d0
  have e1 := (b6.cell (p := ⟨w.heap.size, 1, none⟩) z5).trans d1
  have z6 : w.heap.size < W6.heap.size := Nat.lt_of_lt_of_le z5 b6.size
  have B6 : Below w.heap.size w W6 := HB5.out.trans (b6.mono HB5.out.size)
  have hb6 : b1 < W6.heap.size := Nat.lt_of_lt_of_le hb1 B6.size
  have HD := Lib.hid (fun (u : World) (hu : Below W6.heap.size W6 u) => (fun i h => ⟨(hu.cell (p := ⟨b1, o1 + i * 2, none⟩) hb6).trans ((B6.cell (p := ⟨b1, o1 + i * 2, none⟩) hb1).trans (HC.out i h).1), (hu.cell (p := ⟨b1, o1 + i * 2 + 1, none⟩) hb6).trans ((B6.cell (p := ⟨b1, o1 + i * 2 + 1, none⟩) hb1).trans (HC.out i h).2)⟩ : ∀ i (h : i < vs.length), u.cell? ⟨b1, o1 + i * 2, none⟩ = some (.string vs[i].f0) ∧ u.cell? ⟨b1, o1 + i * 2 + 1, none⟩ = some (.int .i64 vs[i].f1)))
  have HB6 := Lib.hid B6
  clear hW6 b6 d0 d1 B6 mr HB1 HB2 HB3 HB4 HB5 z1 z2 z3 z4 z5
  have HL := Lib.hid (splitAt_len (key := key) (node := node) hq)
  have HT1 := Lib.hid (show (vs.take (q + 1)).length = q + 1 by simp; omega)
  have HT2 := Lib.hid (show (vs.drop (q + 1)).length = vs.length - (q + 1) by simp)
  have q1 : (0 : Int) ≤ (q : Int) + 1 := by omega
  have q2 : (q : Int) + 1 ≤ (vs.length : Int) := by omega
  have q3 : ((q : Int) + 1).toNat = q + 1 := by omega
  have q5 : q + 1 ≤ cap := by omega
  have q6 : (q : Int) + 1 ≤ (cap : Int) := by omega
  have HR := Lib.hid (fun (c0 n2 p2 : Nat) (a2 : Option Addr) (h2 : vs.length - (q + 1) = n2) (ha : n2 = 0 ∨ a2 = some ⟨b1, o1 + (q + 1) * 2, none⟩) => withCat_any b1 o1 q c0 n2 p2 a2 vs key node W6 hq hlen hb6 (HD.out _ (Below.refl _ _)) h2 ha)
  by_cases q4 : cap = q + 1
  · have hz : vs.length - (q + 1) = 0 := by omega
    have hz2 : cap - (q + 1) = 0 := by omega
    go_region_with (go_at_call 212; refine (HR.out _ _ _ _ (by omega) (.inl rfl)).mono ?_; rintro e w7 ⟨g, cp, rfl, hown, hb7⟩; have X := Lib.hid (And.intro hown hb7); clear hown hb7)
    all_goals
      go_wp2_with fail
      go_ret
      exact ⟨g, cp, rfl, Joins.ownsRow_le X.out.1 (by omega), HB6.out.trans (X.out.2.mono HB6.out.size)⟩
  · go_region_with (go_at_call 212; refine (HR.out _ _ _ _ rfl (.inr rfl)).mono ?_; rintro e w7 ⟨g, cp, rfl, hown, hb7⟩; have X := Lib.hid (And.intro hown hb7); clear hown hb7)
    all_goals
      go_wp2_with fail
      go_ret
      exact ⟨g, cp, rfl, Joins.ownsRow_le X.out.1 (by omega), HB6.out.trans (X.out.2.mono HB6.out.size)⟩
end Go.Proofs.Ytodpodgdhiadnaa
