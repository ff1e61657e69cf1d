/- Plain facts on maps of parts that are ok: the spans of their rows. -/
import Derived.Test.YtodpodgdhiadnaaPmCpS
import Derived.Test.YtodpodgdhiadnaaJoin
import Derived.Test.YtodpodgdhiadnaaPmSpS
import Derived.Test.YtodpodgdhiadnaaDrawT
import Derived.Test.YtodpodgdhiadnaaAsk
import Derived.Deep.QuietTactic
import Derived.BigQuiet
namespace Go.Proofs.Ytodpodgdhiadnaa
open Go.RowKit

theorem okB_nil : okB keyB 6 ⟨#[]⟩ = true := by decide +kernel
theorem pm_lo_ok {ep : Int} {vs : List RowD} (h : PmapOkP ep vs) {j : Nat} (hj : j < vs.length) : okB keyB 6 (loOf vs j) = true := by
  rw [loOf_lt hj]; exact (pmapOk_rows h _ (List.getElem_mem hj)).1
theorem pm_hi_ok {ep : Int} {vs : List RowD} (h : PmapOkP ep vs) (j : Nat) : okB keyB 6 (hiOf vs j) = true := by
  by_cases hj : j + 1 < vs.length
  · rw [hiOf_lt hj]; exact (pmapOk_rows h _ (List.getElem_mem hj)).1
  · rw [hiOf_ge hj]; exact okB_nil
theorem pm_span_ok {ep : Int} {vs : List RowD} (h : PmapOkP ep vs) {j : Nat} (hj : j < vs.length) : spanOkB (loOf vs j) (hiOf vs j) = true := by
  unfold spanOkB
  rw [pm_lo_ok h hj, pm_hi_ok h j]
  by_cases h1 : j + 1 < vs.length
  · rw [hiOf_lt h1, loOf_lt hj, (less_iff _ _).2 (pmap_next h h1)]; simp
  · rw [hiOf_ge h1, nil_toList]; rfl
theorem pm_hi_ne {ep : Int} {vs : List RowD} (h : PmapOkP ep vs) {j : Nat} (hj : j + 1 < vs.length) : (hiOf vs j).toList.isEmpty = false := by
  rw [hiOf_lt hj]
  have h1 := pmap_next h hj
  cases he : vs[j + 1].f0.toList with
  | nil => rw [he] at h1; exact absurd h1 (List.not_lt_nil _)
  | cons a t => rfl
theorem pm_join {ep : Int} {vs : List RowD} (h : PmapOkP ep vs) {j : Nat} (hj : j + 1 < vs.length) : joinOkB (loOf vs j) (hiOf vs j) (loOf vs (j + 1)) (hiOf vs (j + 1)) = true := by
  unfold joinOkB
  rw [pm_span_ok h (by omega), pm_span_ok h hj, pm_hi_ne h hj, hiOf_lt hj, loOf_lt hj]; simp
theorem pm_first {ep : Int} {vs : List RowD} (h : PmapOkP ep vs) : (loOf vs 0).toList = [] := by
  rw [loOf_lt h.pos]; exact pmap_first h h.pos
theorem pm_has {ep : Int} {vs : List RowD} (h : PmapOkP ep vs) {key : ByteArray} {k i : Nat} (hF : FindAt vs key k) (hi : i < vs.length) : hasB (loOf vs i) (hiOf vs i) key = decide (i = k) := by
  have hk := hF.1.1
  have lo : ∀ n, n < vs.length → n ≤ k → Op.bytesLess key.toList (loOf vs n).toList = false := fun n hn hnk => by
    rcases Nat.eq_zero_or_pos n with rfl | hp
    · rw [pm_first h]; cases key.toList <;> rfl
    · have := hF.1.2 n hp hnk; rw [leB_not] at this; simpa using this
  rcases Nat.lt_trichotomy i k with hlt | rfl | hgt
  · rw [decide_eq_false (by omega)]
    unfold hasB
    have e := pm_hi_ne h (j := i) (by omega)
    have e2 := lo (i + 1) (by omega) (by omega)
    rw [loOf_lt (by omega)] at e2
    rw [e, hiOf_lt (by omega), e2]; simp
  · rw [decide_eq_true rfl]
    unfold hasB
    rw [lo i hk (Nat.le_refl _)]
    by_cases h1 : i + 1 < vs.length
    · have := hF.2 h1
      rw [loOf_lt h1, leB_not] at this
      rw [hiOf_lt h1]; simp at this; simp [this]
    · rw [hiOf_ge h1, nil_toList]; rfl
  · rw [decide_eq_false (by omega)]
    have h1 : k + 1 < vs.length := by omega
    have h2 := hF.2 h1
    rw [loOf_lt h1, leB_no] at h2
    have h3 : key.toList < vs[i].f0.toList := by
      by_cases e : i = k + 1
      · subst e; exact h2
      · exact List.lt_trans h2 (pmap_mono h (i := k + 1) (j := i) h1 hi (by omega))
    unfold hasB
    rw [loOf_lt hi, (less_iff _ _).2 h3]; rfl
theorem pm_spanHas {ep : Int} {vs : List RowD} (h : PmapOkP ep vs) {key : ByteArray} {k i : Nat} (hK : keyOkB key = true) (hF : FindAt vs key k) (hi : i < vs.length) : spanHasB (loOf vs i) (hiOf vs i) key = decide (i = k) := by
  unfold spanHasB; rw [pm_span_ok h hi, hK, pm_has h hF hi]; rfl
theorem pm_sizes {vs : List RowD} (hf : ∀ v ∈ vs, v.fits) (i : Nat) : (loOf vs i).size ≤ maxLen ∧ (hiOf vs i).size ≤ maxLen := by
  have h0 : (⟨#[]⟩ : ByteArray).size ≤ maxLen := by unfold maxLen; exact Nat.zero_le _
  constructor
  · by_cases h : i < vs.length
    · rw [loOf_lt h]; exact hf _ (List.getElem_mem h)
    · rw [show loOf vs i = ⟨#[]⟩ by simp [loOf, h]]; exact h0
  · by_cases h : i + 1 < vs.length
    · rw [hiOf_lt h]; exact hf _ (List.getElem_mem h)
    · rw [hiOf_ge h]; exact h0
theorem merge_len {vs : List RowD} {j : Nat} (hj : j + 1 < vs.length) : (vs.take (j + 1) ++ vs.drop (j + 2)).length + 1 = vs.length := by
  rw [List.length_append, List.length_take, List.length_drop]; omega
theorem merge_lo {vs : List RowD} {j : Nat} (hj : j + 1 < vs.length) : loOf (vs.take (j + 1) ++ vs.drop (j + 2)) j = loOf vs j := by
  rw [loOf_lt (by have := merge_len hj; omega), loOf_lt (by omega), List.getElem_append_left (by rw [List.length_take]; omega), List.getElem_take]
theorem merge_hi {vs : List RowD} {j : Nat} (hj : j + 1 < vs.length) : hiOf (vs.take (j + 1) ++ vs.drop (j + 2)) j = hiOf vs (j + 1) := by
  have hl := merge_len hj
  have ht : (vs.take (j + 1)).length = j + 1 := by rw [List.length_take]; omega
  by_cases h : j + 2 < vs.length
  · rw [hiOf_lt (by omega), hiOf_lt (by omega), List.getElem_append_right (by omega)]
    simp only [ht, List.getElem_drop]
    congr 2
    omega
  · rw [hiOf_ge (by omega), hiOf_ge (by omega)]
end Go.Proofs.Ytodpodgdhiadnaa

/- Comparing two maps of parts: a law's own loop. And draws of a map and a row. -/
namespace Go.Proofs.Ytodpodgdhiadnaa
open Go.RowKit

set_option maxRecDepth 100000 in
set_option maxHeartbeats 2000000 in
theorem caPmap_same (ep : Int) (a b : Option Addr) (vs : List RowD) (ca cb : Nat) (w : World) (ha : RowsIn w a vs) (hb : RowsIn w b vs) (hn : vs.length ≤ 1048576) :
    Calls Try.prog 65 #[.agg #[.int .i64 ep, .slice a vs.length ca], .agg #[.int .i64 ep, .slice b vs.length cb]] w fun e w' => e = .returned (.bool true) ∧ Below w.heap.size w w' := by
  have HA := Lib.hid ha
  have HB := Lib.hid hb
  clear ha hb
  obtain ⟨W0, hW0⟩ : ∃ W0, (w.alloc (.cells #[.int .i64 ep, .slice a vs.length ca] 80)).alloc (.cells #[.int .i64 ep, .slice b vs.length cb] 80) = W0 := ⟨_, rfl⟩
  have B0 : Below w.heap.size w W0 := by rw [← hW0]; exact ((Below.refl _ _).alloc (Nat.le_refl _) _).alloc (by simp) _
  have x0 : W0.cell? ⟨w.heap.size, 0, none⟩ = some (.int .i64 ep) := by rw [← hW0]; simp [go_sem]
  have x1 : W0.cell? ⟨w.heap.size, 1, none⟩ = some (.slice a vs.length ca) := by rw [← hW0]; simp [go_sem]
  have y0 : W0.cell? ⟨w.heap.size + 1, 0, none⟩ = some (.int .i64 ep) := by rw [← hW0]; simp [go_sem]
  have y1 : W0.cell? ⟨w.heap.size + 1, 1, none⟩ = some (.slice b vs.length cb) := by rw [← hW0]; simp [go_sem]
  have z1 : w.heap.size + 1 < W0.heap.size := by rw [← hW0]; simp
  have z0 : w.heap.size < W0.heap.size := by omega
  have HB0 := Lib.hid B0
  clear B0
  go_enter Try.func65, Try.ntmps65
  go_wp2_with fail
  clear hW0
  go_loopw [5] (fun i wr => ∃ (k n : Nat), k ≤ vs.length ∧ i = .int .i64 k ∧ wr = W0.drewN n) (fun i _ => vs.length - (intOf i).toNat)
  case atStart => exact ⟨0, 0, Nat.zero_le _, rfl, rfl⟩
  case round =>
    obtain ⟨k, n, hk, rfl, rfl⟩ := hrel
    by_cases hlt : k < vs.length
    · rcases HA.out.below HB0.out with hnil | ⟨b1, o1, rfl, hb1, hc1⟩
      · rw [hnil] at hlt; simp at hlt
      rcases HB.out.below HB0.out with hnil | ⟨b2, o2, rfl, hb2, hc2⟩
      · rw [hnil] at hlt; simp at hlt
      obtain ⟨c0, c1⟩ := hc1 k hlt
      obtain ⟨d0, d1⟩ := hc2 k hlt
      clear hc1 hc2
      have i1 : (0 : Int) ≤ (k : Int) := by omega
      have i2 : (k : Int) < (vs.length : Int) := by omega
      go_wp2_with fail
      go_quiet (fail)
      go_wp2_with fail
      go_roundw
      case rel => exact ⟨k + 1, _, by omega, by go_num, rfl⟩
      case measure => simp [intOf]; omega
    · go_wp2_with fail
      go_ret
      exact ⟨rfl, below_drewN HB0.out _⟩

def Kp1 (W : World) (n : Nat) (u : World) : Prop := n < u.heap.size ∧ Below W.heap.size W u
theorem keepP {n : Nat} {x y : Value} {W u v : World} (hb : Below u.heap.size u v) (h : u.cell? ⟨n, 0, none⟩ = some x ∧ u.cell? ⟨n, 1, none⟩ = some y ∧ Kp1 W n u) : v.cell? ⟨n, 0, none⟩ = some x ∧ v.cell? ⟨n, 1, none⟩ = some y ∧ Kp1 W n v :=
  ⟨(hb.cell (p := ⟨n, 0, none⟩) h.2.2.1).trans h.1, (hb.cell (p := ⟨n, 1, none⟩) h.2.2.1).trans h.2.1, Nat.lt_of_lt_of_le h.2.2.1 hb.size, h.2.2.2.trans (hb.mono h.2.2.2.size)⟩
theorem Kp1.below {W u v : World} {n : Nat} (h : Kp1 W n u) (hb : Below u.heap.size u v) : Kp1 W n v := ⟨Nat.lt_of_lt_of_le h.1 hb.size, h.2.trans (hb.mono h.2.size)⟩
theorem keepP_b {n : Nat} {x y : Value} {W u : World} (h : u.cell? ⟨n, 0, none⟩ = some x ∧ u.cell? ⟨n, 1, none⟩ = some y ∧ Kp1 W n u) : Below W.heap.size W u := h.2.2.2
/-- Kept whole, so that no walk takes it apart. -/
def OkIs (b : Bool) (ep : Int) (vs : List RowD) : Prop := b = true ↔ PmapOkP ep vs
def FindIs (r : Int) (ep : Int) (vs : List RowD) (key : ByteArray) : Prop := (PmapOkP ep vs ∧ keyOkB key = true → ∃ k : Nat, r = k ∧ FindAt vs key k) ∧ (¬ (PmapOkP ep vs ∧ keyOkB key = true) → r = -1)
theorem FindIs.one {ep : Int} {vs : List RowD} {key : ByteArray} {r s : Int} (h : FindIs r ep vs key) (g : FindIs s ep vs key) : r = s := by
  by_cases hp : PmapOkP ep vs ∧ keyOkB key = true
  · obtain ⟨j, rfl, hj⟩ := h.1 hp
    obtain ⟨k, rfl, hk⟩ := g.1 hp
    rw [hj.unique hk]
  · rw [h.2 hp, g.2 hp]
theorem pmapOk_bool {ep : Int} {vs : List RowD} {b : Bool} (h : OkIs b ep vs) (a : Option Addr) (cap : Nat) (w : World) (hv : RowsIn w a vs) (hf : ∀ v ∈ vs, v.fits) (hlen : vs.length ≤ maxLen) :
    Calls Try.prog 59 #[.agg #[.int .i64 ep, .slice a vs.length cap]] w fun e w' => e = .returned (.bool b) ∧ Below w.heap.size w w' :=
  (pmapOk_any ep a vs cap w hv hf hlen).mono fun e w' ⟨b', he, hk, hb⟩ => ⟨by rw [he, show b' = b from by rw [Bool.eq_iff_iff, hk, show (b = true ↔ PmapOkP ep vs) from h]], hb⟩
theorem specPmapOk_bool {ep : Int} {vs : List RowD} {b : Bool} (h : OkIs b ep vs) (a : Option Addr) (cap : Nat) (w : World) (hv : RowsIn w a vs) (hf : ∀ v ∈ vs, v.fits) (hlen : vs.length ≤ maxLen) :
    Calls Try.prog 60 #[.agg #[.int .i64 ep, .slice a vs.length cap]] w fun e w' => e = .returned (.bool b) ∧ Below w.heap.size w w' :=
  (specPmapOk_any ep a vs cap w hv hf hlen).mono fun e w' ⟨b', he, hk, hb⟩ => ⟨by rw [he, show b' = b from by rw [Bool.eq_iff_iff, hk, show (b = true ↔ PmapOkP ep vs) from h]], hb⟩
theorem pmOk_ex (ep : Int) (vs : List RowD) : ∃ b : Bool, OkIs b ep vs := by
  unfold OkIs
  by_cases h : PmapOkP ep vs
  · exact ⟨true, by simp [h]⟩
  · exact ⟨false, by simp [h]⟩

set_option maxHeartbeats 2000000 in
theorem drawPmapMerge_any (a : Option Addr) (len cap : Nat) (w : World) (h : BytesIn w a len cap) :
    Calls Try.prog 62 #[.slice a len cap] w (SomePmK w) := by
  have H := Lib.hid h
  clear h
  go_enter Try.func62, Try.ntmps62
  go_wp2_with fail
  with_reducible refine (drawPmapSpan_any a len cap _ ?hb).mono ?_
  case hb => exact H.out.alloc _
  rintro e w1 ⟨ep, vs, a', c, k, hk1, hk2, rfl, hD, hlow, hb1⟩
  have ZA := (Zr.made _ _ _ w).below hb1
  have a0 := ZA.c0; have a1 := ZA.c1; have a2 := ZA.f0; have a3 := ZA.f1
  have HD := Lib.hid hD
  have HL := Lib.hid hlow
  have HB := Lib.hid hb1
  clear hD hb1 hlow
  go_wp2_with fail
  refine bodyPost_ret (v := .tuple #[.agg #[.int .i64 ep, .slice a' vs.length c], .int .i64 k]) (by simp [results, Try.results62, go_sem, a0, a1]) rfl ⟨ep, vs, a', c, k, hk1, hk2, rfl, ⟨?_, HD.out.fits, HD.out.pos, HD.out.five, HD.out.cap⟩, ?_, ?_⟩
  · exact (HD.out.inn.setNew _ (fun b o e => by have := HL.out b o e; simp at this; show b ≠ w.heap.size; omega)).setNew _ (fun b o e => by have := HL.out b o e; simp at this; show b ≠ w.heap.size; omega)
  · exact fun b o e => by have := HL.out b o e; simp at this; omega
  · exact ((((Below.refl _ _).alloc (Nat.le_refl _) _).trans (HB.out.mono (by simp))).setCell (p := ⟨w.heap.size, 0, none⟩) (Nat.le_refl _) _).setCell (p := ⟨w.heap.size, 1, none⟩) (Nat.le_refl _) _
end Go.Proofs.Ytodpodgdhiadnaa
