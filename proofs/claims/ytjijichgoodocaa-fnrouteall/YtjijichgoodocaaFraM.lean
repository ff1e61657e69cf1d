/- Drawing any map of parts: the walk. -/
import Derived.Test.YtjijichgoodocaaDrawV
import Derived.Test.YtjijichgoodocaaCut
import Derived.Test.YtjijichgoodocaaPmMgS
import Derived.Test.YtjijichgoodocaaPmSpT
import Derived.Test.YtjijichgoodocaaFkC
import Derived.Test.YtjijichgoodocaaMeetP
import Derived.Test.YtjijichgoodocaaRrI
namespace Go.Proofs.Ytjijichgoodocaa
open Go.RowKit

set_option maxRecDepth 100000 in
set_option maxHeartbeats 4000000 in
theorem l20AnyPmap_any (rb p : Nat) (w : World) (h : RdAt rb p w) (hp : p < 10000) :
    Calls Try.prog 119 #[.pointer (some ⟨rb, 0, none⟩)] w (SomePmA rb (p + 33) w) := by
  have hlt := h.lt
  have H := Lib.hid h
  clear h
  go_enter Try.func119, Try.ntmps119
  go_wp2_with fail
  with_reducible refine (l20Pmap_any rb p _ ?hr (by omega)).mono ?_
  case hr => exact H.out.alloc _
  rintro e w1 ⟨ep, vs, a, c, q, hq, hok, rfl, hin, hfr, hli, hfits, hc1, hc2, hr, ho⟩
  have hne : w.heap.size ≠ rb := Nat.ne_of_gt hlt
  have h0 : 0 < vs.length := hok.pos
  have h5 : vs.length ≤ 5 := by have := (inB_iff _ _ _).1 hok.2.1; omega
  obtain ⟨b, off, rfl, hD⟩ := Dm.mk_ (rb := rb) hin hfr h0 (fun b o e => by obtain ⟨h9, _⟩ := hli b o e; simp at h9; omega)
  have hbw : w.heap.size < b := by obtain ⟨h9, _⟩ := hli b off rfl; simp at h9; omega
  have ZA := (Zr.made _ _ _ w).only ho hne
  have zA := ZA.lt
  have HR := Lib.hid hr
  have HO := Lib.hid (((Only.refl rb w).alloc _).trans ho)
  have HF := Lib.hid hfits
  have HC := Lib.hid (And.intro hc1 hc2)
  have HD := Lib.hid hD
  clear hr ho H hok hin hfr hli hfits hc1 hc2 hD
  go_wp2_with fail
  with_reducible refine (pick_any rb q 12 _ ?hr2 (by omega) (by omega) (by omega)).mono ?_
  case hr2 => exact HR.out.alloc _
  rintro e w2 ⟨n, hn0, hn1, rfl, hr, ho⟩
  have hne1 : w1.heap.size ≠ rb := by omega
  have hlt1 : rb < w1.heap.size := by omega
  have hD2 := (HD.out.go ((Only.refl rb w1).alloc _)).go ho
  have ZB := (ZA.below ((Below.refl _ _).alloc (Nat.le_refl _) _)).only ho hne
  have ZC := (Zr.made _ _ _ w1).only ho hne1
  have a0 := ZB.c0; have a1 := ZB.c1; have a2 := ZB.f0; have a3 := ZB.f1; have a4 := ZB.lt
  have b0 := ZC.c0; have b1 := ZC.c1; have b2 := ZC.f0; have b3 := ZC.f1; have b4 := ZC.lt
  have hlt2 : rb < w2.heap.size := by omega
  have hb1 : b < w1.heap.size := HD.out.lt
  have hbn : b ≠ w1.heap.size := by omega
  have HR2 := Lib.hid hr
  have HO2 := Lib.hid ((HO.out.alloc _).trans ho)
  have HD2 := Lib.hid hD2
  clear hr ho HR HO hD2 HD
  have hnb : ∀ p : Addr, p.block = w1.heap.size ∨ p.block = w.heap.size → ∀ b' o, some (⟨b, off, none⟩ : Addr) = some ⟨b', o, none⟩ → b' ≠ p.block := fun p hp b' o e => by cases e; omega
  have HNB := Lib.hid hnb
  clear hnb
  by_cases hz : n = 0
  · subst hz
    go_wp2_with fail
    with_reducible refine (oneNew_any rb (q + 1) 3 w2 _ _ rfl HR2.out (by omega) ?hs3 ?hL3 (by omega) (by omega)).mono ?_
    case hs3 => rfl
    case hL3 => rfl
    rintro e w3 ⟨s, hs, rfl, hr, ho⟩
    have ZD := ZB.only ho hne
    have ZE := ZC.only ho hne1
    have HD3 := Lib.hid (HD2.out.go ho)
    clear a0 a1 a2 a3 a4 b0 b1 b2 b3 b4
    have a0 := ZD.c0; have a1 := ZD.c1; have a2 := ZD.f0; have a3 := ZD.f1; have a4 := ZD.lt
    have b0 := ZE.c0; have b1 := ZE.c1; have b2 := ZE.f0; have b3 := ZE.f1; have b4 := ZE.lt
    have HR3 := Lib.hid hr
    have HO3 := Lib.hid (HO2.out.trans ho)
    clear hr ho HR2 HO2
    go_wp2_with fail
    refine bodyPost_ret (v := .agg #[.int .i64 s, .slice (some ⟨b, off, none⟩) vs.length c]) (by simp [results, Try.results119, go_sem, a0, a1]) rfl (SomePmA.mk_ (q := q + 1 + 1) (by omega) h0 h5 ?_ HF.out HC.out.1 HC.out.2 (Nat.le_of_lt hbw) ?_ ?_ rfl)
    · exact ((HD3.out.rows.setNew _ (HNB.out ⟨w1.heap.size, 0, none⟩ (.inl rfl))).setNew _ (HNB.out ⟨w.heap.size, 0, none⟩ (.inr rfl))).setNew _ (HNB.out ⟨w.heap.size, 1, none⟩ (.inr rfl))
    · exact ((HR3.out.setNew (a := ⟨w1.heap.size, 0, none⟩) hlt1 _).setNew (a := ⟨w.heap.size, 0, none⟩) hlt _).setNew (a := ⟨w.heap.size, 1, none⟩) hlt _
    · exact ((HO3.out.setNew (p := ⟨w1.heap.size, 0, none⟩) (Nat.le_of_lt zA) _).setNew (p := ⟨w.heap.size, 0, none⟩) (Nat.le_refl _) _).setNew (p := ⟨w.heap.size, 1, none⟩) (Nat.le_refl _) _
  have hz0 : (n == 0) = false := by simpa using hz
  by_cases hy1 : n = 1
  · subst hy1
    go_wp2_with fail
    have hsA : intsOk (#[.int .i64 (-1), .int .i64 3] : Array Value).toList = true := by rfl
    have HSA := Lib.hid hsA
    clear hsA
    have q2 : w2.cell? ⟨w1.heap.size, 1, none⟩ = some (.slice (some ⟨b, off, none⟩) vs.length c) ∧ w1.heap.size < w2.heap.size := ⟨b1, b4⟩
    have qq := q2
    go_region_held3 (fun u => u.cell? ⟨w1.heap.size, 1, none⟩ = some (.slice (some ⟨b, off, none⟩) vs.length c) ∧ w1.heap.size < u.heap.size)
      (first | with_reducible exact qq | with_reducible exact keepC_drew qq | with_reducible exact keepC_alloc qq | with_reducible exact keepC_drew (keepC_alloc qq) | with_reducible exact keepC_alloc (keepC_drew qq) | with_reducible exact keepC_set hbn qq)
      (first
      | (go_at_call 75; refine (pick_any rb (q + 1) (vs.length : Int) _ (by first | with_reducible exact HR2.out.drew | with_reducible exact (HR2.out.alloc _).drew | with_reducible exact HR2.out.drew.alloc _) (by omega) (by omega) (by omega)).mono ?_; rintro e w3 ⟨n3, hn30, hn31, rfl, hr3, ho3⟩; obtain ⟨k, rfl⟩ := Int.eq_ofNat_of_zero_le hn30; have hk : k < vs.length := (by omega); have hom : Only rb w2 w3 := (by first | with_reducible exact ((Only.refl rb w2).drew).trans ho3 | with_reducible exact (((Only.refl rb w2).alloc _).drew).trans ho3 | with_reducible exact (((Only.refl rb w2).drew).alloc _).trans ho3); have qq := keepC_only hom hne1 q2; have HR3 := Lib.hid hr3; clear hr3)
      | (go_at_call 73; (first | (with_reducible refine (oneNew_any rb (q + 1 + 1) 2 w3 _ #[.int .i64 (-1), .int .i64 3] rfl HR3.out (by omega) HSA.out rfl (by omega) (by omega)).mono ?_) | (with_reducible refine (oneOld_any rb (q + 1 + 1) 2 _ w3 _ #[.int .i64 (-1), .int .i64 3] rfl (((Only.refl rb _).drew).trans ho3) hlt2 HR3.out (by omega) HSA.out rfl (by omega) (by omega)).mono ?_) | (with_reducible refine (oneOld_any rb (q + 1 + 1) 2 _ w3 _ #[.int .i64 (-1), .int .i64 3] rfl ho3 hlt2 HR3.out (by omega) HSA.out rfl (by omega) (by omega)).mono ?_)); rintro e w4 ⟨s, hs, rfl, hr4, ho4⟩; have hoo : Only rb w2 w4 := hom.trans ho4; have y0 := (ZB.only hoo hne).c0; have y1 := (ZB.only hoo hne).c1; have y2 := (ZB.only hoo hne).f0; have y3 := (ZB.only hoo hne).f1; have y4 := (ZB.only hoo hne).lt; have qq := keepC_only hoo hne1 q2; have x0 := (ZC.only hoo hne1).c0; have x1 := (ZC.only hoo hne1).c1; have x4 := (ZC.only hoo hne1).lt; have d0 := ((HD2.out.go hoo).cells k hk).2; have d1 := ((HD2.out.go hoo).free k hk).2; have d2 := (HD2.out.go hoo).lt))
    all_goals
      have HR4 := Lib.hid hr4
      have HO4 := Lib.hid (HO2.out.trans hoo)
      have HD4 := Lib.hid (HD2.out.go hoo)
      clear hr4 hoo
      go_wp2_with fail
      refine bodyPost_ret (v := .agg #[.int .i64 ep, .slice (some ⟨b, off, none⟩) vs.length c]) (by simp [results, Try.results119, go_sem, y0, y1]) rfl (SomePmA.mk_ (vs := vs.set k ⟨vs[k].f0, s⟩) (q := q + 1 + 1 + 1) (by omega) (by rw [List.length_set]; exact h0) (by rw [List.length_set]; exact h5) ?_ (fits_set HF.out (show (vs[k]).f0.size ≤ maxLen from HF.out vs[k] (List.getElem_mem hk))) (by rw [List.length_set]; exact HC.out.1) HC.out.2 (Nat.le_of_lt hbw) ?_ ?_ (List.length_set ..))
      · exact (((HD4.out.set1 hk s).setNew _ (HNB.out ⟨w.heap.size, 0, none⟩ (.inr rfl))).setNew _ (HNB.out ⟨w.heap.size, 1, none⟩ (.inr rfl)))
      · exact ((HR4.out.setNew (a := ⟨b, off + k * 2 + 1, none⟩) (by show rb < b; omega) _).setNew (a := ⟨w.heap.size, 0, none⟩) hlt _).setNew (a := ⟨w.heap.size, 1, none⟩) hlt _
      · exact ((HO4.out.setNew (p := ⟨b, off + k * 2 + 1, none⟩) (Nat.le_of_lt hbw) _).setNew (p := ⟨w.heap.size, 0, none⟩) (Nat.le_refl _) _).setNew (p := ⟨w.heap.size, 1, none⟩) (Nat.le_refl _) _
  have hz1 : (n == 1) = false := by simpa using hy1
  by_cases hy2 : n = 2
  · subst hy2
    go_wp2_with fail
    have hsA : strsOk (#[.string ⟨#[]⟩, .string ⟨#[65]⟩, .string ⟨#[122, 122]⟩] : Array Value).toList = true := by rfl
    have HSA := Lib.hid hsA
    clear hsA
    have q2 : w2.cell? ⟨w1.heap.size, 1, none⟩ = some (.slice (some ⟨b, off, none⟩) vs.length c) ∧ w1.heap.size < w2.heap.size := ⟨b1, b4⟩
    have qq := q2
    go_region_held3 (fun u => u.cell? ⟨w1.heap.size, 1, none⟩ = some (.slice (some ⟨b, off, none⟩) vs.length c) ∧ w1.heap.size < u.heap.size)
      (first | with_reducible exact qq | with_reducible exact keepC_drew qq | with_reducible exact keepC_alloc qq | with_reducible exact keepC_drew (keepC_alloc qq) | with_reducible exact keepC_alloc (keepC_drew qq) | with_reducible exact keepC_set hbn qq)
      (first
      | (go_at_call 75; refine (pick_any rb (q + 1) (vs.length : Int) _ (by first | with_reducible exact HR2.out.drew | with_reducible exact (HR2.out.alloc _).drew | with_reducible exact HR2.out.drew.alloc _) (by omega) (by omega) (by omega)).mono ?_; rintro e w3 ⟨n3, hn30, hn31, rfl, hr3, ho3⟩; obtain ⟨k, rfl⟩ := Int.eq_ofNat_of_zero_le hn30; have hk : k < vs.length := (by omega); have hom : Only rb w2 w3 := (by first | with_reducible exact ((Only.refl rb w2).drew).trans ho3 | with_reducible exact (((Only.refl rb w2).alloc _).drew).trans ho3 | with_reducible exact (((Only.refl rb w2).drew).alloc _).trans ho3); have qq := keepC_only hom hne1 q2; have HR3 := Lib.hid hr3; clear hr3)
      | (go_at_call 132; (first | (with_reducible refine (ofNew_any rb (q + 1 + 1) 3 w3 _ #[.string ⟨#[]⟩, .string ⟨#[65]⟩, .string ⟨#[122, 122]⟩] rfl HR3.out (by omega) HSA.out rfl (by omega) (by omega)).mono ?_) | (with_reducible refine (ofOld_any rb (q + 1 + 1) 3 _ w3 _ #[.string ⟨#[]⟩, .string ⟨#[65]⟩, .string ⟨#[122, 122]⟩] rfl (((Only.refl rb _).drew).trans ho3) hlt2 HR3.out (by omega) HSA.out rfl (by omega) (by omega)).mono ?_) | (with_reducible refine (ofOld_any rb (q + 1 + 1) 3 _ w3 _ #[.string ⟨#[]⟩, .string ⟨#[65]⟩, .string ⟨#[122, 122]⟩] rfl ho3 hlt2 HR3.out (by omega) HSA.out rfl (by omega) (by omega)).mono ?_)); rintro e w4 ⟨s, hs, rfl, hr4, ho4⟩; have hoo : Only rb w2 w4 := hom.trans ho4; have y0 := (ZB.only hoo hne).c0; have y1 := (ZB.only hoo hne).c1; have y2 := (ZB.only hoo hne).f0; have y3 := (ZB.only hoo hne).f1; have y4 := (ZB.only hoo hne).lt; have qq := keepC_only hoo hne1 q2; have x0 := (ZC.only hoo hne1).c0; have x1 := (ZC.only hoo hne1).c1; have x4 := (ZC.only hoo hne1).lt; have d0 := ((HD2.out.go hoo).cells k hk).1; have d1 := ((HD2.out.go hoo).free k hk).1; have d2 := (HD2.out.go hoo).lt))
    all_goals
      have HR4 := Lib.hid hr4
      have HO4 := Lib.hid (HO2.out.trans hoo)
      have HD4 := Lib.hid (HD2.out.go hoo)
      clear hr4 hoo
      go_wp2_with fail
      refine bodyPost_ret (v := .agg #[.int .i64 ep, .slice (some ⟨b, off, none⟩) vs.length c]) (by simp [results, Try.results119, go_sem, y0, y1]) rfl (SomePmA.mk_ (vs := vs.set k ⟨s, vs[k].f1⟩) (q := q + 1 + 1 + 1) (by omega) (by rw [List.length_set]; exact h0) (by rw [List.length_set]; exact h5) ?_ (fits_set HF.out hs) (by rw [List.length_set]; exact HC.out.1) HC.out.2 (Nat.le_of_lt hbw) ?_ ?_ (List.length_set ..))
      · exact (((HD4.out.set0 hk s).setNew _ (HNB.out ⟨w.heap.size, 0, none⟩ (.inr rfl))).setNew _ (HNB.out ⟨w.heap.size, 1, none⟩ (.inr rfl)))
      · exact ((HR4.out.setNew (a := ⟨b, off + k * 2, none⟩) (by show rb < b; omega) _).setNew (a := ⟨w.heap.size, 0, none⟩) hlt _).setNew (a := ⟨w.heap.size, 1, none⟩) hlt _
      · exact ((HO4.out.setNew (p := ⟨b, off + k * 2, none⟩) (Nat.le_of_lt hbw) _).setNew (p := ⟨w.heap.size, 0, none⟩) (Nat.le_refl _) _).setNew (p := ⟨w.heap.size, 1, none⟩) (Nat.le_refl _) _
  have hz2 : (n == 2) = false := by simpa using hy2
  go_wp2_with fail
  refine bodyPost_ret (v := .agg #[.int .i64 ep, .slice (some ⟨b, off, none⟩) vs.length c]) (by simp [results, Try.results119, go_sem, a0, a1]) rfl (SomePmA.mk_ (q := q + 1) (by omega) h0 h5 ?_ HF.out HC.out.1 HC.out.2 (Nat.le_of_lt hbw) ?_ ?_ rfl)
  · exact (HD2.out.rows.setNew _ (HNB.out ⟨w.heap.size, 0, none⟩ (.inr rfl))).setNew _ (HNB.out ⟨w.heap.size, 1, none⟩ (.inr rfl))
  · exact (HR2.out.setNew (a := ⟨w.heap.size, 0, none⟩) hlt _).setNew (a := ⟨w.heap.size, 1, none⟩) hlt _
  · exact (HO2.out.setNew (p := ⟨w.heap.size, 0, none⟩) (Nat.le_refl _) _).setNew (p := ⟨w.heap.size, 1, none⟩) (Nat.le_refl _) _
end Go.Proofs.Ytjijichgoodocaa

/- Drawing a map of parts, and a row or a key beside it. -/
namespace Go.Proofs.Ytjijichgoodocaa
open Go.RowKit

/-- A map of parts that was drawn: whatever it holds, it is small. -/
structure PmDrawn (w : World) (a : Option Addr) (vs : List RowD) (c : Nat) : Prop where
  inn : RowsIn w a vs
  fits : ∀ v ∈ vs, v.fits
  pos : 0 < vs.length
  five : vs.length ≤ 5
  cap : vs.length ≤ c ∧ c ≤ maxLen
theorem PmDrawn.below {w u : World} {a : Option Addr} {vs : List RowD} {c : Nat} (h : PmDrawn w a vs c) (hb : Below w.heap.size w u) : PmDrawn u a vs c := ⟨h.inn.below hb, h.fits, h.pos, h.five, h.cap⟩
def SomePmK (w : World) (e : Ending) (w' : World) : Prop := ∃ (ep : Int) (vs : List RowD) (a : Option Addr) (c : Nat) (k : Int), -10 ≤ k ∧ k ≤ 10 ∧ e = .returned (.tuple #[.agg #[.int .i64 ep, .slice a vs.length c], .int .i64 k]) ∧ PmDrawn w' a vs c ∧ (∀ b o, a = some ⟨b, o, none⟩ → w.heap.size ≤ b) ∧ Below w.heap.size w w'
def SomePmKey (w : World) (e : Ending) (w' : World) : Prop := ∃ (ep : Int) (vs : List RowD) (a : Option Addr) (c : Nat) (key : ByteArray), key.size ≤ maxLen ∧ e = .returned (.tuple #[.agg #[.int .i64 ep, .slice a vs.length c], .string key]) ∧ PmDrawn w' a vs c ∧ (∀ b o, a = some ⟨b, o, none⟩ → w.heap.size ≤ b) ∧ Below w.heap.size w w'
end Go.Proofs.Ytjijichgoodocaa

/- Contracts of SpanJoin, the program's and the model's: each returns just what the plain conditions say, and turns nothing that was in memory. -/
namespace Go.Proofs.Ytjijichgoodocaa
open Go.RowKit

def joinOkB (a1 a2 b1 b2 : ByteArray) : Bool := spanOkB a1 a2 && spanOkB b1 b2 && !(a2.toList.isEmpty) && (a2.toList == b1.toList)
end Go.Proofs.Ytjijichgoodocaa

/- Plain facts on maps of parts that are ok: the spans of their rows. -/
namespace Go.Proofs.Ytjijichgoodocaa
open Go.RowKit

theorem okB_nil : okB keyB 6 ⟨#[]⟩ = true := by decide +kernel
theorem pm_lo_ok {ep : Int} {vs : List RowD} (h : PmapOkP ep vs) {j : Nat} (hj : j < vs.length) : okB keyB 6 (loOf vs j) = true := by
  rw [loOf_lt hj]; exact (pmapOk_rows h _ (List.getElem_mem hj)).1
theorem pm_hi_ok {ep : Int} {vs : List RowD} (h : PmapOkP ep vs) (j : Nat) : okB keyB 6 (hiOf vs j) = true := by
  by_cases hj : j + 1 < vs.length
  · rw [hiOf_lt hj]; exact (pmapOk_rows h _ (List.getElem_mem hj)).1
  · rw [hiOf_ge hj]; exact okB_nil
theorem pm_span_ok {ep : Int} {vs : List RowD} (h : PmapOkP ep vs) {j : Nat} (hj : j < vs.length) : spanOkB (loOf vs j) (hiOf vs j) = true := by
  unfold spanOkB
  rw [pm_lo_ok h hj, pm_hi_ok h j]
  by_cases h1 : j + 1 < vs.length
  · rw [hiOf_lt h1, loOf_lt hj, (less_iff _ _).2 (pmap_next h h1)]; simp
  · rw [hiOf_ge h1, nil_toList]; rfl
theorem pm_hi_ne {ep : Int} {vs : List RowD} (h : PmapOkP ep vs) {j : Nat} (hj : j + 1 < vs.length) : (hiOf vs j).toList.isEmpty = false := by
  rw [hiOf_lt hj]
  have h1 := pmap_next h hj
  cases he : vs[j + 1].f0.toList with
  | nil => rw [he] at h1; exact absurd h1 (List.not_lt_nil _)
  | cons a t => rfl
theorem pm_join {ep : Int} {vs : List RowD} (h : PmapOkP ep vs) {j : Nat} (hj : j + 1 < vs.length) : joinOkB (loOf vs j) (hiOf vs j) (loOf vs (j + 1)) (hiOf vs (j + 1)) = true := by
  unfold joinOkB
  rw [pm_span_ok h (by omega), pm_span_ok h hj, pm_hi_ne h hj, hiOf_lt hj, loOf_lt hj]; simp
theorem pm_first {ep : Int} {vs : List RowD} (h : PmapOkP ep vs) : (loOf vs 0).toList = [] := by
  rw [loOf_lt h.pos]; exact pmap_first h h.pos
theorem pm_has {ep : Int} {vs : List RowD} (h : PmapOkP ep vs) {key : ByteArray} {k i : Nat} (hF : FindAt vs key k) (hi : i < vs.length) : hasB (loOf vs i) (hiOf vs i) key = decide (i = k) := by
  have hk := hF.1.1
  have lo : ∀ n, n < vs.length → n ≤ k → Op.bytesLess key.toList (loOf vs n).toList = false := fun n hn hnk => by
    rcases Nat.eq_zero_or_pos n with rfl | hp
    · rw [pm_first h]; cases key.toList <;> rfl
    · have := hF.1.2 n hp hnk; rw [leB_not] at this; simpa using this
  rcases Nat.lt_trichotomy i k with hlt | rfl | hgt
  · rw [decide_eq_false (by omega)]
    unfold hasB
    have e := pm_hi_ne h (j := i) (by omega)
    have e2 := lo (i + 1) (by omega) (by omega)
    rw [loOf_lt (by omega)] at e2
    rw [e, hiOf_lt (by omega), e2]; simp
  · rw [decide_eq_true rfl]
    unfold hasB
    rw [lo i hk (Nat.le_refl _)]
    by_cases h1 : i + 1 < vs.length
    · have := hF.2 h1
      rw [loOf_lt h1, leB_not] at this
      rw [hiOf_lt h1]; simp at this; simp [this]
    · rw [hiOf_ge h1, nil_toList]; rfl
  · rw [decide_eq_false (by omega)]
    have h1 : k + 1 < vs.length := by omega
    have h2 := hF.2 h1
    rw [loOf_lt h1, leB_no] at h2
    have h3 : key.toList < vs[i].f0.toList := by
      by_cases e : i = k + 1
      · subst e; exact h2
      · exact List.lt_trans h2 (pmap_mono h (i := k + 1) (j := i) h1 hi (by omega))
    unfold hasB
    rw [loOf_lt hi, (less_iff _ _).2 h3]; rfl
theorem pm_spanHas {ep : Int} {vs : List RowD} (h : PmapOkP ep vs) {key : ByteArray} {k i : Nat} (hK : keyOkB key = true) (hF : FindAt vs key k) (hi : i < vs.length) : spanHasB (loOf vs i) (hiOf vs i) key = decide (i = k) := by
  unfold spanHasB; rw [pm_span_ok h hi, hK, pm_has h hF hi]; rfl
theorem pm_sizes {vs : List RowD} (hf : ∀ v ∈ vs, v.fits) (i : Nat) : (loOf vs i).size ≤ maxLen ∧ (hiOf vs i).size ≤ maxLen := by
  have h0 : (⟨#[]⟩ : ByteArray).size ≤ maxLen := by unfold maxLen; exact Nat.zero_le _
  constructor
  · by_cases h : i < vs.length
    · rw [loOf_lt h]; exact hf _ (List.getElem_mem h)
    · rw [show loOf vs i = ⟨#[]⟩ by simp [loOf, h]]; exact h0
  · by_cases h : i + 1 < vs.length
    · rw [hiOf_lt h]; exact hf _ (List.getElem_mem h)
    · rw [hiOf_ge h]; exact h0
theorem merge_len {vs : List RowD} {j : Nat} (hj : j + 1 < vs.length) : (vs.take (j + 1) ++ vs.drop (j + 2)).length + 1 = vs.length := by
  rw [List.length_append, List.length_take, List.length_drop]; omega
theorem merge_lo {vs : List RowD} {j : Nat} (hj : j + 1 < vs.length) : loOf (vs.take (j + 1) ++ vs.drop (j + 2)) j = loOf vs j := by
  rw [loOf_lt (by have := merge_len hj; omega), loOf_lt (by omega), List.getElem_append_left (by rw [List.length_take]; omega), List.getElem_take]
theorem merge_hi {vs : List RowD} {j : Nat} (hj : j + 1 < vs.length) : hiOf (vs.take (j + 1) ++ vs.drop (j + 2)) j = hiOf vs (j + 1) := by
  have hl := merge_len hj
  have ht : (vs.take (j + 1)).length = j + 1 := by rw [List.length_take]; omega
  by_cases h : j + 2 < vs.length
  · rw [hiOf_lt (by omega), hiOf_lt (by omega), List.getElem_append_right (by omega)]
    simp only [ht, List.getElem_drop]
    congr 2
    omega
  · rw [hiOf_ge (by omega), hiOf_ge (by omega)]
end Go.Proofs.Ytjijichgoodocaa

/- All rows are known, and right: plain lists; a map of parts drawn; two lists compared. -/
namespace Go.Proofs.Ytjijichgoodocaa
open Go.RowKit

theorem kRows_get {ep : Int} {vs : List RowD} {n i : Nat} (h : i < (kRows ep vs n).length) : (kRows ep vs n)[i] = kRow ep vs i := by simp [kRows]
theorem kRow_ok {ep : Int} {vs : List RowD} (h : PmapOkP ep vs) {i : Nat} (hi : i < vs.length) : knownOkB (kRow ep vs i) = true := by
  unfold knownOkB kRow
  simp only
  rw [pm_span_ok h hi, nodeOf_lt hi, (pmapOk_rows h _ (List.getElem_mem hi)).2, h.2.2]
  rfl
theorem kRows_ok {ep : Int} {vs : List RowD} (h : PmapOkP ep vs) : RouteOkP (kRows ep vs vs.length) := by
  have h5 := (inB_iff _ _ _).1 h.2.1
  refine ⟨⟨fun i hi hk => ?_, fun i hi hk j hj e => ?_⟩, by rw [kRows_len]; omega⟩
  · rw [kRows_get]; rw [kRows_len] at hi; exact kRow_ok h hi
  · subst e
    rw [kRows_get, kRows_get]
    rw [kRows_len] at hi
    unfold touchB kRow
    simp only
    rw [pm_hi_ne h hi, hiOf_lt hi, loOf_lt hi, less_irrefl]
    rfl
theorem kRows_fits {ep : Int} {vs : List RowD} (hf : ∀ v ∈ vs, v.fits) (n : Nat) : ∀ u ∈ kRows ep vs n, u.fits := fun u hu => by
  unfold kRows at hu
  obtain ⟨i, _, rfl⟩ := List.mem_map.1 hu
  exact pm_sizes hf i
theorem meet_has {a1 a2 b1 b2 : ByteArray} (h : meetB a1 a2 b1 b2 = true) : hasB a1 a2 (lowM a1 b1) = true ∧ hasB b1 b2 (lowM a1 b1) = true := by
  unfold meetB at h
  rw [Bool.and_eq_true, Bool.and_eq_true] at h
  obtain ⟨⟨_, _⟩, h3⟩ := h
  unfold spanOkB at h3
  rw [Bool.and_eq_true, Bool.or_eq_true, less_iff, List.isEmpty_iff] at h3
  obtain ⟨_, h4⟩ := h3
  rw [hasB_iff, hasB_iff]
  unfold lowM highM at *
  simp only [less_iff, List.isEmpty_iff] at h4 ⊢
  grind
theorem rows_apart {ep : Int} {vs : List RowD} (h : PmapOkP ep vs) {i j : Nat} (hi : i < vs.length) (hj : j < vs.length) (hm : meetB (loOf vs i) (hiOf vs i) (loOf vs j) (hiOf vs j) = true) : i = j := by
  obtain ⟨h1, h2⟩ := meet_has hm
  obtain ⟨k, hk⟩ := findAt_ex h (lowM (loOf vs i) (loOf vs j))
  rw [pm_has h hk hi] at h1
  rw [pm_has h hk hj] at h2
  have e1 : i = k := of_decide_eq_true h1
  have e2 : j = k := of_decide_eq_true h2
  omega
theorem kRows_right {ep : Int} {vs : List RowD} (h : PmapOkP ep vs) : RightP (kRows ep vs vs.length) ep vs := by
  refine ⟨kRows_ok h, h, fun i hi j hj => ?_⟩
  intro hi' hm
  rw [kRows_get] at hm ⊢
  rw [kRows_len] at hi
  obtain rfl := rows_apart h hi hj hm
  rfl
/-- What is found of a key among all rows. -/
theorem kRows_find {ep : Int} {vs : List RowD} (h : PmapOkP ep vs) {key : ByteArray} (hk : keyOkB key = true) {k : Nat} (hF : FindAt vs key k) {r : KnownD} {b : Bool} (hr : RfRel (kRows ep vs vs.length) key r b) : b = true ∧ r = kRow ep vs k := by
  have hkl := hF.1.1
  have hf : findK (kRows ep vs vs.length) key = some (kRow ep vs k) := by
    have := find_some (vs := kRows ep vs vs.length) (key := key) (k := k) (fun i hi hik => by
      rw [kRows_get]; rw [kRows_len] at hi
      show hasB (loOf vs i) (hiOf vs i) key = false
      rw [pm_has h hF hi]; exact decide_eq_false (by omega)) (by rw [kRows_len]; exact hkl) (by
      rw [kRows_get]
      show hasB (loOf vs k) (hiOf vs k) key = true
      rw [pm_has h hF hkl]; exact decide_eq_true rfl)
    rw [kRows_get] at this
    exact this
  rcases hr with ⟨_, _, ⟨h3, h4⟩ | ⟨h3, _, _⟩⟩ | ⟨h1, _, _⟩
  · rw [hf] at h3; exact ⟨h4, (Option.some.inj h3).symm⟩
  · rw [hf] at h3; cases h3
  · exact absurd ⟨kRows_ok h, hk⟩ h1
theorem rf_nokey {us : List KnownD} {key : ByteArray} {r : KnownD} {b : Bool} (hk : keyOkB key = false) (hr : RfRel us key r b) : b = false := by
  rcases hr with ⟨_, h2, _⟩ | ⟨_, _, h4⟩
  · rw [hk] at h2; cases h2
  · exact h4

set_option maxRecDepth 100000 in
set_option maxHeartbeats 2000000 in
theorem caKnown_same (a b : Option Addr) (vs : List KnownD) (ca cb : Nat) (w : World) (ha : KnownsIn w a vs) (hb : KnownsIn w b vs) (hn : vs.length ≤ 1000) :
    Calls Try.prog 56 #[.slice a vs.length ca, .slice b vs.length cb] w fun e w' => e = .returned (.bool true) ∧ Below w.heap.size w w' := by
  have HA := Lib.hid ha
  have HB := Lib.hid hb
  clear ha hb
  go_enter Try.func56, Try.ntmps56
  go_wp2_with fail
  go_loopw [5] (fun i wr => ∃ (k n : Nat), k ≤ vs.length ∧ i = .int .i64 k ∧ wr = w.drewN n) (fun i _ => vs.length - (intOf i).toNat)
  case atStart => exact ⟨0, 0, Nat.zero_le _, rfl, rfl⟩
  case round =>
    obtain ⟨k, n, hk, rfl, rfl⟩ := hrel
    by_cases hlt : k < vs.length
    · rcases HA.out with hnil | ⟨b1, o1, rfl, hb1, hc1⟩
      · rw [hnil] at hlt; simp at hlt
      rcases HB.out with hnil | ⟨b2, o2, rfl, hb2, hc2⟩
      · rw [hnil] at hlt; simp at hlt
      obtain ⟨c0, c1, c2, c3⟩ := hc1 k hlt
      obtain ⟨d0, d1, d2, d3⟩ := hc2 k hlt
      clear hc1 hc2
      have i1 : (0 : Int) ≤ (k : Int) := by omega
      have i2 : (k : Int) < (vs.length : Int) := by omega
      go_wp2_with fail
      go_quiet (fail)
      go_wp2_with fail
      go_roundw
      case rel => exact ⟨k + 1, _, by omega, by go_num, rfl⟩
      case measure => simp [intOf]; omega
    · go_wp2_with fail
      go_ret
      exact ⟨rfl, below_drewN (Below.refl _ _) _⟩

def SomePmM (w : World) (e : Ending) (w' : World) : Prop := ∃ (ep : Int) (vs : List RowD) (a : Option Addr) (c : Nat), e = .returned (.agg #[.int .i64 ep, .slice a vs.length c]) ∧ PmDrawn w' a vs c ∧ Below w.heap.size w w'

set_option maxRecDepth 100000 in
set_option maxHeartbeats 2000000 in
theorem drawRouteAll_any (a : Option Addr) (len cap : Nat) (w : World) (h : BytesIn w a len cap) :
    Calls Try.prog 54 #[.slice a len cap] w (SomePmM w) := by
  have H := Lib.hid h
  clear h
  go_enter Try.func54, Try.ntmps54
  go_wp2_with fail
  with_reducible refine (l20Open_any a len cap (w.heap.size + 1) _ ?hg ?hb).mono ?_
  case hg => simp
  case hb => exact H.out.alloc _
  rintro e w1 ⟨rfl, hr, hb1⟩
  have hne : w.heap.size ≠ w.heap.size + 1 := by omega
  have ZA := (Zr.made _ _ _ w).below hb1
  have E1 := Lib.hid (((Below.refl w.heap.size w).alloc (Nat.le_refl _) _).trans (hb1.mono (by simp)))
  have zA := ZA.lt
  have HR := Lib.hid hr
  clear hr hb1 H
  go_wp2_with fail
  with_reducible refine (l20AnyPmap_any (w.heap.size + 1) 0 w1 HR.out (by omega)).mono ?_
  rintro e w2 ⟨ep, vs, a', c, q, hq, h0, h5, rfl, hin, hf, hc1, hc2, hlb, hr, ho⟩
  have ZB := ZA.only ho hne
  have E2 := Lib.hid (E1.out.trans (ho.below (B := w.heap.size) (by omega) (by omega)))
  have HI := Lib.hid hin
  have HF := Lib.hid hf
  have hab : ∀ b o, a' = some ⟨b, o, none⟩ → w.heap.size + 1 < b := fun b o e => by have := hlb b o e; have := HR.out.lt; omega
  have HAB := Lib.hid hab
  have a0 := ZB.c0; have a1 := ZB.c1; have a2 := ZB.f0; have a3 := ZB.f1; have a4 := ZB.lt
  clear hr ho HR E1 ZA hin hf hlb hab
  go_wp2_with fail
  refine bodyPost_ret (v := .agg #[.int .i64 ep, .slice a' vs.length c]) (by simp [results, Try.results54, go_sem, a0, a1]) rfl ⟨ep, vs, a', c, rfl, ⟨?_, HF.out, h0, h5, hc1, hc2⟩, ?_⟩
  · exact (HI.out.setNew _ (fun b o e => by have := HAB.out b o e; show b ≠ w.heap.size; omega)).setNew _ (fun b o e => by have := HAB.out b o e; show b ≠ w.heap.size; omega)
  · exact (E2.out.setCell (p := ⟨w.heap.size, 0, none⟩) (Nat.le_refl _) _).setCell (p := ⟨w.heap.size, 1, none⟩) (Nat.le_refl _) _
end Go.Proofs.Ytjijichgoodocaa
