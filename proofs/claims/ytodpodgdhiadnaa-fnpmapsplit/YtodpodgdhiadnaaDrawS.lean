/- Drawing any map of parts: the walk. -/
import Derived.Test.YtodpodgdhiadnaaDrawR
import Derived.Test.YtodpodgdhiadnaaDrawE
namespace Go.Proofs.Ytodpodgdhiadnaa
open Go.RowKit

set_option maxRecDepth 100000 in
set_option maxHeartbeats 4000000 in
theorem l20AnyPmap_any (rb p : Nat) (w : World) (h : RdAt rb p w) (hp : p < 10000) :
    Calls Try.prog 132 #[.pointer (some ⟨rb, 0, none⟩)] w (SomePmA rb (p + 33) w) := by
  have hlt := h.lt
  have H := Lib.hid h
  clear h
  go_enter Try.func132, Try.ntmps132
  go_wp2_with fail
  with_reducible refine (l20Pmap_any rb p _ ?hr (by omega)).mono ?_
  case hr => exact H.out.alloc _
  rintro e w1 ⟨ep, vs, a, c, q, hq, hok, rfl, hin, hfr, hli, hfits, hc1, hc2, hr, ho⟩
  have hne : w.heap.size ≠ rb := Nat.ne_of_gt hlt
  have h0 : 0 < vs.length := hok.pos
  have h5 : vs.length ≤ 5 := by have := (inB_iff _ _ _).1 hok.2.1; omega
  obtain ⟨b, off, rfl, hD⟩ := Dm.mk_ (rb := rb) hin hfr h0 (fun b o e => by obtain ⟨h9, _⟩ := hli b o e; simp at h9; omega)
  have hbw : w.heap.size < b := by obtain ⟨h9, _⟩ := hli b off rfl; simp at h9; omega
  have ZA := (Zr.made _ _ _ w).only ho hne
  have zA := ZA.lt
  have HR := Lib.hid hr
  have HO := Lib.hid (((Only.refl rb w).alloc _).trans ho)
  have HF := Lib.hid hfits
  have HC := Lib.hid (And.intro hc1 hc2)
  have HD := Lib.hid hD
  clear hr ho H hok hin hfr hli hfits hc1 hc2 hD
  go_wp2_with fail
  with_reducible refine (pick_any rb q 12 _ ?hr2 (by omega) (by omega) (by omega)).mono ?_
  case hr2 => exact HR.out.alloc _
  rintro e w2 ⟨n, hn0, hn1, rfl, hr, ho⟩
  have hne1 : w1.heap.size ≠ rb := by omega
  have hlt1 : rb < w1.heap.size := by omega
  have hD2 := (HD.out.go ((Only.refl rb w1).alloc _)).go ho
  have ZB := (ZA.below ((Below.refl _ _).alloc (Nat.le_refl _) _)).only ho hne
  have ZC := (Zr.made _ _ _ w1).only ho hne1
  have a0 := ZB.c0; have a1 := ZB.c1; have a2 := ZB.f0; have a3 := ZB.f1; have a4 := ZB.lt
  have b0 := ZC.c0; have b1 := ZC.c1; have b2 := ZC.f0; have b3 := ZC.f1; have b4 := ZC.lt
  have hlt2 : rb < w2.heap.size := by omega
  have hb1 : b < w1.heap.size := HD.out.lt
  have hbn : b ≠ w1.heap.size := by omega
  have HR2 := Lib.hid hr
  have HO2 := Lib.hid ((HO.out.alloc _).trans ho)
  have HD2 := Lib.hid hD2
  clear hr ho HR HO hD2 HD
  have hnb : ∀ p : Addr, p.block = w1.heap.size ∨ p.block = w.heap.size → ∀ b' o, some (⟨b, off, none⟩ : Addr) = some ⟨b', o, none⟩ → b' ≠ p.block := fun p hp b' o e => by cases e; omega
  have HNB := Lib.hid hnb
  clear hnb
  by_cases hz : n = 0
  · subst hz
    go_wp2_with fail
    with_reducible refine (oneNew_any rb (q + 1) 3 w2 _ _ rfl HR2.out (by omega) ?hs3 ?hL3 (by omega) (by omega)).mono ?_
    case hs3 => rfl
    case hL3 => rfl
    rintro e w3 ⟨s, hs, rfl, hr, ho⟩
    have ZD := ZB.only ho hne
    have ZE := ZC.only ho hne1
    have HD3 := Lib.hid (HD2.out.go ho)
    clear a0 a1 a2 a3 a4 b0 b1 b2 b3 b4
    have a0 := ZD.c0; have a1 := ZD.c1; have a2 := ZD.f0; have a3 := ZD.f1; have a4 := ZD.lt
    have b0 := ZE.c0; have b1 := ZE.c1; have b2 := ZE.f0; have b3 := ZE.f1; have b4 := ZE.lt
    have HR3 := Lib.hid hr
    have HO3 := Lib.hid (HO2.out.trans ho)
    clear hr ho HR2 HO2
    go_wp2_with fail
    refine bodyPost_ret (v := .agg #[.int .i64 s, .slice (some ⟨b, off, none⟩) vs.length c]) (by simp [results, Try.results132, go_sem, a0, a1]) rfl (SomePmA.mk_ (q := q + 1 + 1) (by omega) h0 h5 ?_ HF.out HC.out.1 HC.out.2 (Nat.le_of_lt hbw) ?_ ?_ rfl)
    · exact ((HD3.out.rows.setNew _ (HNB.out ⟨w1.heap.size, 0, none⟩ (.inl rfl))).setNew _ (HNB.out ⟨w.heap.size, 0, none⟩ (.inr rfl))).setNew _ (HNB.out ⟨w.heap.size, 1, none⟩ (.inr rfl))
    · exact ((HR3.out.setNew (a := ⟨w1.heap.size, 0, none⟩) hlt1 _).setNew (a := ⟨w.heap.size, 0, none⟩) hlt _).setNew (a := ⟨w.heap.size, 1, none⟩) hlt _
    · exact ((HO3.out.setNew (p := ⟨w1.heap.size, 0, none⟩) (Nat.le_of_lt zA) _).setNew (p := ⟨w.heap.size, 0, none⟩) (Nat.le_refl _) _).setNew (p := ⟨w.heap.size, 1, none⟩) (Nat.le_refl _) _
  have hz0 : (n == 0) = false := by simpa using hz
  by_cases hy1 : n = 1
  · subst hy1
    go_wp2_with fail
    have hsA : intsOk (#[.int .i64 (-1), .int .i64 3] : Array Value).toList = true := by rfl
    have HSA := Lib.hid hsA
    clear hsA
    have q2 : w2.cell? ⟨w1.heap.size, 1, none⟩ = some (.slice (some ⟨b, off, none⟩) vs.length c) ∧ w1.heap.size < w2.heap.size := ⟨b1, b4⟩
    have qq := q2
    go_region_held3 (fun u => u.cell? ⟨w1.heap.size, 1, none⟩ = some (.slice (some ⟨b, off, none⟩) vs.length c) ∧ w1.heap.size < u.heap.size)
      (first | with_reducible exact qq | with_reducible exact keepC_drew qq | with_reducible exact keepC_alloc qq | with_reducible exact keepC_drew (keepC_alloc qq) | with_reducible exact keepC_alloc (keepC_drew qq) | with_reducible exact keepC_set hbn qq)
      (first
      | (go_at_call 133; refine (pick_any rb (q + 1) (vs.length : Int) _ (by first | with_reducible exact HR2.out.drew | with_reducible exact (HR2.out.alloc _).drew | with_reducible exact HR2.out.drew.alloc _) (by omega) (by omega) (by omega)).mono ?_; rintro e w3 ⟨n3, hn30, hn31, rfl, hr3, ho3⟩; obtain ⟨k, rfl⟩ := Int.eq_ofNat_of_zero_le hn30; have hk : k < vs.length := (by omega); have hom : Only rb w2 w3 := (by first | with_reducible exact ((Only.refl rb w2).drew).trans ho3 | with_reducible exact (((Only.refl rb w2).alloc _).drew).trans ho3 | with_reducible exact (((Only.refl rb w2).drew).alloc _).trans ho3); have qq := keepC_only hom hne1 q2; have HR3 := Lib.hid hr3; clear hr3)
      | (go_at_call 153; (first | (with_reducible refine (oneNew_any rb (q + 1 + 1) 2 w3 _ #[.int .i64 (-1), .int .i64 3] rfl HR3.out (by omega) HSA.out rfl (by omega) (by omega)).mono ?_) | (with_reducible refine (oneOld_any rb (q + 1 + 1) 2 _ w3 _ #[.int .i64 (-1), .int .i64 3] rfl (((Only.refl rb _).drew).trans ho3) hlt2 HR3.out (by omega) HSA.out rfl (by omega) (by omega)).mono ?_) | (with_reducible refine (oneOld_any rb (q + 1 + 1) 2 _ w3 _ #[.int .i64 (-1), .int .i64 3] rfl ho3 hlt2 HR3.out (by omega) HSA.out rfl (by omega) (by omega)).mono ?_)); rintro e w4 ⟨s, hs, rfl, hr4, ho4⟩; have hoo : Only rb w2 w4 := hom.trans ho4; have y0 := (ZB.only hoo hne).c0; have y1 := (ZB.only hoo hne).c1; have y2 := (ZB.only hoo hne).f0; have y3 := (ZB.only hoo hne).f1; have y4 := (ZB.only hoo hne).lt; have qq := keepC_only hoo hne1 q2; have x0 := (ZC.only hoo hne1).c0; have x1 := (ZC.only hoo hne1).c1; have x4 := (ZC.only hoo hne1).lt; have d0 := ((HD2.out.go hoo).cells k hk).2; have d1 := ((HD2.out.go hoo).free k hk).2; have d2 := (HD2.out.go hoo).lt))
    all_goals
      have HR4 := Lib.hid hr4
      have HO4 := Lib.hid (HO2.out.trans hoo)
      have HD4 := Lib.hid (HD2.out.go hoo)
      clear hr4 hoo
      go_wp2_with fail
      refine bodyPost_ret (v := .agg #[.int .i64 ep, .slice (some ⟨b, off, none⟩) vs.length c]) (by simp [results, Try.results132, go_sem, y0, y1]) rfl (SomePmA.mk_ (vs := vs.set k ⟨vs[k].f0, s⟩) (q := q + 1 + 1 + 1) (by omega) (by rw [List.length_set]; exact h0) (by rw [List.length_set]; exact h5) ?_ (fits_set HF.out (show (vs[k]).f0.size ≤ maxLen from HF.out vs[k] (List.getElem_mem hk))) (by rw [List.length_set]; exact HC.out.1) HC.out.2 (Nat.le_of_lt hbw) ?_ ?_ (List.length_set ..))
      · exact (((HD4.out.set1 hk s).setNew _ (HNB.out ⟨w.heap.size, 0, none⟩ (.inr rfl))).setNew _ (HNB.out ⟨w.heap.size, 1, none⟩ (.inr rfl)))
      · exact ((HR4.out.setNew (a := ⟨b, off + k * 2 + 1, none⟩) (by show rb < b; omega) _).setNew (a := ⟨w.heap.size, 0, none⟩) hlt _).setNew (a := ⟨w.heap.size, 1, none⟩) hlt _
      · exact ((HO4.out.setNew (p := ⟨b, off + k * 2 + 1, none⟩) (Nat.le_of_lt hbw) _).setNew (p := ⟨w.heap.size, 0, none⟩) (Nat.le_refl _) _).setNew (p := ⟨w.heap.size, 1, none⟩) (Nat.le_refl _) _
  have hz1 : (n == 1) = false := by simpa using hy1
  by_cases hy2 : n = 2
  · subst hy2
    go_wp2_with fail
    have hsA : strsOk (#[.string ⟨#[]⟩, .string ⟨#[65]⟩, .string ⟨#[122, 122]⟩] : Array Value).toList = true := by rfl
    have HSA := Lib.hid hsA
    clear hsA
    have q2 : w2.cell? ⟨w1.heap.size, 1, none⟩ = some (.slice (some ⟨b, off, none⟩) vs.length c) ∧ w1.heap.size < w2.heap.size := ⟨b1, b4⟩
    have qq := q2
    go_region_held3 (fun u => u.cell? ⟨w1.heap.size, 1, none⟩ = some (.slice (some ⟨b, off, none⟩) vs.length c) ∧ w1.heap.size < u.heap.size)
      (first | with_reducible exact qq | with_reducible exact keepC_drew qq | with_reducible exact keepC_alloc qq | with_reducible exact keepC_drew (keepC_alloc qq) | with_reducible exact keepC_alloc (keepC_drew qq) | with_reducible exact keepC_set hbn qq)
      (first
      | (go_at_call 133; refine (pick_any rb (q + 1) (vs.length : Int) _ (by first | with_reducible exact HR2.out.drew | with_reducible exact (HR2.out.alloc _).drew | with_reducible exact HR2.out.drew.alloc _) (by omega) (by omega) (by omega)).mono ?_; rintro e w3 ⟨n3, hn30, hn31, rfl, hr3, ho3⟩; obtain ⟨k, rfl⟩ := Int.eq_ofNat_of_zero_le hn30; have hk : k < vs.length := (by omega); have hom : Only rb w2 w3 := (by first | with_reducible exact ((Only.refl rb w2).drew).trans ho3 | with_reducible exact (((Only.refl rb w2).alloc _).drew).trans ho3 | with_reducible exact (((Only.refl rb w2).drew).alloc _).trans ho3); have qq := keepC_only hom hne1 q2; have HR3 := Lib.hid hr3; clear hr3)
      | (go_at_call 206; (first | (with_reducible refine (ofNew_any rb (q + 1 + 1) 3 w3 _ #[.string ⟨#[]⟩, .string ⟨#[65]⟩, .string ⟨#[122, 122]⟩] rfl HR3.out (by omega) HSA.out rfl (by omega) (by omega)).mono ?_) | (with_reducible refine (ofOld_any rb (q + 1 + 1) 3 _ w3 _ #[.string ⟨#[]⟩, .string ⟨#[65]⟩, .string ⟨#[122, 122]⟩] rfl (((Only.refl rb _).drew).trans ho3) hlt2 HR3.out (by omega) HSA.out rfl (by omega) (by omega)).mono ?_) | (with_reducible refine (ofOld_any rb (q + 1 + 1) 3 _ w3 _ #[.string ⟨#[]⟩, .string ⟨#[65]⟩, .string ⟨#[122, 122]⟩] rfl ho3 hlt2 HR3.out (by omega) HSA.out rfl (by omega) (by omega)).mono ?_)); rintro e w4 ⟨s, hs, rfl, hr4, ho4⟩; have hoo : Only rb w2 w4 := hom.trans ho4; have y0 := (ZB.only hoo hne).c0; have y1 := (ZB.only hoo hne).c1; have y2 := (ZB.only hoo hne).f0; have y3 := (ZB.only hoo hne).f1; have y4 := (ZB.only hoo hne).lt; have qq := keepC_only hoo hne1 q2; have x0 := (ZC.only hoo hne1).c0; have x1 := (ZC.only hoo hne1).c1; have x4 := (ZC.only hoo hne1).lt; have d0 := ((HD2.out.go hoo).cells k hk).1; have d1 := ((HD2.out.go hoo).free k hk).1; have d2 := (HD2.out.go hoo).lt))
    all_goals
      have HR4 := Lib.hid hr4
      have HO4 := Lib.hid (HO2.out.trans hoo)
      have HD4 := Lib.hid (HD2.out.go hoo)
      clear hr4 hoo
      go_wp2_with fail
      refine bodyPost_ret (v := .agg #[.int .i64 ep, .slice (some ⟨b, off, none⟩) vs.length c]) (by simp [results, Try.results132, go_sem, y0, y1]) rfl (SomePmA.mk_ (vs := vs.set k ⟨s, vs[k].f1⟩) (q := q + 1 + 1 + 1) (by omega) (by rw [List.length_set]; exact h0) (by rw [List.length_set]; exact h5) ?_ (fits_set HF.out hs) (by rw [List.length_set]; exact HC.out.1) HC.out.2 (Nat.le_of_lt hbw) ?_ ?_ (List.length_set ..))
      · exact (((HD4.out.set0 hk s).setNew _ (HNB.out ⟨w.heap.size, 0, none⟩ (.inr rfl))).setNew _ (HNB.out ⟨w.heap.size, 1, none⟩ (.inr rfl)))
      · exact ((HR4.out.setNew (a := ⟨b, off + k * 2, none⟩) (by show rb < b; omega) _).setNew (a := ⟨w.heap.size, 0, none⟩) hlt _).setNew (a := ⟨w.heap.size, 1, none⟩) hlt _
      · exact ((HO4.out.setNew (p := ⟨b, off + k * 2, none⟩) (Nat.le_of_lt hbw) _).setNew (p := ⟨w.heap.size, 0, none⟩) (Nat.le_refl _) _).setNew (p := ⟨w.heap.size, 1, none⟩) (Nat.le_refl _) _
  have hz2 : (n == 2) = false := by simpa using hy2
  go_wp2_with fail
  refine bodyPost_ret (v := .agg #[.int .i64 ep, .slice (some ⟨b, off, none⟩) vs.length c]) (by simp [results, Try.results132, go_sem, a0, a1]) rfl (SomePmA.mk_ (q := q + 1) (by omega) h0 h5 ?_ HF.out HC.out.1 HC.out.2 (Nat.le_of_lt hbw) ?_ ?_ rfl)
  · exact (HD2.out.rows.setNew _ (HNB.out ⟨w.heap.size, 0, none⟩ (.inr rfl))).setNew _ (HNB.out ⟨w.heap.size, 1, none⟩ (.inr rfl))
  · exact (HR2.out.setNew (a := ⟨w.heap.size, 0, none⟩) hlt _).setNew (a := ⟨w.heap.size, 1, none⟩) hlt _
  · exact (HO2.out.setNew (p := ⟨w.heap.size, 0, none⟩) (Nat.le_refl _) _).setNew (p := ⟨w.heap.size, 1, none⟩) (Nat.le_refl _) _
end Go.Proofs.Ytodpodgdhiadnaa
