/- Drawing whatever may be known, and a key beside it. -/
import Derived.Test.YtjijichgoodocaaDrawN
import Derived.Test.YtjijichgoodocaaDrawM
namespace Go.Proofs.Ytjijichgoodocaa
open Go.RowKit

theorem kn_at {w : World} {lo hi b : Nat} {vs : List KnownD} (h : KnownsAt w lo hi (some ⟨b, 0, none⟩) vs) {k : Nat} (hk : k < vs.length) :
    w.cell? ⟨b, k * 4, none⟩ = some (.string vs[k].f0) ∧ w.cell? ⟨b, k * 4 + 1, none⟩ = some (.string vs[k].f1) ∧ w.cell? ⟨b, k * 4 + 2, none⟩ = some (.int .i64 vs[k].f2) ∧ w.cell? ⟨b, k * 4 + 3, none⟩ = some (.int .i64 vs[k].f3) ∧
    w.frozen? ⟨b, k * 4, none⟩ = false ∧ w.frozen? ⟨b, k * 4 + 1, none⟩ = false ∧ w.frozen? ⟨b, k * 4 + 2, none⟩ = false ∧ w.frozen? ⟨b, k * 4 + 3, none⟩ = false := by
  rcases h.in1 with rfl | ⟨b', off', e, hb, hc⟩
  · simp at hk
  cases e
  rcases h.fr1 with h0 | ⟨b', off', e, _, hq⟩
  · omega
  cases e
  obtain ⟨c0, c1, c2, c3⟩ := hc k hk
  have q0 := (hq (k * 4) (by omega)).2
  have q1 := (hq (k * 4 + 1) (by omega)).2
  have q2 := (hq (k * 4 + 2) (by omega)).2
  have q3 := (hq (k * 4 + 3) (by omega)).2
  simp only [Nat.zero_add, ← Nat.add_assoc] at c0 c1 c2 c3 q0 q1 q2 q3
  exact ⟨c0, c1, c2, c3, q0, q1, q2, q3⟩
theorem kn_set {w u : World} {lo hi b : Nat} {vs : List KnownD} (h : KnownsAt w lo hi (some ⟨b, 0, none⟩) vs) {k : Nat} (hk : k < vs.length) {v : KnownD} (hs : b < u.heap.size)
    (h0 : u.cell? ⟨b, k * 4, none⟩ = some (.string v.f0)) (h1 : u.cell? ⟨b, k * 4 + 1, none⟩ = some (.string v.f1)) (h2 : u.cell? ⟨b, k * 4 + 2, none⟩ = some (.int .i64 v.f2)) (h3 : u.cell? ⟨b, k * 4 + 3, none⟩ = some (.int .i64 v.f3))
    (hr : ∀ j, j ≠ k * 4 → j ≠ k * 4 + 1 → j ≠ k * 4 + 2 → j ≠ k * 4 + 3 → u.cell? ⟨b, j, none⟩ = w.cell? ⟨b, j, none⟩) : KnownsIn u (some ⟨b, 0, none⟩) (vs.set k v) := by
  refine .inr ⟨b, 0, rfl, hs, fun i hi' => ?_⟩
  rw [List.length_set] at hi'
  rw [List.getElem_set]
  simp only [Nat.zero_add]
  by_cases e : k = i
  · subst e; rw [if_pos rfl]; exact ⟨h0, h1, h2, h3⟩
  · rw [if_neg e]
    obtain ⟨c0, c1, c2, c3, _⟩ := kn_at h hi'
    rw [hr _ (by omega) (by omega) (by omega) (by omega), hr _ (by omega) (by omega) (by omega) (by omega), hr _ (by omega) (by omega) (by omega) (by omega), hr _ (by omega) (by omega) (by omega) (by omega)]
    exact ⟨c0, c1, c2, c3⟩
theorem Kd.mk_ {lo b k : Nat} {u : World} {vs : List KnownD} {v : KnownD} (hi : KnownsIn u (some ⟨b, 0, none⟩) (vs.set k v)) (hf : ∀ v ∈ vs, v.fits) (hv : v.fits) (hn : vs.length ≤ 6) (hl : lo ≤ b) : Kd lo u b 0 (vs.set k v) :=
  ⟨hi, mem_set hf hv, by rw [List.length_set]; exact hn, hl⟩

def SomeKnA (rb p : Nat) (w : World) (e : Ending) (w' : World) : Prop := ∃ (vs : List KnownD) (b c q : Nat), q ≤ p ∧ e = .returned (.slice (some ⟨b, 0, none⟩) vs.length c) ∧ Kd w.heap.size w' b 0 vs ∧ vs.length ≤ c ∧ c ≤ maxLen ∧ RdAt rb q w' ∧ Only rb w w'
theorem SomeKnA.mk_ {rb p q b c n : Nat} {w w' : World} {vs : List KnownD} (hq : q ≤ p) (hk : Kd w.heap.size w' b 0 vs) (hc1 : vs.length ≤ c) (hc2 : c ≤ maxLen) (hr : RdAt rb q w') (ho : Only rb w w') (hn : vs.length = n) : SomeKnA rb p w (.returned (.slice (some ⟨b, 0, none⟩) n c)) w' :=
  ⟨vs, b, c, q, hq, by rw [hn], hk, hc1, hc2, hr, ho⟩

set_option maxRecDepth 100000 in
set_option maxHeartbeats 4000000 in
theorem l20AnyKnown_any (rb p : Nat) (w : World) (h : RdAt rb p w) (hp : p < 9000) :
    Calls Try.prog 115 #[.pointer (some ⟨rb, 0, none⟩)] w (SomeKnA rb (p + 60) w) := by
  have hrb := h.lt
  have H := Lib.hid h
  clear h
  go_enter Try.func115, Try.ntmps115
  go_wp2_with fail
  refine (l20Known_any rb p _ H.out (by omega)).mono ?_
  rintro e w1 ⟨vs, b, c, q, hq, rfl, hat, hf, hn, hlb, hb1, hcc1, hcc2, hr, ho⟩
  have HA1 := Lib.hid hat
  have HF := Lib.hid hf
  have HR1 := Lib.hid hr
  have HO1 := Lib.hid ho
  clear hat hf hr ho H
  rcases Nat.eq_zero_or_pos vs.length with h0 | hpos
  · obtain rfl := List.eq_nil_of_length_eq_zero h0
    clear h0
    go_wp2_with fail
    go_ret
    exact SomeKnA.mk_ (vs := []) (q := q) (by omega) ⟨.inl rfl, HF.out, Nat.zero_le _, hlb⟩ (Nat.zero_le _) hcc2 HR1.out HO1.out rfl
  have hpi : (vs.length : Int) > 0 := by omega
  go_wp2_with fail
  refine (pick_any rb q (vs.length : Int) _ HR1.out (by omega) (by omega) (by omega)).mono ?_
  rintro e w2 ⟨n, hn0, hn1, rfl, hr, ho⟩
  obtain ⟨k, rfl⟩ := Int.eq_ofNat_of_zero_le hn0
  have hk : k < vs.length := by omega
  have HA2 := Lib.hid (HA1.out.turned (S := fun x => x = rb) (fun x h1 h2 e => by omega) ho.turned)
  have HR2 := Lib.hid hr
  have HO2 := Lib.hid (HO1.out.trans ho)
  have hb2 : b < w2.heap.size := Nat.lt_of_lt_of_le hb1 ho.size
  clear hr ho HA1 HR1 HO1
  go_wp2_with fail
  refine (pick_any rb (q + 1) 12 _ HR2.out (by omega) (by omega) (by omega)).mono ?_
  rintro e w3 ⟨n, hn0, hn1, rfl, hr, ho⟩
  have HA3 := Lib.hid (HA2.out.turned (S := fun x => x = rb) (fun x h1 h2 e => by omega) ho.turned)
  have HR3 := Lib.hid hr
  have HO3 := Lib.hid (HO2.out.trans ho)
  have hb3 : b < w3.heap.size := Nat.lt_of_lt_of_le hb2 ho.size
  clear hr ho HA2 HR2 HO2
  have hmem := List.getElem_mem hk
  have i1 : (0 : Int) ≤ (k : Int) := by omega
  have i2 : (k : Int) < (vs.length : Int) := by omega
  have hbr : rb < b := by omega
  by_cases hz : n = 0
  · subst hz
    go_wp2_with fail
    refine (l20AnySpan_any rb (q + 1 + 1) _ HR3.out (by omega)).mono ?_
    rintro e w4 ⟨lo, hi, q4, hq4, hlo, hhi, rfl, hr, ho⟩
    have HA4 := Lib.hid (HA3.out.turned (S := fun x => x = rb) (fun x h1 h2 e => by omega) ho.turned)
    have HR4 := Lib.hid hr
    have HO4 := Lib.hid (HO3.out.trans ho)
    have hb4 : b < w4.heap.size := Nat.lt_of_lt_of_le hb3 ho.size
    clear hr ho HA3 HR3 HO3
    obtain ⟨c0, c1, c2, c3, f0, f1, f2, f3⟩ := kn_at HA4.out hk
    go_wp2_with fail
    go_ret
    refine SomeKnA.mk_ (vs := vs.set k ⟨lo, hi, vs[k].f2, vs[k].f3⟩) (q := q4) (by omega) (Kd.mk_ (kn_set HA4.out hk (by simpa using hb4) ?_ ?_ ?_ ?_ ?_) HF.out ⟨hlo, hhi⟩ hn hlb) (by rw [List.length_set]; exact hcc1) hcc2 ?_ ?_ (List.length_set ..)
    · rw [cell_offR (by omega)]; exact World.cell?_setCell_same _ _ _ c0
    · exact World.cell?_setCell_same _ _ _ (by rw [cell_offR (by omega)]; exact c1)
    · rw [cell_offR (by omega), cell_offR (by omega)]; exact c2
    · rw [cell_offR (by omega), cell_offR (by omega)]; exact c3
    · intro j h1 h2 h3 h4; rw [cell_offR (by omega), cell_offR (by omega)]
    · exact (HR4.out.setNew (a := ⟨b, k * 4, none⟩) hbr _).setNew (a := ⟨b, k * 4 + 1, none⟩) hbr _
    · exact (HO4.out.setNew (p := ⟨b, k * 4, none⟩) hlb _).setNew (p := ⟨b, k * 4 + 1, none⟩) hlb _
  have hz0 : (n == 0) = false := by simpa using hz
  by_cases hz : n = 1
  · subst hz
    obtain ⟨c0, c1, c2, c3, f0, f1, f2, f3⟩ := kn_at HA3.out hk
    go_wp2_with fail
    go_ret
    refine SomeKnA.mk_ (vs := vs.set k ⟨vs[k].f0, vs[k].f1, 3, vs[k].f3⟩) (q := q + 1 + 1) (by omega) (Kd.mk_ (kn_set HA3.out hk (by simpa using hb3) ?_ ?_ ?_ ?_ ?_) HF.out (show (vs[k]).fits from HF.out vs[k] hmem) hn hlb) (by rw [List.length_set]; exact hcc1) hcc2 ?_ ?_ (List.length_set ..)
    · rw [cell_offR (by omega)]; exact c0
    · rw [cell_offR (by omega)]; exact c1
    · exact World.cell?_setCell_same _ _ _ c2
    · rw [cell_offR (by omega)]; exact c3
    · intro j h1 h2 h3 h4; rw [cell_offR (by omega)]
    · exact HR3.out.setNew (a := ⟨b, k * 4 + 2, none⟩) hbr _
    · exact HO3.out.setNew (p := ⟨b, k * 4 + 2, none⟩) hlb _
  have hz1 : (n == 1) = false := by simpa using hz
  by_cases hz : n = 2
  · subst hz
    go_wp2_with fail
    refine (oneNew_any rb (q + 1 + 1) 2 w3 _ #[.int .i64 0, .int .i64 100] rfl HR3.out (by omega) ?hs ?hL (by omega) (by omega)).mono ?_
    case hs => rfl
    case hL => rfl
    rintro e w4 ⟨s, hs, rfl, hr, ho⟩
    have HA4 := Lib.hid (HA3.out.turned (S := fun x => x = rb) (fun x h1 h2 e => by omega) ho.turned)
    have HR4 := Lib.hid hr
    have HO4 := Lib.hid (HO3.out.trans ho)
    have hb4 : b < w4.heap.size := Nat.lt_of_lt_of_le hb3 ho.size
    clear hr ho HA3 HR3 HO3
    obtain ⟨c0, c1, c2, c3, f0, f1, f2, f3⟩ := kn_at HA4.out hk
    go_wp2_with fail
    go_ret
    refine SomeKnA.mk_ (vs := vs.set k ⟨vs[k].f0, vs[k].f1, vs[k].f2, s⟩) (q := q + 1 + 1 + 1) (by omega) (Kd.mk_ (kn_set HA4.out hk (by simpa using hb4) ?_ ?_ ?_ ?_ ?_) HF.out (show (vs[k]).fits from HF.out vs[k] hmem) hn hlb) (by rw [List.length_set]; exact hcc1) hcc2 ?_ ?_ (List.length_set ..)
    · rw [cell_offR (by omega)]; exact c0
    · rw [cell_offR (by omega)]; exact c1
    · rw [cell_offR (by omega)]; exact c2
    · exact World.cell?_setCell_same _ _ _ c3
    · intro j h1 h2 h3 h4; rw [cell_offR (by omega)]
    · exact HR4.out.setNew (a := ⟨b, k * 4 + 3, none⟩) hbr _
    · exact HO4.out.setNew (p := ⟨b, k * 4 + 3, none⟩) hlb _
  have hz2 : (n == 2) = false := by simpa using hz
  go_wp2_with fail
  go_ret
  exact SomeKnA.mk_ (vs := vs) (q := q + 1 + 1) (by omega) ⟨HA3.out.in1, HF.out, hn, hlb⟩ hcc1 hcc2 HR3.out HO3.out rfl

def SomeKnKey (w : World) (e : Ending) (w' : World) : Prop := ∃ (vs : List KnownD) (b c : Nat) (key : ByteArray), key.size ≤ maxLen ∧ e = .returned (.tuple #[.slice (some ⟨b, 0, none⟩) vs.length c, .string key]) ∧ Kd w.heap.size w' b 0 vs ∧ Below w.heap.size w w'

set_option maxRecDepth 100000 in
set_option maxHeartbeats 2000000 in
theorem drawRouteFind_any (a : Option Addr) (len cap : Nat) (w : World) (h : BytesIn w a len cap) :
    Calls Try.prog 50 #[.slice a len cap] w (SomeKnKey w) := by
  have H := Lib.hid h
  clear h
  go_enter Try.func50, Try.ntmps50
  go_wp2_with fail
  with_reducible refine (l20Open_any a len cap w.heap.size w rfl H.out).mono ?_
  rintro e w1 ⟨rfl, hr, hb1⟩
  have HR := Lib.hid hr
  have HB := Lib.hid hb1
  have hs1 := hr.lt
  clear hr hb1 H
  go_wp2_with fail
  with_reducible refine (l20AnyKnown_any w.heap.size 0 w1 HR.out (by omega)).mono ?_
  rintro e w2 ⟨vs, b, c, q, hq, rfl, hk, hcc1, hcc2, hr, ho⟩
  have HK := Lib.hid hk
  have HR2 := Lib.hid hr
  have HB2 := Lib.hid (HB.out.trans (ho.below (B := w.heap.size) (Nat.le_refl _) (by omega)))
  clear hr ho hk HR HB
  go_wp2_with fail
  with_reducible refine (l20AnyKey_any w.heap.size q w2 HR2.out (by omega)).mono ?_
  rintro e w3 ⟨key, q3, hq3, hkey, rfl, hr, ho⟩
  have HK3 := Lib.hid (HK.out.go ho (by omega))
  have hs2 := HB2.out.size
  have HB3 := Lib.hid (HB2.out.trans (ho.below (B := w.heap.size) (Nat.le_refl _) (by omega)))
  clear hr ho HK
  go_wp2_with fail
  exact bodyPost_ret (v := .tuple #[.slice (some ⟨b, 0, none⟩) vs.length c, .string key]) (by simp [results, Try.results50, go_sem]) rfl ⟨vs, b, c, key, hkey, rfl, HK3.out.lower (by omega), HB3.out⟩
end Go.Proofs.Ytjijichgoodocaa
