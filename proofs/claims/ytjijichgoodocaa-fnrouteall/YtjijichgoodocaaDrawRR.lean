/- Drawing what is known beside a map of parts. -/
import Derived.Test.YtjijichgoodocaaFraM
import Derived.Test.YtjijichgoodocaaPmapSplitS
import Derived.Deep.Cut
namespace Go.Proofs.Ytjijichgoodocaa
open Go.RowKit

theorem keepD_only' {rb n : Nat} {x y : Value} {u v : World} (ho : Only rb u v) (hne : n ≠ rb) (h : u.cell? ⟨n, 0, none⟩ = some x ∧ u.cell? ⟨n, 1, none⟩ = some y ∧ n < u.heap.size) : v.cell? ⟨n, 0, none⟩ = some x ∧ v.cell? ⟨n, 1, none⟩ = some y ∧ n < v.heap.size :=
  ⟨(ho.cell (p := ⟨n, 0, none⟩) h.2.2 hne).trans h.1, (ho.cell (p := ⟨n, 1, none⟩) h.2.2 hne).trans h.2.1, Nat.lt_of_lt_of_le h.2.2 ho.size⟩
theorem keepD_drew {n : Nat} {x y : Value} {u : World} (h : u.cell? ⟨n, 0, none⟩ = some x ∧ u.cell? ⟨n, 1, none⟩ = some y ∧ n < u.heap.size) : u.drew.cell? ⟨n, 0, none⟩ = some x ∧ u.drew.cell? ⟨n, 1, none⟩ = some y ∧ n < u.drew.heap.size := h
theorem keepD_alloc {n : Nat} {x y : Value} {u : World} {o : Obj} (h : u.cell? ⟨n, 0, none⟩ = some x ∧ u.cell? ⟨n, 1, none⟩ = some y ∧ n < u.heap.size) : (u.alloc o).cell? ⟨n, 0, none⟩ = some x ∧ (u.alloc o).cell? ⟨n, 1, none⟩ = some y ∧ n < (u.alloc o).heap.size :=
  have hb : Below u.heap.size u (u.alloc o) := (Below.refl _ _).alloc (Nat.le_refl _) _
  ⟨(hb.cell (p := ⟨n, 0, none⟩) h.2.2).trans h.1, (hb.cell (p := ⟨n, 1, none⟩) h.2.2).trans h.2.1, Nat.lt_of_lt_of_le h.2.2 hb.size⟩
theorem keepD_set {n g i j : Nat} {x y p q : Value} {u : World} (hg : n ≠ g) (h : u.cell? ⟨n, 0, none⟩ = some x ∧ u.cell? ⟨n, 1, none⟩ = some y ∧ n < u.heap.size) : ((u.setCell ⟨g, i, none⟩ p).setCell ⟨g, j, none⟩ q).cell? ⟨n, 0, none⟩ = some x ∧ ((u.setCell ⟨g, i, none⟩ p).setCell ⟨g, j, none⟩ q).cell? ⟨n, 1, none⟩ = some y ∧ n < ((u.setCell ⟨g, i, none⟩ p).setCell ⟨g, j, none⟩ q).heap.size :=
  ⟨by rw [cell_far hg, cell_far hg, h.1], by rw [cell_far hg, cell_far hg, h.2.1], by simpa using h.2.2⟩
/-- A piece of what is known, from an index on. -/
theorem kn_drop {w : World} {b off k : Nat} {vs : List KnownD} (h : KnownsIn w (some ⟨b, off, none⟩) vs) : KnownsIn w (some ⟨b, off + k * 4, none⟩) (vs.drop k) := by
  rcases h with rfl | ⟨b', off', e, hb, hc⟩
  · left; simp
  · cases e
    refine .inr ⟨b, off + k * 4, rfl, hb, fun i hi => ?_⟩
    have hi' : k + i < vs.length := by rw [List.length_drop] at hi; omega
    rw [List.getElem_drop]
    have := hc (k + i) hi'
    rw [show off + k * 4 + i * 4 = off + (k + i) * 4 by omega]
    exact this

/-- What is drawn: a list, and a map of parts that may be no map at all. -/
structure KpD (w : World) (a : Option Addr) (us : List KnownD) (c : Nat) (am : Option Addr) (vs : List RowD) : Prop where
  kin : KnownsIn w a us
  kf : ∀ u ∈ us, u.fits
  kn : us.length ≤ 6
  kc : us.length ≤ c ∧ c ≤ maxLen
  rin : RowsIn w am vs
  rf : ∀ v ∈ vs, v.fits
  rn : vs.length ≤ 6
theorem KpD.below {w u : World} {a : Option Addr} {us : List KnownD} {c : Nat} {am : Option Addr} {vs : List RowD} (h : KpD w a us c am vs) (hb : Below w.heap.size w u) : KpD u a us c am vs := ⟨h.kin.below hb, h.kf, h.kn, h.kc, h.rin.below hb, h.rf, h.rn⟩
def SomeKp (w : World) (e : Ending) (w' : World) : Prop := ∃ us a c ep vs am cm, e = .returned (.tuple #[.slice a us.length c, .agg #[.int .i64 ep, .slice am vs.length cm]]) ∧ KpD w' a us c am vs ∧ Below w.heap.size w w'
theorem kpSet {w : World} {a : Option Addr} {us : List KnownD} {c : Nat} {am : Option Addr} {vs : List RowD} {n : Nat} {p q : Value} (h : KpD w a us c am vs) (h1 : ∀ b o, a = some ⟨b, o, none⟩ → n < b) (h2 : ∀ b o, am = some ⟨b, o, none⟩ → n < b) : KpD ((w.setCell ⟨n, 0, none⟩ p).setCell ⟨n, 1, none⟩ q) a us c am vs := by
  have ht : Turned (fun b => b = n) w ((w.setCell ⟨n, 0, none⟩ p).setCell ⟨n, 1, none⟩ q) := ((Turned.refl (fun b => b = n) w).setCell (p := ⟨n, 0, none⟩) rfl _).setCell (p := ⟨n, 1, none⟩) rfl _
  exact ⟨h.kin.turned (fun b o e k => by have := h1 b o e; omega) ht, h.kf, h.kn, h.kc, h.rin.turned (fun b o e k => by have := h2 b o e; omega) ht, h.rf, h.rn⟩

theorem split_fits {ep : Int} {vs : List RowD} {key : ByteArray} {node e1 : Int} {v1 : List RowD} {b1 : Bool} (h : PmapSplitRel ep vs key node e1 v1 b1) (hf : ∀ v ∈ vs, v.fits) (hk : key.size ≤ maxLen) : ∀ v ∈ v1, v.fits := fun v hv => by
  rcases h with ⟨_, _, rfl, _⟩ | ⟨_, _, _, rfl, _⟩ | ⟨_, _, _, ⟨k, f, rfl⟩, _⟩
  · cases hv
  · exact hf v hv
  · unfold splitAt at hv
    simp only [List.mem_append, List.mem_cons, List.not_mem_nil, or_false] at hv
    rcases hv with hv | hv | hv
    · exact hf v (List.mem_of_mem_take hv)
    · rw [hv]; exact hk
    · exact hf v (List.mem_of_mem_drop hv)
/-- A map of parts in a box that is new since W, where a reader was read. -/
def NewPm (rb : Nat) (W : World) (p : Value) (u : World) : Prop :=
  ∃ g ep vs a c, p = .pointer (some ⟨g, 0, none⟩) ∧ Only rb W u ∧ W.heap.size ≤ g ∧ g < u.heap.size ∧ u.cell? ⟨g, 0, none⟩ = some (.int .i64 ep) ∧ u.cell? ⟨g, 1, none⟩ = some (.slice a vs.length c) ∧ RowsIn u a vs ∧ (∀ v ∈ vs, v.fits) ∧ vs.length ≤ 6 ∧ (∀ b o, a = some ⟨b, o, none⟩ → W.heap.size ≤ b)
theorem newPm_A {rb : Nat} {W u : World} {ep : Int} {vs : List RowD} {a : Option Addr} {c lo : Nat} {t : TypeId} (ho : Only rb W u) (h : PmAt u lo u.heap.size a vs) (hf : ∀ v ∈ vs, v.fits) (hn : vs.length ≤ 6) (hl : W.heap.size ≤ lo) :
    NewPm rb W (.pointer (some ⟨u.heap.size, 0, none⟩)) (u.alloc (.cells #[.int .i64 ep, .slice a vs.length c] t)) :=
  ⟨u.heap.size, ep, vs, a, c, rfl, ho.alloc _, ho.size, by simp, by simp, by simp, h.in1.below ((Below.refl _ _).alloc (Nat.le_refl _) _), hf, hn, fun b o e => Nat.le_trans hl (h.l1 b o e).1⟩
theorem newPm_B {rb g : Nat} {W u : World} {ep : Int} {vs : List RowD} {a : Option Addr} {c lo : Nat} {z0 z1 : Value} (ho : Only rb W u) (h : PmAt u lo u.heap.size a vs) (hf : ∀ v ∈ vs, v.fits) (hn : vs.length ≤ 6) (hl : W.heap.size ≤ lo) (z : Zr z0 z1 g u) (hg : W.heap.size ≤ g) (hs : g < lo) :
    NewPm rb W (.pointer (some ⟨g, 0, none⟩)) ((u.setCell ⟨g, 0, none⟩ (.int .i64 ep)).setCell ⟨g, 1, none⟩ (.slice a vs.length c)) := by
  have h0 := z.c0
  have h1 := z.c1
  have h7 := z.lt
  have ht : Turned (fun b => b = g) u ((u.setCell ⟨g, 0, none⟩ (.int .i64 ep)).setCell ⟨g, 1, none⟩ (.slice a vs.length c)) := ((Turned.refl (fun b => b = g) u).setCell (p := ⟨g, 0, none⟩) rfl _).setCell (p := ⟨g, 1, none⟩) rfl _
  exact ⟨g, ep, vs, a, c, rfl, (ho.setNew (p := ⟨g, 0, none⟩) hg _).setNew (p := ⟨g, 1, none⟩) hg _, hg, by simpa using h7, by simp [go_sem, h0, h1, h7], by simp [go_sem, h0, h1, h7], h.in1.turned (fun b o e k => by have := (h.l1 b o e).1; omega) ht, hf, hn, fun b o e => Nat.le_trans hl (h.l1 b o e).1⟩
theorem of_newZ {C : Prop} {rb : Nat} {z0 z1 : Value} {t : TypeId} {v w' : World} (hw : Only rb (v.alloc (.cells #[z0, z1] t)) w') (hn : v.heap.size ≠ rb) (k : Zr z0 z1 v.heap.size w' → C) : C := k ((Zr.made z0 z1 t v).only hw hn)
theorem of_newZD {C : Prop} {rb : Nat} {z0 z1 : Value} {t : TypeId} {v w' : World} (hw : Only rb (v.alloc (.cells #[z0, z1] t)).drew w') (hn : v.heap.size ≠ rb) (k : Zr z0 z1 v.heap.size w' → C) : C := k ((Zr.made z0 z1 t v).only (((Only.refl rb _).drew).trans hw) hn)
theorem of_carryZ {C : Prop} {rb g : Nat} {z0 z1 : Value} {u w' : World} (hw : Only rb u w') (h : Zr z0 z1 g u) (hn : g ≠ rb) (k : Zr z0 z1 g w' → C) : C := k (h.only hw hn)

set_option maxRecDepth 100000 in
set_option maxHeartbeats 8000000 in
theorem drawRouteRight_any (a : Option Addr) (len cap : Nat) (w : World) (h : BytesIn w a len cap) :
    Calls Try.prog 61 #[.slice a len cap] w (SomeKp w) := by
  have H := Lib.hid h
  clear h
  go_enter Try.func61, Try.ntmps61
  go_wp2_with fail
  with_reducible refine (l20Open_any a len cap (w.heap.size + 1) _ ?hg ?hb).mono ?_
  case hg => simp
  case hb => exact H.out.alloc _
  rintro e w1 ⟨rfl, hr, hb1⟩
  have hne : w.heap.size ≠ w.heap.size + 1 := by omega
  have ZA := Lib.hid ((Zr.made _ _ _ w).below hb1)
  have E1 := Lib.hid (((Below.refl w.heap.size w).alloc (Nat.le_refl _) _).trans (hb1.mono (by simp)))
  have HR := Lib.hid hr
  clear hr hb1 H
  go_wp2_with fail
  with_reducible refine (l20AnyPmap_any (w.heap.size + 1) 0 w1 HR.out (by omega)).mono ?_
  rintro e w2 ⟨ep, vs, a', c, q, hq, h0, h5, rfl, hin, hf, hc1, hc2, hlb, hr, ho⟩
  have hr1 := hr.lt
  have hr0 := HR.out.lt
  have hne2 : w2.heap.size ≠ w.heap.size + 1 := by omega
  have hne3 : w2.heap.size ≠ w.heap.size := by omega
  have ZB := Lib.hid (ZA.out.only ho hne)
  have E2 := Lib.hid (E1.out.trans (ho.below (B := w.heap.size) (by omega) (by omega)))
  have HR2 := Lib.hid hr
  have HI := Lib.hid hin
  have HF := Lib.hid hf
  have hab : ∀ b o, a' = some ⟨b, o, none⟩ → w.heap.size + 1 < b := fun b o e => by have := hlb b o e; omega
  have HAB := Lib.hid hab
  clear hr ho HR E1 ZA hin hf hlb hab
  obtain ⟨W3, hW3⟩ : ∃ W3, w2.alloc (.cells #[.int .i64 ep, .slice a' vs.length c] 90) = W3 := ⟨_, rfl⟩
  have b3 : Below w2.heap.size w2 W3 := by rw [← hW3]; exact (Below.refl _ _).alloc (Nat.le_refl _) _
  have s0 : W3.cell? ⟨w2.heap.size, 0, none⟩ = some (.int .i64 ep) := by rw [← hW3]; simp
  have s1 : W3.cell? ⟨w2.heap.size, 1, none⟩ = some (.slice a' vs.length c) := by rw [← hW3]; simp
  have s2 : w2.heap.size < W3.heap.size := by rw [← hW3]; simp
  have ZC := Lib.hid (ZB.out.below b3)
  have HR3 := Lib.hid (HR2.out.below b3)
  have HI3 := Lib.hid (HI.out.below b3)
  have E3 := Lib.hid (E2.out.trans (b3.mono E2.out.size))
  clear b3 ZB HR2 HI E2
  go_wp2_with fail
  clear hW3
  refine (pick_any (w.heap.size + 1) q 3 _ HR3.out (by omega) (by omega) (by omega)).mono ?_
  rintro e w4 ⟨n, hn0, hn1, rfl, hr, ho⟩
  have ZD := Lib.hid (ZC.out.only ho hne)
  have t0 := (ho.cell (p := ⟨w2.heap.size, 0, none⟩) s2 hne2).trans s0
  have t1 := (ho.cell (p := ⟨w2.heap.size, 1, none⟩) s2 hne2).trans s1
  have t2 : w2.heap.size < w4.heap.size := Nat.lt_of_lt_of_le s2 ho.size
  have HR4 := Lib.hid hr
  have HI4 := Lib.hid (HI3.out.turned (S := fun k => k = w.heap.size + 1) (fun b o e k => by have := HAB.out b o e; omega) ho.turned)
  have E4 := Lib.hid (E3.out.trans (ho.below (B := w.heap.size) (by omega) (by omega)))
  clear hr ho HR3 HI3 E3 ZC s0 s1 s2
  by_cases hn : 0 < n
  · have hzd : decide (0 < n) = true := by simpa using hn
    go_wp2_with fail
    refine (l5Ok_any ep a' vs c _ HI4.out HF.out (by unfold maxLen; omega)).mono ?_
    rintro e w5 ⟨b, rfl, hb, hbl⟩
    have HOK := Lib.hid hb
    have ZE := Lib.hid (ZD.out.below hbl)
    have s0 := (hbl.cell (p := ⟨w2.heap.size, 0, none⟩) t2).trans t0
    have s1 := (hbl.cell (p := ⟨w2.heap.size, 1, none⟩) t2).trans t1
    have s2 : w2.heap.size < w5.heap.size := Nat.lt_of_lt_of_le t2 hbl.size
    have HR5 := Lib.hid (HR4.out.below hbl)
    have HI5 := Lib.hid (HI4.out.below hbl)
    have E5 := Lib.hid (E4.out.trans (hbl.mono E4.out.size))
    clear hb hbl t0 t1 t2 HR4 HI4 E4 ZD
    cases b
    · go_wp2_with fail
      have q0 : w5.cell? ⟨w2.heap.size, 0, none⟩ = some (.int .i64 ep) ∧ w5.cell? ⟨w2.heap.size, 1, none⟩ = some (.slice a' vs.length c) ∧ w2.heap.size < w5.heap.size := ⟨s0, s1, s2⟩
      have qq := q0
      go_region_held3 (fun u => u.cell? ⟨w2.heap.size, 0, none⟩ = some (.int .i64 ep) ∧ u.cell? ⟨w2.heap.size, 1, none⟩ = some (.slice a' vs.length c) ∧ w2.heap.size < u.heap.size)
        (first | with_reducible exact qq | with_reducible exact keepD_drew qq | with_reducible exact keepD_alloc qq | with_reducible exact keepD_drew (keepD_alloc qq) | with_reducible exact keepD_set hne3 qq | fail)
        (first
          | (go_at_call 115; (with_reducible refine (l20AnyKnown_any (w.heap.size + 1) (q + 1) _ HR5.out.drew (by omega)).mono ?_); rintro e v9 ⟨us, ub, uc, q9, hq9, rfl, hk9, hc91, hc92, hr9, ho9⟩; have hoo : Only (w.heap.size + 1) w5 v9 := ((Only.refl (w.heap.size + 1) w5).drew).trans ho9; have qq := keepD_only' hoo hne2 q0; have p0 := qq.1; have p1 := qq.2.1; have p2 := qq.2.2; have HK9 := Lib.hid hk9; have HI9 := Lib.hid (HI5.out.turned (S := fun k => k = w.heap.size + 1) (fun b o e k => by have := HAB.out b o e; omega) hoo.turned); have u0 := (ZE.out.only hoo hne).c0; have u1 := (ZE.out.only hoo hne).c1; have u2 := (ZE.out.only hoo hne).f0; have u3 := (ZE.out.only hoo hne).f1; have u4 := (ZE.out.only hoo hne).lt; have E9 := Lib.hid (E5.out.trans (hoo.below (B := w.heap.size) (by omega) (by omega))); have hlt9 : w.heap.size < w5.heap.size := (by omega); clear hr9 ho9 hk9)
          | fail)
      all_goals
        clear hoo
        go_wp2_with fail
        refine bodyPost_ret (v := .tuple #[.slice (some ⟨ub, 0, none⟩) us.length uc, .agg #[.int .i64 ep, .slice a' vs.length c]]) (by simp [results, Try.results61, go_sem, u0, u1]) rfl ⟨us, _, uc, ep, vs, a', c, rfl, ?_, ?_⟩
        · exact kpSet ⟨HK9.out.inn, HK9.out.fits, HK9.out.len, ⟨hc91, hc92⟩, HI9.out, HF.out, by omega⟩ (fun b o e => by cases e; have := HK9.out.la; simp at this; omega) (fun b o e => by have := HAB.out b o e; omega)
        · exact (E9.out.setCell (p := ⟨w.heap.size, 0, none⟩) (Nat.le_refl _) _).setCell (p := ⟨w.heap.size, 1, none⟩) (Nat.le_refl _) _
    · have HP := Lib.hid (HOK.out.1 rfl)
      go_wp2_with fail
      refine (specRouteAllC_any ep a' vs c _ HI5.out HF.out (by omega)).mono ?_
      rintro e w6 ⟨us, hrel, al, cl, rfl, hat, hbl, hcl1, hcl2⟩
      obtain rfl : us = kRows ep vs vs.length := by
        rcases hrel with ⟨_, h⟩ | ⟨h, _⟩
        · exact h
        · exact absurd HP.out h
      have hul : (kRows ep vs vs.length).length = vs.length := kRows_len _ _ _
      obtain ⟨us, hus⟩ : ∃ us, us = kRows ep vs vs.length := ⟨_, rfl⟩
      rw [← hus] at hul hat hcl1
      rw [← hus]
      have HUS := Lib.hid hus
      have hu0 : 0 < us.length := by omega
      have hu6 : us.length ≤ 5 := by omega
      have HUL := Lib.hid hul
      clear hul
      have huf : ∀ u ∈ us, u.fits := by rw [hus]; exact kRows_fits HF.out _
      have HUF := Lib.hid huf
      have hlw : ∀ b o, al = some ⟨b, o, none⟩ → w5.heap.size ≤ b := fun b o e => (hat.l1 b o e).1
      have HLW := Lib.hid hlw
      have hag : ∃ g o, al = some ⟨g, o, none⟩ := by
        rcases hat.in1 with h | ⟨g, o, e, _⟩
        · rw [h] at hu0; simp at hu0
        · exact ⟨g, o, e⟩
      obtain ⟨lg, lo, rfl⟩ := hag
      have hlg := hlw lg lo rfl
      have ZF := Lib.hid (ZE.out.below hbl)
      have t0 := (hbl.cell (p := ⟨w2.heap.size, 0, none⟩) s2).trans s0
      have t1 := (hbl.cell (p := ⟨w2.heap.size, 1, none⟩) s2).trans s1
      have t2 : w2.heap.size < w6.heap.size := Nat.lt_of_lt_of_le s2 hbl.size
      have hs56 : w5.heap.size ≤ w6.heap.size := hbl.size
      have HR6 := Lib.hid (HR5.out.below hbl)
      have HI6 := Lib.hid (HI5.out.below hbl)
      have E6 := Lib.hid (E5.out.trans (hbl.mono E5.out.size))
      have HL6 := Lib.hid hat.in1
      clear hus huf hlw hat hbl hrel s0 s1 HR5 HI5 E5 ZE
      go_wp2_with fail
      refine (pick_any (w.heap.size + 1) (q + 1) 3 _ HR6.out (by omega) (by omega) (by omega)).mono ?_
      rintro e w7 ⟨n7, hn70, hn71, rfl, hr, ho⟩
      have ZG := Lib.hid (ZF.out.only ho hne)
      have s0 := (ho.cell (p := ⟨w2.heap.size, 0, none⟩) t2 hne2).trans t0
      have s1 := (ho.cell (p := ⟨w2.heap.size, 1, none⟩) t2 hne2).trans t1
      have s3 : w2.heap.size < w7.heap.size := Nat.lt_of_lt_of_le t2 ho.size
      have HR7 := Lib.hid hr
      have HI7 := Lib.hid (HI6.out.turned (S := fun k => k = w.heap.size + 1) (fun b o e k => by have := HAB.out b o e; omega) ho.turned)
      have HL7 := Lib.hid (HL6.out.turned (S := fun k => k = w.heap.size + 1) (fun b o e k => by have := HLW.out b o e; omega) ho.turned)
      have E7 := Lib.hid (E6.out.trans (ho.below (B := w.heap.size) (by omega) (by omega)))
      clear hr ho t0 t1 HR6 HI6 HL6 E6 ZF
      have q0 : w7.cell? ⟨w2.heap.size, 0, none⟩ = some (.int .i64 ep) ∧ w7.cell? ⟨w2.heap.size, 1, none⟩ = some (.slice a' vs.length c) ∧ w2.heap.size < w7.heap.size := ⟨s0, s1, s3⟩
      have qq := q0
      by_cases hz : n7 = 0
      · subst hz
        go_wp2_with fail
        go_region_held3 (fun u => u.cell? ⟨w2.heap.size, 0, none⟩ = some (.int .i64 ep) ∧ u.cell? ⟨w2.heap.size, 1, none⟩ = some (.slice a' vs.length c) ∧ w2.heap.size < u.heap.size)
          (first | with_reducible exact qq | with_reducible exact keepD_drew qq | with_reducible exact keepD_alloc qq | with_reducible exact keepD_drew (keepD_alloc qq) | with_reducible exact keepD_set hne3 qq | fail)
          (first
            | (go_at_call 75; (with_reducible refine (pick_any (w.heap.size + 1) (q + 1 + 1) (us.length : Int) _ HR7.out.drew (by omega) (by omega) (by omega)).mono ?_); rintro e v9 ⟨n9, hn90, hn91, rfl, hr9, ho9⟩; obtain ⟨k, rfl⟩ := Int.eq_ofNat_of_zero_le hn90; have hoo : Only (w.heap.size + 1) w7 v9 := ((Only.refl (w.heap.size + 1) w7).drew).trans ho9; have qq := keepD_only' hoo hne2 q0; have p0 := qq.1; have p1 := qq.2.1; have p2 := qq.2.2; have HI9 := Lib.hid (HI7.out.turned (S := fun k => k = w.heap.size + 1) (fun b o e k => by have := HAB.out b o e; omega) hoo.turned); have HL9 := Lib.hid (HL7.out.turned (S := fun k => k = w.heap.size + 1) (fun b o e k => by have := HLW.out b o e; omega) hoo.turned); have u0 := (ZG.out.only hoo hne).c0; have u1 := (ZG.out.only hoo hne).c1; have u2 := (ZG.out.only hoo hne).f0; have u3 := (ZG.out.only hoo hne).f1; have u4 := (ZG.out.only hoo hne).lt; have E9 := Lib.hid (E7.out.trans (hoo.below (B := w.heap.size) (by omega) (by omega))); have hk1 : k ≤ us.length := (by omega); have hk2 : (k : Int) ≤ (us.length : Int) := (by omega); have hk3 : us.length ≤ cl := hcl1; have hk4 : (us.length : Int) ≤ (cl : Int) := (by omega); have hk5 : (0 : Int) ≤ (k : Int) := (by omega); clear hr9 ho9)
            | fail)
        all_goals
          clear hoo
          go_wp2_with fail
          refine bodyPost_ret (v := .tuple #[.slice (some ⟨lg, lo + k * 4, none⟩) (us.length - k) (cl - k), .agg #[.int .i64 ep, .slice a' vs.length c]]) (by simp [results, Try.results61, go_sem, u0, u1]) rfl ⟨us.drop k, _, cl - k, ep, vs, a', c, by rw [List.length_drop], ?_, ?_⟩
          · exact kpSet ⟨kn_drop HL9.out, fun u hu => HUF.out u (List.mem_of_mem_drop hu), by rw [List.length_drop]; omega, ⟨by rw [List.length_drop]; omega, by omega⟩, HI9.out, HF.out, by omega⟩ (fun b o e => by cases e; omega) (fun b o e => by have := HAB.out b o e; omega)
          · exact (E9.out.setCell (p := ⟨w.heap.size, 0, none⟩) (Nat.le_refl _) _).setCell (p := ⟨w.heap.size, 1, none⟩) (Nat.le_refl _) _
      · have hz0 : (n7 == 0) = false := by simpa using hz
        go_wp2_with fail
        have hw7 : w.heap.size + 1 < w7.heap.size := by omega
        go_cut [7, 8] from 32 (fun p t u => (∃ b, t = .bool b) ∧ NewPm (w.heap.size + 1) w7 p u)
        case first =>
          go_region_held3 (fun u => u.cell? ⟨w2.heap.size, 0, none⟩ = some (.int .i64 ep) ∧ u.cell? ⟨w2.heap.size, 1, none⟩ = some (.slice a' vs.length c) ∧ w2.heap.size < u.heap.size)
            (first | with_reducible exact qq | with_reducible exact keepD_drew qq | with_reducible exact keepD_alloc qq | with_reducible exact keepD_drew (keepD_alloc qq) | with_reducible exact keepD_set (by omega) qq | fail)
            (first
              | (go_at_call 100; (with_reducible refine (l20Key_any (w.heap.size + 1) (q + 1 + 1) _ (by first | with_reducible exact HR7.out.drew | with_reducible exact (HR7.out.alloc _).drew) (by omega)).mono ?_); rintro e v1 ⟨key, hkey, rfl, hr1', ho1⟩; have hoo : Only (w.heap.size + 1) w7 v1 := (by first | with_reducible exact ((Only.refl (w.heap.size + 1) w7).drew).trans ho1 | with_reducible exact (((Only.refl (w.heap.size + 1) w7).alloc _).drew).trans ho1); have qq := keepD_only' hoo hne2 q0; (try ((first | with_reducible refine of_newZ ho1 (by omega) ?_ | with_reducible refine of_newZD ho1 (by omega) ?_ | with_reducible refine of_carryZ ho1 zn (by omega) ?_); intro zn; have zn0 := zn.c0; have zn1 := zn.c1; have zn2 := zn.f0; have zn3 := zn.f1; have zn4 := zn.lt)); have HR8 := Lib.hid hr1'; have sz1 : w7.heap.size ≤ v1.heap.size := hoo.size; clear hr1' ho1)
              | (go_at_call 75; (with_reducible refine (pick_any (w.heap.size + 1) (q + 1 + 1 + 1) 3 _ (by first | with_reducible exact HR8.out | with_reducible exact HR8.out.alloc _) (by omega) (by omega) (by omega)).mono ?_); rintro e v2 ⟨n2, hn20, hn21, rfl, hr2', ho2⟩; have hoo2 : Only (w.heap.size + 1) w7 v2 := (by first | with_reducible exact hoo.trans ho2 | with_reducible exact (hoo.alloc _).trans ho2); have qq := keepD_only' hoo2 hne2 q0; (try ((first | with_reducible refine of_newZ ho2 (by omega) ?_ | with_reducible refine of_carryZ ho2 zn (by omega) ?_); intro zn; have zn0 := zn.c0; have zn1 := zn.c1; have zn2 := zn.f0; have zn3 := zn.f1; have zn4 := zn.lt)); have sz2 : w7.heap.size ≤ v2.heap.size := hoo2.size; have HI8 := Lib.hid (HI7.out.turned (S := fun k => k = w.heap.size + 1) (fun b o e k => by have := HAB.out b o e; omega) hoo2.turned); clear hr2' ho2)
              | (go_at_call 125; (try have zl := zn.lt); (with_reducible refine (specPmapSplit_any ep a' vs c key n2 _ (by first | with_reducible exact HI8.out | with_reducible exact HI8.out.below ((Below.refl _ _).alloc (Nat.le_refl _) _)) HF.out (by omega) hc1 hc2 hkey).mono ?_); rintro e v3 ⟨ep3, vs3, b3, hrel3, ax, cx, rfl, hat3, hb3⟩; have ho3 := Only.of_below (rb := w.heap.size + 1) hb3; have hoo3 : Only (w.heap.size + 1) w7 v3 := (by first | with_reducible exact hoo2.trans ho3 | with_reducible exact (hoo2.alloc _).trans ho3); have qq := keepD_only' hoo3 hne2 q0; (try ((first | with_reducible refine of_newZ ho3 (by omega) ?_ | with_reducible refine of_carryZ ho3 zn (by omega) ?_); intro zn; have zn0 := zn.c0; have zn1 := zn.c1; have zn2 := zn.f0; have zn3 := zn.f1; have zn4 := zn.lt)); have HO3 := Lib.hid hoo3; have HAT := Lib.hid hat3; have HRL := Lib.hid hrel3; have sz3 : w7.heap.size ≤ v3.heap.size := hoo3.size; clear hrel3 hat3 hb3 ho3)
              | fail)
          all_goals (go_wp2_with fail; go_meet)
          all_goals
            have hvl := PmapSplitRel_len HRL.out
            first | exact ⟨⟨_, rfl⟩, newPm_A HO3.out HAT.out (split_fits HRL.out HF.out hkey) (by omega) (by first | omega | (simp; omega))⟩ | exact ⟨⟨_, rfl⟩, newPm_B HO3.out HAT.out (split_fits HRL.out HF.out hkey) (by omega) (by first | omega | (simp; omega)) zn (by omega) (by first | omega | (simp; omega) | simp)⟩
        case rest =>
          obtain ⟨⟨b8, rfl⟩, g, ep3, vs3, ax, cx, rfl, hoo, hg1, hg2, e0, e1, hin3, hf3, hn3, hl3⟩ := hcut
          obtain ⟨w8, rfl⟩ : ∃ x, x = wc := ⟨_, rfl⟩
          have HL8 := Lib.hid (HL7.out.turned (S := fun k => k = w.heap.size + 1) (fun b o e k => by have := HLW.out b o e; omega) hoo.turned)
          have u0 := (ZG.out.only hoo hne).c0
          have u1 := (ZG.out.only hoo hne).c1
          have u2 := (ZG.out.only hoo hne).f0
          have u3 := (ZG.out.only hoo hne).f1
          have u4 := (ZG.out.only hoo hne).lt
          have E8 := Lib.hid (E7.out.trans (hoo.below (B := w.heap.size) (by omega) (by omega)))
          have hgw : g ≠ w.heap.size := by omega
          have HI8 := Lib.hid hin3
          have HL3 := Lib.hid hl3
          have HF3 := Lib.hid hf3
          clear hoo hin3 hl3 hf3
          go_wp2_with fail
          go_region
          go_wp2_with fail
          refine bodyPost_ret (v := .tuple #[.slice (some ⟨lg, lo, none⟩) us.length cl, .agg #[.int .i64 ep3, .slice ax vs3.length cx]]) (by simp [results, Try.results61, go_sem, u0, u1]) rfl ⟨us, _, cl, ep3, vs3, ax, cx, rfl, ?_, ?_⟩
          · first
            | exact kpSet (n := w.heap.size) ⟨HL8.out, HUF.out, by omega, ⟨hcl1, hcl2⟩, HI8.out, HF3.out, hn3⟩ (fun b o e => by cases e; omega) (fun b o e => by have := HL3.out b o e; omega)
            | exact (kpSet (n := w.heap.size) ⟨HL8.out, HUF.out, by omega, ⟨hcl1, hcl2⟩, HI8.out, HF3.out, hn3⟩ (fun b o e => by cases e; omega) (fun b o e => by have := HL3.out b o e; omega)).below ((Below.refl _ _).drew)
          · first
            | exact (E8.out.setCell (p := ⟨w.heap.size, 0, none⟩) (Nat.le_refl _) _).setCell (p := ⟨w.heap.size, 1, none⟩) (Nat.le_refl _) _
            | exact ((E8.out.setCell (p := ⟨w.heap.size, 0, none⟩) (Nat.le_refl _) _).setCell (p := ⟨w.heap.size, 1, none⟩) (Nat.le_refl _) _).drew
            | exact ((E8.out.drew).setCell (p := ⟨w.heap.size, 0, none⟩) (Nat.le_refl _) _).setCell (p := ⟨w.heap.size, 1, none⟩) (Nat.le_refl _) _
  · have hzd : decide (0 < n) = false := by simpa using hn
    go_wp2_with fail
    have q0 : w4.cell? ⟨w2.heap.size, 0, none⟩ = some (.int .i64 ep) ∧ w4.cell? ⟨w2.heap.size, 1, none⟩ = some (.slice a' vs.length c) ∧ w2.heap.size < w4.heap.size := ⟨t0, t1, t2⟩
    have qq := q0
    go_region_held3 (fun u => u.cell? ⟨w2.heap.size, 0, none⟩ = some (.int .i64 ep) ∧ u.cell? ⟨w2.heap.size, 1, none⟩ = some (.slice a' vs.length c) ∧ w2.heap.size < u.heap.size)
      (first | with_reducible exact qq | with_reducible exact keepD_drew qq | with_reducible exact keepD_alloc qq | with_reducible exact keepD_drew (keepD_alloc qq) | with_reducible exact keepD_set hne3 qq | fail)
      (first
        | (go_at_call 115; (with_reducible refine (l20AnyKnown_any (w.heap.size + 1) (q + 1) _ HR4.out.drew (by omega)).mono ?_); rintro e v9 ⟨us, ub, uc, q9, hq9, rfl, hk9, hc91, hc92, hr9, ho9⟩; have hoo : Only (w.heap.size + 1) w4 v9 := ((Only.refl (w.heap.size + 1) w4).drew).trans ho9; have qq := keepD_only' hoo hne2 q0; have p0 := qq.1; have p1 := qq.2.1; have p2 := qq.2.2; have HK9 := Lib.hid hk9; have HI9 := Lib.hid (HI4.out.turned (S := fun k => k = w.heap.size + 1) (fun b o e k => by have := HAB.out b o e; omega) hoo.turned); have u0 := (ZD.out.only hoo hne).c0; have u1 := (ZD.out.only hoo hne).c1; have u2 := (ZD.out.only hoo hne).f0; have u3 := (ZD.out.only hoo hne).f1; have u4 := (ZD.out.only hoo hne).lt; have E9 := Lib.hid (E4.out.trans (hoo.below (B := w.heap.size) (by omega) (by omega))); have hlt9 : w.heap.size < w4.heap.size := (by omega); clear hr9 ho9 hk9)
        | fail)
    all_goals
      clear hoo
      go_wp2_with fail
      refine bodyPost_ret (v := .tuple #[.slice (some ⟨ub, 0, none⟩) us.length uc, .agg #[.int .i64 ep, .slice a' vs.length c]]) (by simp [results, Try.results61, go_sem, u0, u1]) rfl ⟨us, _, uc, ep, vs, a', c, rfl, ?_, ?_⟩
      · exact kpSet ⟨HK9.out.inn, HK9.out.fits, HK9.out.len, ⟨hc91, hc92⟩, HI9.out, HF.out, by omega⟩ (fun b o e => by cases e; have := HK9.out.la; simp at this; omega) (fun b o e => by have := HAB.out b o e; omega)
      · exact (E9.out.setCell (p := ⟨w.heap.size, 0, none⟩) (Nat.le_refl _) _).setCell (p := ⟨w.heap.size, 1, none⟩) (Nat.le_refl _) _
end Go.Proofs.Ytjijichgoodocaa
