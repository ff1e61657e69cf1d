/- Drawing a map of parts. -/
import Derived.Test.YtjijichgoodocaaPmFindI
import Derived.Test.YtjijichgoodocaaPmSpT
namespace Go.Proofs.Ytjijichgoodocaa
open Go.RowKit

def SomePm (rb p : Nat) (w : World) (e : Ending) (w' : World) : Prop := ∃ (ep : Int) (vs : List RowD) (a : Option Addr) (c q : Nat), q ≤ p ∧ PmapOkP ep vs ∧ e = .returned (.agg #[.int .i64 ep, .slice a vs.length c]) ∧ RowsIn w' a vs ∧ Free w' a (vs.length * 2) ∧ Lies w.heap.size w'.heap.size a ∧ (∀ v ∈ vs, v.fits) ∧ vs.length ≤ c ∧ c ≤ maxLen ∧ RdAt rb q w' ∧ Only rb w w'

theorem Only.turned {rb : Nat} {w w' : World} (h : Only rb w w') : Turned (fun b => b = rb) w w' := ⟨h.os, h.tape, h.output, h.size, fun k hk hn => h.block k hk hn⟩
theorem pmapOk_fits {ep : Int} {vs : List RowD} (h : PmapOkP ep vs) : ∀ v ∈ vs, v.fits := fun v hv => by
  have h1 := (pmapOk_rows h v hv).1
  unfold okB at h1
  rw [Bool.and_eq_true] at h1
  have h2 := of_decide_eq_true h1.1
  show v.f0.size ≤ maxLen
  unfold maxLen; omega
/-- The map of parts in its box, while it is drawn. -/
structure Pl (rb B : Nat) (w wr : World) (ep : Int) (vs : List RowD) (a : Option Addr) (c : Nat) : Prop where
  ok : PmapOkP ep vs
  c0 : wr.cell? ⟨B, 0, none⟩ = some (.int .i64 ep)
  c1 : wr.cell? ⟨B, 1, none⟩ = some (.slice a vs.length c)
  f0 : wr.frozen? ⟨B, 0, none⟩ = false
  f1 : wr.frozen? ⟨B, 1, none⟩ = false
  inn : RowsIn wr a vs
  off : ∀ b o, a = some ⟨b, o, none⟩ → b ≠ B ∧ w.heap.size ≤ b
  cap : vs.length ≤ c ∧ c ≤ maxLen
  lt : B < wr.heap.size
  only : Only rb w wr
theorem Pl.go {rb B : Nat} {w wr u : World} {ep : Int} {vs : List RowD} {a : Option Addr} {c : Nat} (h : Pl rb B w wr ep vs a c) (ho : Only rb wr u) (hB : B ≠ rb) (hrb : rb < w.heap.size) : Pl rb B w u ep vs a c :=
  ⟨h.ok, (ho.cell (p := ⟨B, 0, none⟩) h.lt hB).trans h.c0, (ho.cell (p := ⟨B, 1, none⟩) h.lt hB).trans h.c1, (ho.frozen (p := ⟨B, 0, none⟩) h.lt hB).trans h.f0, (ho.frozen (p := ⟨B, 1, none⟩) h.lt hB).trans h.f1,
    h.inn.turned (fun b o e k => by have := (h.off b o e).2; omega) ho.turned, h.off, h.cap, Nat.lt_of_lt_of_le h.lt ho.size, h.only.trans ho⟩
theorem Pl.below {rb B : Nat} {w wr u : World} {ep : Int} {vs : List RowD} {a : Option Addr} {c : Nat} (h : Pl rb B w wr ep vs a c) (hb : Below wr.heap.size wr u) (hB : B ≠ rb) (hrb : rb < w.heap.size) : Pl rb B w u ep vs a c := h.go (Only.of_below hb) hB hrb
/-- The box is turned: the new map lies in new blocks. -/
theorem Pl.set {rb B : Nat} {w wr u : World} {ep ep' : Int} {vs vs' : List RowD} {a a' : Option Addr} {c c' : Nat} (h : Pl rb B w wr ep vs a c) (hb : Below wr.heap.size wr u) (hB : B ≠ rb) (hrb : rb < w.heap.size) (hBw : w.heap.size ≤ B) (hok : PmapOkP ep' vs') (hat : PmAt u wr.heap.size u.heap.size a' vs') (hc : vs'.length ≤ c' ∧ c' ≤ maxLen) :
    Pl rb B w ((u.setCell ⟨B, 0, none⟩ (.int .i64 ep')).setCell ⟨B, 1, none⟩ (.slice a' vs'.length c')) ep' vs' a' c' := by
  have h1 := h.below hb hB hrb
  have e0 := h1.c0
  have e1 := h1.c1
  have q0 := h1.f0
  have q1 := h1.f1
  have ht : Turned (fun b => b = B) u ((u.setCell ⟨B, 0, none⟩ (.int .i64 ep')).setCell ⟨B, 1, none⟩ (.slice a' vs'.length c')) := ((Turned.refl (fun b => b = B) u).setCell (p := ⟨B, 0, none⟩) rfl _).setCell (p := ⟨B, 1, none⟩) rfl _
  have hl := h.lt
  refine ⟨hok, ?_, ?_, ?_, ?_, (hat.turned (fun b k1 k2 e => by omega) ht).in1, fun b o e => ?_, hc, by simpa using h1.lt, (h1.only.setNew (p := ⟨B, 0, none⟩) hBw _).setNew (p := ⟨B, 1, none⟩) hBw _⟩
  · simp [go_sem, e0]
  · exact World.cell?_setCell_same' _ _ _ (by simp [go_sem, e1])
  · simp [go_sem, q0]
  · simp [go_sem, q1]
  · have := hat.l1 b o e
    have hs := h.only.size
    exact ⟨by omega, by omega⟩

theorem find_exK (vs : List RowD) (key : ByteArray) : ∀ m, 1 ≤ m → ∃ k, k < m ∧ (∀ i, 1 ≤ i → i ≤ k → leB (loOf vs i) key = true) ∧ (k + 1 < m → leB (loOf vs (k + 1)) key = false)
  | 0, h => absurd h (by omega)
  | m + 1, _ => by
    by_cases m0 : m = 0
    · subst m0
      exact ⟨0, by omega, fun i h1 h2 => by omega, fun h => by omega⟩
    · obtain ⟨k, h1, h2, h3⟩ := find_exK vs key m (by omega)
      by_cases e : k + 1 < m
      · exact ⟨k, by omega, h2, fun _ => h3 e⟩
      · cases hl : leB (loOf vs (k + 1)) key
        · exact ⟨k, by omega, h2, fun _ => hl⟩
        · refine ⟨k + 1, by omega, fun i q1 q2 => ?_, fun h => by omega⟩
          by_cases q : i = k + 1
          · subst q; exact hl
          · exact h2 i q1 (by omega)
theorem findAt_ex {ep : Int} {vs : List RowD} (h : PmapOkP ep vs) (key : ByteArray) : ∃ k, FindAt vs key k := by
  obtain ⟨k, h1, h2, h3⟩ := find_exK vs key vs.length h.pos
  exact ⟨k, ⟨h1, h2⟩, h3⟩
/-- The box of the result. -/
structure Rs (rb : Nat) (w wr : World) : Prop where
  c0 : wr.cell? ⟨w.heap.size, 0, none⟩ = some (.int .i64 0)
  c1 : wr.cell? ⟨w.heap.size, 1, none⟩ = some (.slice none 0 0)
  f0 : wr.frozen? ⟨w.heap.size, 0, none⟩ = false
  f1 : wr.frozen? ⟨w.heap.size, 1, none⟩ = false
theorem Rs.go {rb B : Nat} {w wr u : World} (h : Rs rb w wr) (ho : Only rb wr u) (hrb : rb < w.heap.size) (hB : w.heap.size + B < wr.heap.size) : Rs rb w u :=
  ⟨(ho.cell (p := ⟨w.heap.size, 0, none⟩) (show w.heap.size < wr.heap.size by omega) (show w.heap.size ≠ rb by omega)).trans h.c0, (ho.cell (p := ⟨w.heap.size, 1, none⟩) (show w.heap.size < wr.heap.size by omega) (show w.heap.size ≠ rb by omega)).trans h.c1, (ho.frozen (p := ⟨w.heap.size, 0, none⟩) (show w.heap.size < wr.heap.size by omega) (show w.heap.size ≠ rb by omega)).trans h.f0, (ho.frozen (p := ⟨w.heap.size, 1, none⟩) (show w.heap.size < wr.heap.size by omega) (show w.heap.size ≠ rb by omega)).trans h.f1⟩
theorem Rs.set {rb B : Nat} {w u : World} (h : Rs rb w u) (hB : w.heap.size ≠ B) (x y : Value) : Rs rb w ((u.setCell ⟨B, 0, none⟩ x).setCell ⟨B, 1, none⟩ y) := by
  have e : ((u.setCell ⟨B, 0, none⟩ x).setCell ⟨B, 1, none⟩ y).heap[w.heap.size]? = u.heap[w.heap.size]? := (Below.heap_setCell _ ⟨B, 1, none⟩ _ _ hB).trans (Below.heap_setCell _ ⟨B, 0, none⟩ _ _ hB)
  exact ⟨(World.cell?_of_block (a := ⟨w.heap.size, 0, none⟩) e).trans h.c0, (World.cell?_of_block (a := ⟨w.heap.size, 1, none⟩) e).trans h.c1, (World.frozen?_of_block (a := ⟨w.heap.size, 0, none⟩) e).trans h.f0, (World.frozen?_of_block (a := ⟨w.heap.size, 1, none⟩) e).trans h.f1⟩

set_option maxRecDepth 100000 in
set_option maxHeartbeats 4000000 in
theorem l20Pmap_any (rb p : Nat) (w : World) (h : RdAt rb p w) (hp : p < 100000) :
    Calls Try.prog 161 #[.pointer (some ⟨rb, 0, none⟩)] w (SomePm rb (p + 30) w) := by
  have H := Lib.hid h
  have hrb := h.lt
  clear h
  obtain ⟨W1, hW1⟩ : ∃ W1, ((w.alloc (.cells #[.int .i64 0, .slice none 0 0] 90)).alloc (.cells #[.string ⟨#[]⟩, .int .i64 0] 98)).alloc (.cells #[.int .i64 1, .slice (some ⟨w.heap.size + 1, 0, none⟩) 1 1] 90) = W1 := ⟨_, rfl⟩
  go_enter Try.func161, Try.ntmps161
  go_wp2_with fail
  have y1 : w.heap.size + 3 = W1.heap.size := by rw [← hW1]; simp
  have hbW : Below w.heap.size w W1 := by rw [← hW1]; exact (((Below.refl _ _).alloc (Nat.le_refl _) _).alloc (by simp) _).alloc (by simp <;> omega) _
  have hR1 := H.out.below hbW
  have P1 : Pl rb (w.heap.size + 2) w W1 1 [⟨⟨#[]⟩, 0⟩] (some ⟨w.heap.size + 1, 0, none⟩) 1 := by
    refine ⟨pmapOk_mk (fun v hv => by rw [List.mem_singleton] at hv; subst hv; exact ⟨by decide +kernel, by decide⟩) (fun _ => nil_toList) (by simp) (by decide) (by decide), by rw [← hW1]; simp [go_sem], by rw [← hW1]; simp [go_sem], by rw [← hW1]; simp [go_sem], by rw [← hW1]; simp [go_sem], .inr ⟨_, _, rfl, by omega, fun i hi => ?_⟩, fun b o e => by cases e; omega, ⟨by simp, by unfold maxLen; omega⟩, by omega, Only.of_below hbW⟩
    simp at hi
    subst hi
    rw [← hW1]; simp [go_sem]
  have HP1 := Lib.hid P1
  have HR1 := Lib.hid hR1
  have r0 : W1.cell? ⟨w.heap.size, 0, none⟩ = some (.int .i64 0) := by rw [← hW1]; simp [go_sem]
  have r1 : W1.cell? ⟨w.heap.size, 1, none⟩ = some (.slice none 0 0) := by rw [← hW1]; simp [go_sem]
  have q0 : W1.frozen? ⟨w.heap.size, 0, none⟩ = false := by rw [← hW1]; simp [go_sem]
  have q1 : W1.frozen? ⟨w.heap.size, 1, none⟩ = false := by rw [← hW1]; simp [go_sem]
  clear P1 hR1 hbW hW1
  refine (pick_any rb p 6 _ HR1.out (by omega) (by omega) (by omega)).mono ?_
  rintro e w1 ⟨n, hn0, hn1, rfl, hr, ho⟩
  obtain ⟨m, rfl⟩ := Int.eq_ofNat_of_zero_le hn0
  have HP2 := Lib.hid (HP1.out.go ho (by omega) hrb)
  have HR2 := Lib.hid hr
  have hs1 := ho.size
  have R0 : Rs rb w w1 := ⟨(ho.cell (p := ⟨w.heap.size, 0, none⟩) (show w.heap.size < W1.heap.size by omega) (show w.heap.size ≠ rb by omega)).trans r0, (ho.cell (p := ⟨w.heap.size, 1, none⟩) (show w.heap.size < W1.heap.size by omega) (show w.heap.size ≠ rb by omega)).trans r1, (ho.frozen (p := ⟨w.heap.size, 0, none⟩) (show w.heap.size < W1.heap.size by omega) (show w.heap.size ≠ rb by omega)).trans q0, (ho.frozen (p := ⟨w.heap.size, 1, none⟩) (show w.heap.size < W1.heap.size by omega) (show w.heap.size ≠ rb by omega)).trans q1⟩
  have HRs := Lib.hid R0
  clear hr ho r0 r1 q0 q1 R0
  go_wp2_with fail
  go_loopw [4] (fun x wr => ∃ (m : Nat) (ep : Int) (vs : List RowD) (a : Option Addr) (c q : Nat), x = .int .i64 (m : Int) ∧ m ≤ 5 ∧ q + 3 * m ≤ p + 16 ∧ Pl rb (w.heap.size + 2) w wr ep vs a c ∧ RdAt rb q wr ∧ Rs rb w wr) (fun x _ => (intOf x).toNat)
  case atStart => exact ⟨m, _, _, _, _, p + 1, rfl, by omega, by omega, HP2.out, HR2.out, HRs.out⟩
  case round =>
    obtain ⟨m, ep, vs, a, c, q, rfl, hm, hq, hP, hr, hRs⟩ := hrel
    have HP := Lib.hid hP
    have HR := Lib.hid hr
    have HS := Lib.hid hRs
    cases m with
    | zero =>
      have c0 := hP.c0
      have c1 := hP.c1
      have k0 := hRs.f0
      have k1 := hRs.f1
      have j0 := hRs.c0
      have j1 := hRs.c1
      have hlt := hP.lt
      clear hP hr hRs
      have hpos : 0 < vs.length := HP.out.ok.pos
      have hle : vs.length ≤ 1048576 := by have := (inB_iff _ _ _).1 HP.out.ok.2.1; omega
      go_wp2_with fail
      refine (l5Copy_any ep a vs c _ HP.out.inn hpos hle).mono ?_
      rintro e w2 ⟨a2, c2, rfl, hat, hb, hc2, hcm2⟩
      have HP3 := Lib.hid (HP.out.below hb (by omega) hrb)
      have HS3 := Lib.hid (HS.out.go (Only.of_below hb) hrb hlt)
      have j0 := HS3.out.c0
      have j1 := HS3.out.c1
      have k0 := HS3.out.f0
      have k1 := HS3.out.f1
      have HA := Lib.hid hat
      have HR3 := Lib.hid (HR.out.below hb)
      have hs2 := hb.size
      have hw2 : w.heap.size < w2.heap.size := by omega
      clear hat hb
      go_wp2_with fail
      refine bodyPost_ret (v := .agg #[.int .i64 ep, .slice a2 vs.length c2]) (by simp [results, Try.results161, go_sem, *]) rfl ?_
      have ht : Turned (fun b => b = w.heap.size) w2 ((w2.setCell ⟨w.heap.size, 0, none⟩ (.int .i64 ep)).setCell ⟨w.heap.size, 1, none⟩ (.slice a2 vs.length c2)) := ((Turned.refl (fun b => b = w.heap.size) w2).setCell (p := ⟨w.heap.size, 0, none⟩) rfl _).setCell (p := ⟨w.heap.size, 1, none⟩) rfl _
      have hA2 := HA.out.turned (fun b k1 k2 e => by omega) ht
      exact ⟨ep, vs, a2, c2, q, by omega, HP.out.ok, rfl, hA2.in1, hA2.fr1, hA2.l1.mono (by omega) hA2.le, pmapOk_fits HP.out.ok, hc2, hcm2, (HR3.out.setNew (a := ⟨w.heap.size, 0, none⟩) hrb _).setNew (a := ⟨w.heap.size, 1, none⟩) hrb _, (HP3.out.only.setNew (p := ⟨w.heap.size, 0, none⟩) (Nat.le_refl _) _).setNew (p := ⟨w.heap.size, 1, none⟩) (Nat.le_refl _) _⟩
    | succ m =>
      have hle : vs.length ≤ 1048576 := by have := (inB_iff _ _ _).1 hP.ok.2.1; omega
      clear hP hr hRs
      have hm1 : ((m + 1 : Nat) : Int) > 0 := by omega
      go_wp2_with fail
      refine (l20Key_any rb q _ HR.out (by omega)).mono ?_
      rintro e w1 ⟨key, hkz, rfl, hr, ho⟩
      have HP1 := Lib.hid (HP.out.go ho (by omega) hrb)
      have HS1 := Lib.hid (HS.out.go (B := 1) ho hrb (by have := HP.out.lt; omega))
      have HR1 := Lib.hid hr
      clear hr ho
      go_wp2_with fail
      refine (pick_any rb (q + 1) 4 _ HR1.out (by omega) (by omega) (by omega)).mono ?_
      rintro e w2 ⟨n, hn0, hn1, rfl, hr, ho⟩
      have HP2 := Lib.hid (HP1.out.go ho (by omega) hrb)
      have HS2 := Lib.hid (HS1.out.go (B := 1) ho hrb (by have := HP1.out.lt; omega))
      have HR2 := Lib.hid hr
      clear hr ho
      have c0 := HP2.out.c0
      have c1 := HP2.out.c1
      have hlt := HP2.out.lt
      have k0 := HP2.out.f0
      have k1 := HP2.out.f1
      by_cases hz : n = 0
      · subst hz
        go_wp2_with fail
        refine (l5CanMerge_any ep a vs c 0 _ hle).mono ?_
        rintro e w3 ⟨b, rfl, hb, hbel⟩
        have HM := Lib.hid hb
        have HP3 := Lib.hid (HP2.out.below hbel (by omega) hrb)
        have HS3 := Lib.hid (HS2.out.go (B := 1) (Only.of_below hbel) hrb (by omega))
        have HR3 := Lib.hid (HR2.out.below hbel)
        clear hb hbel c0 c1 hlt k0 k1
        have c0 := HP3.out.c0
        have c1 := HP3.out.c1
        have hlt := HP3.out.lt
        have k0 := HP3.out.f0
        have k1 := HP3.out.f1
        cases b
        · go_wp2_with fail
          have hlez : vs.length ≤ 1048576 := by have := (inB_iff _ _ _).1 HP3.out.ok.2.1; omega
          refine (l5CanSplit_any ep a vs c key 0 _ HP3.out.inn HP3.out.ok hlez hkz).mono ?_
          rintro e w5 ⟨b, rfl, hb, hbel⟩
          have HC := Lib.hid hb
          have HP5 := Lib.hid (HP3.out.below hbel (by omega) hrb)
          have HS5 := Lib.hid (HS3.out.go (B := 1) (Only.of_below hbel) hrb (by have := HP3.out.lt; omega))
          have HR5 := Lib.hid (HR3.out.below hbel)
          clear hb hbel
          cases b
          · go_wp2_with fail
            go_roundw
            case rel => exact ⟨m, ep, vs, a, c, q + 1 + 1, by go_num, by omega, by omega, HP5.out, HR5.out, HS5.out⟩
            case measure => simp [intOf]
          · have e0 := HP5.out.c0
            have e1 := HP5.out.c1
            have g0 := HP5.out.f0
            have g1 := HP5.out.f1
            have elt := HP5.out.lt
            go_wp2_with fail
            have hep5 := (inB_iff _ _ _).1 HP5.out.ok.2.2
            obtain ⟨kf, hF⟩ := findAt_ex HP5.out.ok key
            have HFi := Lib.hid hF
            have hcs := HC.out.1 (by simp)
            have HCS := Lib.hid hcs
            have hep99 : ep < 99 := hcs.2.2.2.1
            have HP5d := Lib.hid (HP5.out.go ((Only.refl rb w5).drew) (by omega) hrb)
            have HS5d := Lib.hid (HS5.out.go (B := 1) ((Only.refl rb w5).drew) hrb (by omega))
            have HR5d := Lib.hid HR5.out.drew
            clear hF hcs
            go_region_with (first
              | (go_at_call 75; refine (pick_any rb (q + 1 + 1) 3 _ HR5d.out (by omega) (by omega) (by omega)).mono ?_; rintro e w6 ⟨n6, hn60, hn61, rfl, hr, ho⟩; have HP6 := Lib.hid (HP5d.out.go ho (by omega) hrb); have HS6 := Lib.hid (HS5d.out.go (B := 1) ho hrb (by have := HP5d.out.lt; omega)); have HR6 := Lib.hid hr; clear hr ho; have e60 := HP6.out.c0; have e61 := HP6.out.c1; have e62 := HP6.out.f0; have e63 := HP6.out.f1; have e6l := HP6.out.lt)
              | (go_at_call 168; have hSp := l5Split_any ep a vs c kf key n6 _ HP6.out.inn HFi.out HP6.out.cap.1 HP6.out.cap.2 (by omega) (by omega) hlez; have hok7 := pmapOk_split HP6.out.ok ⟨HCS.out.1, (inB_iff _ _ _).2 ⟨hn60, (by omega)⟩, HCS.out.2.2⟩ HFi.out; obtain ⟨vs7, hvs7⟩ : ∃ x, splitAt vs key n6 kf = x := ⟨_, rfl⟩; rw [hvs7] at hSp hok7; refine hSp.mono ?_; clear hSp hvs7; rintro e w7 ⟨a7, c7, rfl, hat, hbel, hc7⟩; have d70 := (HP6.out.below hbel (by omega) hrb).c0; have d71 := (HP6.out.below hbel (by omega) hrb).c1; have d72 := (HP6.out.below hbel (by omega) hrb).f0; have d73 := (HP6.out.below hbel (by omega) hrb).f1; have d74 := (HP6.out.below hbel (by omega) hrb).lt; have X := Lib.hid (And.intro hok7 (And.intro hat (And.intro hbel hc7))); clear hok7 hat hbel hc7)
              | fail)
            all_goals
              obtain ⟨hok7, hat, hbel, hc7⟩ := X.out
              have HP7 := Lib.hid (HP6.out.set hbel (by omega) hrb (by omega) hok7 hat hc7)
              have HS7 := Lib.hid ((HS6.out.go (B := 1) (Only.of_below hbel) hrb (by omega)).set (B := w.heap.size + 2) (by omega) (.int .i64 (ep + 1)) (.slice a7 vs7.length c7))
              have HR7 := Lib.hid (((HR6.out.below hbel).setNew (a := ⟨w.heap.size + 2, 0, none⟩) (by show rb < w.heap.size + 2; omega) (.int .i64 (ep + 1))).setNew (a := ⟨w.heap.size + 2, 1, none⟩) (by show rb < w.heap.size + 2; omega) (.slice a7 vs7.length c7))
              clear hok7 hat hbel hc7
              go_wp2_with fail
              go_roundw
              case rel => exact ⟨m, ep + 1, vs7, a7, c7, q + 1 + 1 + 1, by go_num, by omega, by omega, HP7.out, HR7.out, HS7.out⟩
              case measure => simp [intOf]
        · obtain ⟨-, hm2, hm3⟩ := HM.out.1 rfl
          have hep := (inB_iff _ _ _).1 HP3.out.ok.2.2
          go_wp2_with fail
          have hMg := l5Merge_any ep a vs c 0 _ HP3.out.inn (by omega) HP3.out.cap.1 HP3.out.cap.2 (by omega) (by omega) hle
          have hok4 := pmapOk_merge (k := 0) HP3.out.ok (by omega) hm3
          obtain ⟨vs4, hvs4⟩ : ∃ x, vs.take (0 + 1) ++ vs.drop (0 + 2) = x := ⟨_, rfl⟩
          rw [hvs4] at hMg hok4
          have HOK4 := Lib.hid hok4
          clear hvs4 hok4
          refine hMg.mono ?_
          clear hMg
          rintro e w4 ⟨a4, c4, rfl, hat, hbel, hc4⟩
          have HP4 := Lib.hid (HP3.out.set hbel (by omega) hrb (by omega) HOK4.out hat hc4)
          have HS4 := Lib.hid ((HS3.out.go (B := 1) (Only.of_below hbel) hrb (by omega)).set (B := w.heap.size + 2) (by omega) (.int .i64 (ep + 1)) (.slice a4 vs4.length c4))
          have d0 := (HP3.out.below hbel (by omega) hrb).c0
          have d1 := (HP3.out.below hbel (by omega) hrb).c1
          have d2 := (HP3.out.below hbel (by omega) hrb).f0
          have d3 := (HP3.out.below hbel (by omega) hrb).f1
          have d4 := (HP3.out.below hbel (by omega) hrb).lt
          have HR4 := Lib.hid (((HR3.out.below hbel).setNew (a := ⟨w.heap.size + 2, 0, none⟩) (by show rb < w.heap.size + 2; omega) (.int .i64 (ep + 1))).setNew (a := ⟨w.heap.size + 2, 1, none⟩) (by show rb < w.heap.size + 2; omega) (.slice a4 vs4.length c4))
          clear hat hbel
          go_wp2_with fail
          have hlez : vs4.length ≤ 1048576 := by have := (inB_iff _ _ _).1 HP4.out.ok.2.1; omega
          refine (l5CanSplit_any (ep + 1) a4 vs4 c4 key 0 _ HP4.out.inn HP4.out.ok hlez hkz).mono ?_
          rintro e w5 ⟨b, rfl, hb, hbel⟩
          have HC := Lib.hid hb
          have HP5 := Lib.hid (HP4.out.below hbel (by omega) hrb)
          have HS5 := Lib.hid (HS4.out.go (B := 1) (Only.of_below hbel) hrb (by have := HP4.out.lt; omega))
          have HR5 := Lib.hid (HR4.out.below hbel)
          clear hb hbel
          cases b
          · go_wp2_with fail
            go_roundw
            case rel => exact ⟨m, (ep + 1), vs4, a4, c4, q + 1 + 1, by go_num, by omega, by omega, HP5.out, HR5.out, HS5.out⟩
            case measure => simp [intOf]
          · have e0 := HP5.out.c0
            have e1 := HP5.out.c1
            have g0 := HP5.out.f0
            have g1 := HP5.out.f1
            have elt := HP5.out.lt
            go_wp2_with fail
            have hep5 := (inB_iff _ _ _).1 HP5.out.ok.2.2
            obtain ⟨kf, hF⟩ := findAt_ex HP5.out.ok key
            have HFi := Lib.hid hF
            have hcs := HC.out.1 (by simp)
            have HCS := Lib.hid hcs
            have hep99 : (ep + 1) < 99 := hcs.2.2.2.1
            have HP5d := Lib.hid (HP5.out.go ((Only.refl rb w5).drew) (by omega) hrb)
            have HS5d := Lib.hid (HS5.out.go (B := 1) ((Only.refl rb w5).drew) hrb (by omega))
            have HR5d := Lib.hid HR5.out.drew
            clear hF hcs
            go_region_with (first
              | (go_at_call 75; refine (pick_any rb (q + 1 + 1) 3 _ HR5d.out (by omega) (by omega) (by omega)).mono ?_; rintro e w6 ⟨n6, hn60, hn61, rfl, hr, ho⟩; have HP6 := Lib.hid (HP5d.out.go ho (by omega) hrb); have HS6 := Lib.hid (HS5d.out.go (B := 1) ho hrb (by have := HP5d.out.lt; omega)); have HR6 := Lib.hid hr; clear hr ho; have e60 := HP6.out.c0; have e61 := HP6.out.c1; have e62 := HP6.out.f0; have e63 := HP6.out.f1; have e6l := HP6.out.lt)
              | (go_at_call 168; have hSp := l5Split_any (ep + 1) a4 vs4 c4 kf key n6 _ HP6.out.inn HFi.out HP6.out.cap.1 HP6.out.cap.2 (by omega) (by omega) hlez; have hok7 := pmapOk_split HP6.out.ok ⟨HCS.out.1, (inB_iff _ _ _).2 ⟨hn60, (by omega)⟩, HCS.out.2.2⟩ HFi.out; obtain ⟨vs7, hvs7⟩ : ∃ x, splitAt vs4 key n6 kf = x := ⟨_, rfl⟩; rw [hvs7] at hSp hok7; refine hSp.mono ?_; clear hSp hvs7; rintro e w7 ⟨a7, c7, rfl, hat, hbel, hc7⟩; have d70 := (HP6.out.below hbel (by omega) hrb).c0; have d71 := (HP6.out.below hbel (by omega) hrb).c1; have d72 := (HP6.out.below hbel (by omega) hrb).f0; have d73 := (HP6.out.below hbel (by omega) hrb).f1; have d74 := (HP6.out.below hbel (by omega) hrb).lt; have X := Lib.hid (And.intro hok7 (And.intro hat (And.intro hbel hc7))); clear hok7 hat hbel hc7)
              | fail)
            all_goals
              obtain ⟨hok7, hat, hbel, hc7⟩ := X.out
              have HP7 := Lib.hid (HP6.out.set hbel (by omega) hrb (by omega) hok7 hat hc7)
              have HS7 := Lib.hid ((HS6.out.go (B := 1) (Only.of_below hbel) hrb (by omega)).set (B := w.heap.size + 2) (by omega) (.int .i64 ((ep + 1) + 1)) (.slice a7 vs7.length c7))
              have HR7 := Lib.hid (((HR6.out.below hbel).setNew (a := ⟨w.heap.size + 2, 0, none⟩) (by show rb < w.heap.size + 2; omega) (.int .i64 ((ep + 1) + 1))).setNew (a := ⟨w.heap.size + 2, 1, none⟩) (by show rb < w.heap.size + 2; omega) (.slice a7 vs7.length c7))
              clear hok7 hat hbel hc7
              go_wp2_with fail
              go_roundw
              case rel => exact ⟨m, (ep + 1) + 1, vs7, a7, c7, q + 1 + 1 + 1, by go_num, by omega, by omega, HP7.out, HR7.out, HS7.out⟩
              case measure => simp [intOf]
      · have hb : (n == 0) = false := by simpa using hz
        go_wp2_with fail
        have hlez : vs.length ≤ 1048576 := by have := (inB_iff _ _ _).1 HP2.out.ok.2.1; omega
        refine (l5CanSplit_any ep a vs c key 0 _ HP2.out.inn HP2.out.ok hlez hkz).mono ?_
        rintro e w5 ⟨b, rfl, hb, hbel⟩
        have HC := Lib.hid hb
        have HP5 := Lib.hid (HP2.out.below hbel (by omega) hrb)
        have HS5 := Lib.hid (HS2.out.go (B := 1) (Only.of_below hbel) hrb (by have := HP2.out.lt; omega))
        have HR5 := Lib.hid (HR2.out.below hbel)
        clear hb hbel
        cases b
        · go_wp2_with fail
          go_roundw
          case rel => exact ⟨m, ep, vs, a, c, q + 1 + 1, by go_num, by omega, by omega, HP5.out, HR5.out, HS5.out⟩
          case measure => simp [intOf]
        · have e0 := HP5.out.c0
          have e1 := HP5.out.c1
          have g0 := HP5.out.f0
          have g1 := HP5.out.f1
          have elt := HP5.out.lt
          go_wp2_with fail
          have hep5 := (inB_iff _ _ _).1 HP5.out.ok.2.2
          obtain ⟨kf, hF⟩ := findAt_ex HP5.out.ok key
          have HFi := Lib.hid hF
          have hcs := HC.out.1 (by simp)
          have HCS := Lib.hid hcs
          have hep99 : ep < 99 := hcs.2.2.2.1
          have HP5d := Lib.hid (HP5.out.go ((Only.refl rb w5).drew) (by omega) hrb)
          have HS5d := Lib.hid (HS5.out.go (B := 1) ((Only.refl rb w5).drew) hrb (by omega))
          have HR5d := Lib.hid HR5.out.drew
          clear hF hcs
          go_region_with (first
            | (go_at_call 75; refine (pick_any rb (q + 1 + 1) 3 _ HR5d.out (by omega) (by omega) (by omega)).mono ?_; rintro e w6 ⟨n6, hn60, hn61, rfl, hr, ho⟩; have HP6 := Lib.hid (HP5d.out.go ho (by omega) hrb); have HS6 := Lib.hid (HS5d.out.go (B := 1) ho hrb (by have := HP5d.out.lt; omega)); have HR6 := Lib.hid hr; clear hr ho; have e60 := HP6.out.c0; have e61 := HP6.out.c1; have e62 := HP6.out.f0; have e63 := HP6.out.f1; have e6l := HP6.out.lt)
            | (go_at_call 168; have hSp := l5Split_any ep a vs c kf key n6 _ HP6.out.inn HFi.out HP6.out.cap.1 HP6.out.cap.2 (by omega) (by omega) hlez; have hok7 := pmapOk_split HP6.out.ok ⟨HCS.out.1, (inB_iff _ _ _).2 ⟨hn60, (by omega)⟩, HCS.out.2.2⟩ HFi.out; obtain ⟨vs7, hvs7⟩ : ∃ x, splitAt vs key n6 kf = x := ⟨_, rfl⟩; rw [hvs7] at hSp hok7; refine hSp.mono ?_; clear hSp hvs7; rintro e w7 ⟨a7, c7, rfl, hat, hbel, hc7⟩; have d70 := (HP6.out.below hbel (by omega) hrb).c0; have d71 := (HP6.out.below hbel (by omega) hrb).c1; have d72 := (HP6.out.below hbel (by omega) hrb).f0; have d73 := (HP6.out.below hbel (by omega) hrb).f1; have d74 := (HP6.out.below hbel (by omega) hrb).lt; have X := Lib.hid (And.intro hok7 (And.intro hat (And.intro hbel hc7))); clear hok7 hat hbel hc7)
            | fail)
          all_goals
            obtain ⟨hok7, hat, hbel, hc7⟩ := X.out
            have HP7 := Lib.hid (HP6.out.set hbel (by omega) hrb (by omega) hok7 hat hc7)
            have HS7 := Lib.hid ((HS6.out.go (B := 1) (Only.of_below hbel) hrb (by omega)).set (B := w.heap.size + 2) (by omega) (.int .i64 (ep + 1)) (.slice a7 vs7.length c7))
            have HR7 := Lib.hid (((HR6.out.below hbel).setNew (a := ⟨w.heap.size + 2, 0, none⟩) (by show rb < w.heap.size + 2; omega) (.int .i64 (ep + 1))).setNew (a := ⟨w.heap.size + 2, 1, none⟩) (by show rb < w.heap.size + 2; omega) (.slice a7 vs7.length c7))
            clear hok7 hat hbel hc7
            go_wp2_with fail
            go_roundw
            case rel => exact ⟨m, ep + 1, vs7, a7, c7, q + 1 + 1 + 1, by go_num, by omega, by omega, HP7.out, HR7.out, HS7.out⟩
            case measure => simp [intOf]
end Go.Proofs.Ytjijichgoodocaa
