/- One version put behind all of a key, as the model does it. -/
import Derived.Test.YtjijichgoodocaaPutV
import Derived.Deep.RegionHeld3
import Derived.Deep.RegionLaw
import Derived.Deep.Cut
import Derived.Deep.AppendLies
namespace Go.Proofs.Ytjijichgoodocaa
open Go.RowKit

theorem below_new {w u w' : World} {v : Value} (hb : Below w.heap.size w u) (hg : u.grownBy w' v.ownBlock) (hn : ∀ g, v.ownBlock = some g → w.heap.size ≤ g) : Below w.heap.size w w' := Below.grown hb hg hb.size hn
/-- Kept whole. -/
def L2Is (os : List ObjD) (key : ByteArray) (k : Nat) (b : Bool) : Prop := AtIdx os key k ∧ (∀ h : k < os.length, Op.bytesLess os[k].key.toList key.toList = false ∧ b = (os[k].key.toList == key.toList)) ∧ (os.length ≤ k → b = false)
theorem keepQ {b c d : Nat} {o00 o10 o11 o12 o20 : Nat} {x00 x10 x11 x12 x20 : Value} {u v : World} (hb : Below u.heap.size u v) (h : u.cell? ⟨b, o00, none⟩ = some x00 ∧ u.cell? ⟨c, o10, none⟩ = some x10 ∧ u.cell? ⟨c, o11, none⟩ = some x11 ∧ u.cell? ⟨c, o12, none⟩ = some x12 ∧ u.cell? ⟨d, o20, none⟩ = some x20 ∧ b < u.heap.size ∧ c < u.heap.size ∧ d < u.heap.size) : v.cell? ⟨b, o00, none⟩ = some x00 ∧ v.cell? ⟨c, o10, none⟩ = some x10 ∧ v.cell? ⟨c, o11, none⟩ = some x11 ∧ v.cell? ⟨c, o12, none⟩ = some x12 ∧ v.cell? ⟨d, o20, none⟩ = some x20 ∧ b < v.heap.size ∧ c < v.heap.size ∧ d < v.heap.size := by
  obtain ⟨h0, h1, h2, h3, h4, lb, lc, ld⟩ := h
  exact ⟨(hb.cell (p := ⟨b, o00, none⟩) lb).trans h0, (hb.cell (p := ⟨c, o10, none⟩) lc).trans h1, (hb.cell (p := ⟨c, o11, none⟩) lc).trans h2, (hb.cell (p := ⟨c, o12, none⟩) lc).trans h3, (hb.cell (p := ⟨d, o20, none⟩) ld).trans h4, Nat.lt_of_lt_of_le lb hb.size, Nat.lt_of_lt_of_le lc hb.size, Nat.lt_of_lt_of_le ld hb.size⟩
theorem keepQ_alloc {b c d : Nat} {o00 o10 o11 o12 o20 : Nat} {x00 x10 x11 x12 x20 : Value} {u : World} {o : Obj} (h : u.cell? ⟨b, o00, none⟩ = some x00 ∧ u.cell? ⟨c, o10, none⟩ = some x10 ∧ u.cell? ⟨c, o11, none⟩ = some x11 ∧ u.cell? ⟨c, o12, none⟩ = some x12 ∧ u.cell? ⟨d, o20, none⟩ = some x20 ∧ b < u.heap.size ∧ c < u.heap.size ∧ d < u.heap.size) : (u.alloc o).cell? ⟨b, o00, none⟩ = some x00 ∧ (u.alloc o).cell? ⟨c, o10, none⟩ = some x10 ∧ (u.alloc o).cell? ⟨c, o11, none⟩ = some x11 ∧ (u.alloc o).cell? ⟨c, o12, none⟩ = some x12 ∧ (u.alloc o).cell? ⟨d, o20, none⟩ = some x20 ∧ b < (u.alloc o).heap.size ∧ c < (u.alloc o).heap.size ∧ d < (u.alloc o).heap.size := keepQ ((Below.refl _ _).alloc (Nat.le_refl _) _) h
theorem keepQ_allocD {b c d : Nat} {o00 o10 o11 o12 o20 : Nat} {x00 x10 x11 x12 x20 : Value} {u : World} {o : Obj} (h : u.drew.cell? ⟨b, o00, none⟩ = some x00 ∧ u.drew.cell? ⟨c, o10, none⟩ = some x10 ∧ u.drew.cell? ⟨c, o11, none⟩ = some x11 ∧ u.drew.cell? ⟨c, o12, none⟩ = some x12 ∧ u.drew.cell? ⟨d, o20, none⟩ = some x20 ∧ b < u.drew.heap.size ∧ c < u.drew.heap.size ∧ d < u.drew.heap.size) : (u.alloc o).drew.cell? ⟨b, o00, none⟩ = some x00 ∧ (u.alloc o).drew.cell? ⟨c, o10, none⟩ = some x10 ∧ (u.alloc o).drew.cell? ⟨c, o11, none⟩ = some x11 ∧ (u.alloc o).drew.cell? ⟨c, o12, none⟩ = some x12 ∧ (u.alloc o).drew.cell? ⟨d, o20, none⟩ = some x20 ∧ b < (u.alloc o).drew.heap.size ∧ c < (u.alloc o).drew.heap.size ∧ d < (u.alloc o).drew.heap.size := keepQ_alloc (u := u) h
theorem keepQ_far {b c d : Nat} {o00 o10 o11 o12 o20 : Nat} {x00 x10 x11 x12 x20 : Value} {u v : World} {row : Option Nat} (hg : u.grownBy v row) (nb : some b ≠ row) (nc : some c ≠ row) (nd : some d ≠ row) (h : u.cell? ⟨b, o00, none⟩ = some x00 ∧ u.cell? ⟨c, o10, none⟩ = some x10 ∧ u.cell? ⟨c, o11, none⟩ = some x11 ∧ u.cell? ⟨c, o12, none⟩ = some x12 ∧ u.cell? ⟨d, o20, none⟩ = some x20 ∧ b < u.heap.size ∧ c < u.heap.size ∧ d < u.heap.size) : v.cell? ⟨b, o00, none⟩ = some x00 ∧ v.cell? ⟨c, o10, none⟩ = some x10 ∧ v.cell? ⟨c, o11, none⟩ = some x11 ∧ v.cell? ⟨c, o12, none⟩ = some x12 ∧ v.cell? ⟨d, o20, none⟩ = some x20 ∧ b < v.heap.size ∧ c < v.heap.size ∧ d < v.heap.size := by
  obtain ⟨h0, h1, h2, h3, h4, lb, lc, ld⟩ := h
  exact ⟨(hg.cell_far ⟨b, o00, none⟩ lb nb).trans h0, (hg.cell_far ⟨c, o10, none⟩ lc nc).trans h1, (hg.cell_far ⟨c, o11, none⟩ lc nc).trans h2, (hg.cell_far ⟨c, o12, none⟩ lc nc).trans h3, (hg.cell_far ⟨d, o20, none⟩ ld nd).trans h4, Nat.lt_of_lt_of_le lb hg.size, Nat.lt_of_lt_of_le lc hg.size, Nat.lt_of_lt_of_le ld hg.size⟩
theorem own_diff {w : World} {B B' s s' n n' : Nat} {t t' : TypeId} {v v' : Value} {xs xs' : List Value} (h : w.ownsRow B t s v n xs) (h' : w.ownsRow B' t' s' v' n' xs') (hne : t ≠ t') : v.ownBlock = none ∨ v.ownBlock ≠ v'.ownBlock := by
  rcases h.2 with ⟨rfl, _⟩ | ⟨g, c, cur, rfl, _, hh, _⟩
  · exact .inl rfl
  · refine .inr fun e => ?_
    rcases h'.2 with ⟨rfl, _⟩ | ⟨g', c', cur', rfl, _, hh', _⟩
    · simp [Value.ownBlock] at e
    · simp [Value.ownBlock] at e
      subst e
      rw [hh] at hh'
      injection hh' with hh'
      injection hh' with _ hh' _
      exact hne hh'
theorem objsIn_new (w : World) (x : ObjD) (t : TypeId) (g : Nat) (hg : w.heap.size = g) (hv : VersIn w x.at_ x.vers) : ObjsIn (w.alloc (.cells #[.string x.key, .slice x.at_ x.vers.length x.cap] t)) (some ⟨g, 0, none⟩) [x] := by
  subst hg
  refine .inr ⟨w.heap.size, 0, rfl, by simp, fun i hi => ?_⟩
  obtain rfl : i = 0 := by simp at hi; omega
  exact ⟨by simp [go_sem], by simp [go_sem], hv.below ((Below.refl _ _).alloc (Nat.le_refl _) _)⟩
theorem objN {w : World} {B g cp n : Nat} {key : ByteArray} {vs : List VerD} {xs : List Value} {t : TypeId} (ho : w.ownsRow B 27 3 (.slice (some ⟨g, 0, none⟩) n cp) n xs) (hn : n = vs.length) (hx : xs = vs.flatMap verCells) : ObjsIn (w.alloc (.cells #[.string key, .slice (some ⟨g, 0, none⟩) n cp] t)) (some ⟨w.heap.size, 0, none⟩) [⟨key, some ⟨g, 0, none⟩, cp, vs⟩] := by
  subst hn hx
  obtain ⟨a, c, e, h1, _⟩ := own_versH ho
  injection e with e1 e2 e3
  subst e1 e3
  exact objsIn_new w ⟨key, some ⟨g, 0, none⟩, cp, vs⟩ t _ rfl h1
theorem emptyV2 (V : World) (o : Obj) : ((V.alloc o).alloc (.cells #[] 27)).ownsRow V.heap.size 27 3 (.slice (some ⟨V.heap.size + 1, 0, none⟩) 0 0) 0 [] := by
  have h := emptyVers (B := V.heap.size) (heap_alloc_new (V.alloc o) (.cells #[] 27)) (by simp)
  simpa using h
theorem x_of_row {w : World} {B g cp n : Nat} {vs : List VerD} {xs : List Value} (ho : w.ownsRow B 27 3 (.slice (some ⟨g, 0, none⟩) n cp) n xs) (hn : n = vs.length) (hx : xs = vs.flatMap verCells) : VersIn w (some ⟨g, 0, none⟩) vs ∧ Free w (some ⟨g, 0, none⟩) (vs.length * 3) ∧ Lies B w.heap.size (some ⟨g, 0, none⟩) ∧ OfVer w (some ⟨g, 0, none⟩) ∧ PlainV (some ⟨g, 0, none⟩) vs cp := by
  subst hn hx
  obtain ⟨a, c, e, h1, h2, h3, h4, h5⟩ := own_versH ho
  injection e with e1 e2 e3
  subst e1 e3
  exact ⟨h1, h2, h3, h4, h5⟩
theorem newVer_row (w : World) (v : VerD) (B g : Nat) (hg : w.heap.size = g) (hB : B ≤ g) : (w.alloc (.cells #[.int .i64 v.id, .string v.text, .bool v.gone] 27)).ownsRow B 27 3 (.slice (some ⟨g, 0, none⟩) 1 1) 1 (verCells v) := by
  subst hg
  exact ⟨rfl, .inr ⟨w.heap.size, 1, _, rfl, hB, heap_alloc_new w _, Nat.le_refl _, by unfold maxLen; omega, by simp, by simp [verCells]⟩⟩
theorem vers_kept {u w' : World} {nb eb n c : Nat} {vs : List VerD} (h : VersIn u (some ⟨nb, 0, none⟩) vs) (hg : u.grownBy w' (Value.slice (some ⟨eb, 0, none⟩) n c).ownBlock) (hne : nb ≠ eb) : VersIn w' (some ⟨nb, 0, none⟩) vs :=
  h.turned (fun b off e q => by cases e; simp [Value.ownBlock] at q; omega) (turned_of_grown hg)
theorem l2Put_fin {w : World} {os : List ObjD} {key : ByteArray} {v : VerD} {k n B : Nat} {b : Bool} {x : ObjD} {r y : Value} {u : World} (hA : AtIdx os key k) (h1 : ∀ h : k < os.length, Op.bytesLess os[k].key.toList key.toList = false ∧ b = (os[k].key.toList == key.toList)) (h2 : os.length ≤ k → b = false)
    (hx : x.key = key) (hv : x.vers = versAt os k b ++ [v]) (hn : k + 1 + (os.drop (if b then k + 1 else k)).length = n) (hown : u.ownsRow w.heap.size 45 2 r n (((os.take k).flatMap objCells ++ objCells x) ++ (os.drop (if b then k + 1 else k)).flatMap objCells))
    (hvi : VersIn u x.at_ x.vers) (hf : Free u x.at_ (x.vers.length * 3)) (hl : Lies w.heap.size u.heap.size x.at_) (hty : OfVer u x.at_) (hp : x.plain) (hb : Below w.heap.size w u) (hbx : Boxed u B 25 y) (hBw : w.heap.size ≤ B) :
    PutPost os key v w (.returned (.agg #[r])) (u.setCell ⟨B, 0, none⟩ r) := by
  have hg := grownBy_setCell' u B r
  have ht : Turned (fun c => c = B) u (u.setCell ⟨B, 0, none⟩ r) := (Turned.refl (fun c => c = B) u).setCell (p := ⟨B, 0, none⟩) rfl r
  have hoff : OffS (fun c => c = B) x.at_ := fun b' off e q => by
    obtain ⟨c, q', hc⟩ := hty b' off e
    subst q
    rw [show u.heap[b']? = _ from hbx] at hc
    injection hc with hc
    injection hc with _ hc _
    exact absurd hc (by decide)
  refine ⟨k, b, x, r, hA, h1, h2, hx, hv, rfl, ?_, hvi.turned hoff ht, hf.turned hoff ht, hl.mono (Nat.le_refl _) ht.size, fun b' off e => ?_, hp, hb.setCell (p := ⟨B, 0, none⟩) hBw _⟩
  · rw [putObjs_cells, putObjs_len hA.1, hn]
    exact hown.kept hg (.inr (hbx.not_row (by decide) hown).symm)
  · obtain ⟨c, q, hc⟩ := hty b' off e
    exact ⟨c, q, (ht.block b' (hl b' off e).2 (fun q => hoff b' off e q)).trans hc⟩

set_option maxRecDepth 100000 in
set_option maxHeartbeats 8000000 in
theorem l2Put_any (a : Option Addr) (os : List ObjD) (cap : Nat) (key : ByteArray) (v : VerD) (w : World) (hv : ObjsIn w a os) (hA : PlainO a os cap) (hp : ∀ o ∈ os, o.plain) (hn : os.length ≤ 1048576) (hl : ∀ o ∈ os, o.vers.length ≤ 1048576) :
    Calls Try.prog 83 #[.agg #[.slice a os.length cap], .string key, .agg #[.int .i64 v.id, .string v.text, .bool v.gone]] w (PutPost os key v w) := by
  have HV := Lib.hid hv
  have HP := Lib.hid hp
  have HL := Lib.hid hl
  obtain ⟨hA1, hA2, hA3⟩ := hA
  have HA1 := Lib.hid hA1
  unfold maxLen at hA3
  clear hv hp hl hA1
  obtain ⟨i0, hi0, hz0, hz1, hz2⟩ := info_parts infoObj
  obtain ⟨W0, hW0⟩ : ∃ W0, ((w.alloc (.cells #[.slice a os.length cap] 25)).alloc (.cells #[.int .i64 v.id, .string v.text, .bool v.gone] 27)).alloc (.cells #[.slice none 0 0] 25) = W0 := ⟨_, rfl⟩
  have B0 : Below w.heap.size w W0 := by rw [← hW0]; exact (((Below.refl _ _).alloc (Nat.le_refl _) _).alloc (by simp) _).alloc (by simp <;> omega) _
  have z0 : w.heap.size + 3 ≤ W0.heap.size := by rw [← hW0]; simp
  have c0 : W0.cell? ⟨w.heap.size, 0, none⟩ = some (.slice a os.length cap) := by rw [← hW0]; simp [go_sem]
  have e0 : W0.cell? ⟨w.heap.size + 1, 0, none⟩ = some (.int .i64 v.id) := by rw [← hW0]; simp [go_sem]
  have e1 : W0.cell? ⟨w.heap.size + 1, 1, none⟩ = some (.string v.text) := by rw [← hW0]; simp [go_sem]
  have e2 : W0.cell? ⟨w.heap.size + 1, 2, none⟩ = some (.bool v.gone) := by rw [← hW0]; simp [go_sem]
  have X0 : Boxed W0 (w.heap.size + 2) 25 (.slice none 0 0) := by rw [← hW0]; have := Boxed.new ((w.alloc (.cells #[.slice a os.length cap] 25)).alloc (.cells #[.int .i64 v.id, .string v.text, .bool v.gone] 27)) 25 (.slice none 0 0); simpa using this
  have HB0 := Lib.hid B0
  have HX0 := Lib.hid X0
  clear B0 X0
  go_enter Try.func83, Try.ntmps83
  go_wp2_with fail
  clear hW0
  refine (l2At_any a os cap key _ (HV.out.below HB0.out) hn).mono ?_
  rintro e w1 ⟨k, b, rfl, hA, h1, h2, hb⟩
  have c0 := (hb.cell (p := ⟨w.heap.size, 0, none⟩) (show w.heap.size < W0.heap.size by omega)).trans c0
  have e0 := (hb.cell (p := ⟨w.heap.size + 1, 0, none⟩) (show w.heap.size + 1 < W0.heap.size by omega)).trans e0
  have e1 := (hb.cell (p := ⟨w.heap.size + 1, 1, none⟩) (show w.heap.size + 1 < W0.heap.size by omega)).trans e1
  have e2 := (hb.cell (p := ⟨w.heap.size + 1, 2, none⟩) (show w.heap.size + 1 < W0.heap.size by omega)).trans e2
  have HX1 := Lib.hid ((hb.block (w.heap.size + 2) (show w.heap.size + 2 < W0.heap.size by omega)).trans HX0.out : Boxed w1 (w.heap.size + 2) 25 (.slice none 0 0))
  have HB1 := Lib.hid (HB0.out.trans (hb.mono HB0.out.size))
  have z1 : w.heap.size + 3 ≤ w1.heap.size := Nat.le_trans z0 hb.size
  have hkl := hA.1
  have HAT := Lib.hid (show L2Is os key k b from And.intro hA (And.intro h1 h2))
  have hkc : k ≤ cap := by omega
  have hki : (0 : Int) ≤ (k : Int) := by omega
  have hkn : (k : Int) ≤ (os.length : Int) := by omega
  have hkc2 : (k : Int) ≤ (cap : Int) := by omega
  have htk : (os.take k).length = k := by rw [List.length_take]; omega
  have HTK := Lib.hid htk
  clear hb hA h1 h2 HX0 HB0 htk
  -- the objects ahead
  have hB0 : Below w1.heap.size w1 (w1.alloc (.cells #[] 45)) := (Below.refl _ _).alloc (Nat.le_refl _) _
  have O1 : (w1.alloc (.cells #[] 45)).ownsRow w1.heap.size 45 2 (.slice (some ⟨w1.heap.size, 0, none⟩) 0 0) 0 [] := emptyObjs (heap_alloc_new _ _) (Nat.le_refl _)
  have HO1 := Lib.hid O1
  have HBe := Lib.hid hB0
  have y1 : w.heap.size < w1.heap.size := by omega
  have y2 : w.heap.size + 1 < w1.heap.size := by omega
  clear O1 hB0
  rcases HA1.out with ⟨ba, oa, rfl⟩ | ⟨rfl, rfl, rfl⟩
  · cases b
    · go_upto_region 3 with (at_builtin; refine wpList_append_obj rfl _ _ 23 rfl Try.underlying23 w1.heap.size _ 0 [] rfl HO1.out (some ⟨ba, oa, none⟩) (os.take k) k cap HTK.out rfl (.inl ⟨_, _, rfl⟩) ((HV.out.below (HB1.out.trans (HBe.out.mono HB1.out.size))).take k) (by omega) (by simp) ?_; intro r2 V hown hgrow; have X := Lib.hid (And.intro hown hgrow); clear hown hgrow)
      obtain ⟨hown, hgrow⟩ := X.out
      rw [Nat.zero_add, List.nil_append] at hown
      have hbV : Below w1.heap.size w1 V := below_new HBe.out hgrow (fun g e => by cases e; exact Nat.le_refl _)
      have c0 := (hbV.cell (p := ⟨w.heap.size, 0, none⟩) (show w.heap.size < w1.heap.size by omega)).trans c0
      have e0 := (hbV.cell (p := ⟨w.heap.size + 1, 0, none⟩) (show w.heap.size + 1 < w1.heap.size by omega)).trans e0
      have e1 := (hbV.cell (p := ⟨w.heap.size + 1, 1, none⟩) (show w.heap.size + 1 < w1.heap.size by omega)).trans e1
      have e2 := (hbV.cell (p := ⟨w.heap.size + 1, 2, none⟩) (show w.heap.size + 1 < w1.heap.size by omega)).trans e2
      have HX := Lib.hid ((hbV.block (w.heap.size + 2) (show w.heap.size + 2 < w1.heap.size by omega)).trans HX1.out : Boxed V (w.heap.size + 2) 25 (.slice none 0 0))
      have HB := Lib.hid (HB1.out.trans (hbV.mono HB1.out.size))
      have zV : w1.heap.size ≤ V.heap.size := hbV.size
      have hr2 : ∀ g, r2.ownBlock = some g → w1.heap.size ≤ g ∧ g < V.heap.size := fun g e => hown.lt g e
      have HR2 := Lib.hid hr2
      have HO := Lib.hid hown
      have HOV := Lib.hid hown
      have hba : os = [] ∨ ba < w.heap.size := by
        rcases HV.out with h | ⟨b9, o9, e9, h9, _⟩
        · exact .inl h
        · cases e9; exact .inr h9
      clear hown hgrow hbV X hr2
      have y3 : w.heap.size < V.heap.size := by omega
      have y4 : w.heap.size + 1 < V.heap.size := by omega
      have nb : some w.heap.size ≠ r2.ownBlock := fun e => by have := (HR2.out _ e.symm).1; omega
      go_upto_region 7 with (at_builtin; refine wpList_append_obj rfl _ _ 23 rfl Try.underlying23 w1.heap.size r2 k _ rfl ((HO.out.alloc _).alloc _) (some ⟨V.heap.size + 1, 0, none⟩) [⟨key, some ⟨V.heap.size, 0, none⟩, 1, [v]⟩] 1 1 rfl rfl (.inl ⟨_, _, rfl⟩) (objsIn_new (V.alloc (.cells #[.int .i64 v.id, .string v.text, .bool v.gone] 27)) ⟨key, some ⟨V.heap.size, 0, none⟩, 1, [v]⟩ _ _ (by simp) (versIn_new V v _ _ rfl)) (by omega) (by simp; omega) ?_; intro r3 wE hown hgrow; have Y := Lib.hid (And.intro hown hgrow); clear hown hgrow)
      obtain ⟨hown, hgrow⟩ := Y.out
      have hBE : Below w.heap.size w wE := below_new ((HB.out.alloc (by omega) _).alloc (by simp; omega) _) hgrow (fun g e => by have := (HR2.out g e).1; omega)
      have hI0 := (newVer_row V v V.heap.size V.heap.size rfl (Nat.le_refl _)).alloc (.cells #[.string key, .slice (some ⟨V.heap.size, 0, none⟩) 1 1] 45)
      have hI := hI0.kept hgrow (own_diff hI0 ((HO.out.alloc _).alloc _) (by decide))
      have hXD := (((show Boxed V (w.heap.size + 2) 25 (.slice none 0 0) from HX.out).alloc (.cells #[.int .i64 v.id, .string v.text, .bool v.gone] 27)).alloc (.cells #[.string key, .slice (some ⟨V.heap.size, 0, none⟩) 1 1] 45))
      have hXE := hXD.kept hgrow (hXD.not_row (by decide) ((HO.out.alloc _).alloc _))
      have c0 : wE.cell? ⟨w.heap.size, 0, none⟩ = some (.slice (some ⟨ba, oa, none⟩) os.length cap) := (hgrow.cell_far ⟨w.heap.size, 0, none⟩ (by simp; omega) nb).trans ((((Below.refl V.heap.size V).alloc (Nat.le_refl _) _).alloc (by simp) _ |>.cell (p := ⟨w.heap.size, 0, none⟩) y3).trans c0)
      have szE : w1.heap.size ≤ wE.heap.size := by have := hgrow.size; simp at this; omega
      have HBE := Lib.hid hBE
      have HIE := Lib.hid hI
      have HXE := Lib.hid hXE
      have HOE := Lib.hid hown
      clear hown hgrow hBE hI hI0 hXD hXE Y HO
      have p3 : (k : Int).toNat = k := by omega
      have hxl : w.heap.size < wE.heap.size := by omega
      obtain ⟨N, hN⟩ : ∃ N, k + 1 + (os.length - (k)) = N := ⟨_, rfl⟩
      have HN9 := Lib.hid hN
      have h0N : 0 < N := by omega
      clear hN
      by_cases p4 : cap = k
      all_goals
        go_wp2_with (at_builtin; (first | (refine wpList_append_objS rfl _ _ 23 rfl Try.underlying23 w1.heap.size r3 (k + 1) _ rfl HOE.out (some ⟨ba, oa + (k) * 2, none⟩) (os.drop (k)) (os.length - (k)) _ N (List.length_drop ..) rfl (.inl ⟨_, _, rfl⟩) (ObjsIn.drop (HV.out.below HBE.out) (.inr rfl)) (by omega) (by omega) HN9.out h0N ?_) | (refine wpList_append_objS rfl _ _ 23 rfl Try.underlying23 w1.heap.size r3 (k + 1) _ rfl HOE.out (some ⟨ba, oa, none⟩) (os.drop (k)) (os.length - (k)) _ N (List.length_drop ..) rfl (.inl ⟨_, _, rfl⟩) (ObjsIn.drop (HV.out.below HBE.out) (.inl (by omega))) (by omega) (by omega) HN9.out h0N ?_)); intro g9 c9 w5 hown hgrow; have hB5 := below_new HBE.out hgrow (fun g e => (by have := (HOE.out.lt g e).1; omega)); have hI5 := HIE.out.kept hgrow (own_diff HIE.out HOE.out (by decide)); have hX5 := HXE.out.kept hgrow (HXE.out.not_row (by decide) HOE.out); have x0 := hX5.cell; have x1 := hX5.frozen; have HB5 := Lib.hid hB5; have HI5 := Lib.hid hI5; have HX5 := Lib.hid hX5; have HO5 := Lib.hid hown; clear hown hgrow hB5 hI5 hX5)
        refine bodyPost_ret (v := .agg #[.slice (some ⟨g9, 0, none⟩) N c9]) (by simp [results, Try.results83, go_sem, x0]) rfl ?_
        obtain ⟨v1, v2, v3, v4, v5⟩ := x_of_row (vs := [v]) HI5.out (by simp) (by simp [List.flatMap_append])
        refine l2Put_fin (k := k) (b := false) (x := ⟨key, some ⟨V.heap.size, 0, none⟩, 1, [v]⟩) (n := N) HAT.out.1 HAT.out.2.1 HAT.out.2.2 rfl ?_ ?_ ?_ v1 v2 (v3.mono (by omega) (Nat.le_refl _)) v4 v5 HB5.out HX5.out (by omega)
        · simp [versAt]
        · have := HN9.out; simp; omega
        · have h := Joins.ownsRow_le HO5.out (show w.heap.size ≤ w1.heap.size by omega)
          simpa using h
    · go_upto_region 3 with (at_builtin; refine wpList_append_obj rfl _ _ 23 rfl Try.underlying23 w1.heap.size _ 0 [] rfl HO1.out (some ⟨ba, oa, none⟩) (os.take k) k cap HTK.out rfl (.inl ⟨_, _, rfl⟩) ((HV.out.below (HB1.out.trans (HBe.out.mono HB1.out.size))).take k) (by omega) (by simp) ?_; intro r2 V hown hgrow; have X := Lib.hid (And.intro hown hgrow); clear hown hgrow)
      obtain ⟨hown, hgrow⟩ := X.out
      rw [Nat.zero_add, List.nil_append] at hown
      have hbV : Below w1.heap.size w1 V := below_new HBe.out hgrow (fun g e => by cases e; exact Nat.le_refl _)
      have c0 := (hbV.cell (p := ⟨w.heap.size, 0, none⟩) (show w.heap.size < w1.heap.size by omega)).trans c0
      have e0 := (hbV.cell (p := ⟨w.heap.size + 1, 0, none⟩) (show w.heap.size + 1 < w1.heap.size by omega)).trans e0
      have e1 := (hbV.cell (p := ⟨w.heap.size + 1, 1, none⟩) (show w.heap.size + 1 < w1.heap.size by omega)).trans e1
      have e2 := (hbV.cell (p := ⟨w.heap.size + 1, 2, none⟩) (show w.heap.size + 1 < w1.heap.size by omega)).trans e2
      have HX := Lib.hid ((hbV.block (w.heap.size + 2) (show w.heap.size + 2 < w1.heap.size by omega)).trans HX1.out : Boxed V (w.heap.size + 2) 25 (.slice none 0 0))
      have HB := Lib.hid (HB1.out.trans (hbV.mono HB1.out.size))
      have zV : w1.heap.size ≤ V.heap.size := hbV.size
      have hr2 : ∀ g, r2.ownBlock = some g → w1.heap.size ≤ g ∧ g < V.heap.size := fun g e => hown.lt g e
      have HR2 := Lib.hid hr2
      have HO := Lib.hid hown
      have HOV := Lib.hid hown
      have hba : os = [] ∨ ba < w.heap.size := by
        rcases HV.out with h | ⟨b9, o9, e9, h9, _⟩
        · exact .inl h
        · cases e9; exact .inr h9
      clear hown hgrow hbV X hr2
      have hlt : k < os.length := by
        by_cases q : k < os.length
        · exact q
        · have := HAT.out.2.2 (by omega); cases this
      have hbaw : ba < w.heap.size := by
        rcases hba with h | h
        · rw [h] at hlt; simp at hlt
        · exact h
      obtain ⟨d0, d1, d2⟩ : V.cell? ⟨ba, oa + k * 2, none⟩ = some (.string os[k].key) ∧ V.cell? ⟨ba, oa + k * 2 + 1, none⟩ = some (.slice os[k].at_ os[k].vers.length os[k].cap) ∧ VersIn V os[k].at_ os[k].vers := by
        rcases HV.out.below HB.out with h | ⟨b9, o9, e9, h9, hc9⟩
        · rw [h] at hlt; simp at hlt
        · cases e9; exact hc9 k hlt
      have HVk := Lib.hid (fun (u : World) (hu : Below V.heap.size V u) => (d2.below hu : VersIn u os[k].at_ os[k].vers))
      have hop : os[k].plain := HP.out _ (List.getElem_mem hlt)
      have HOP := Lib.hid hop
      have hol : os[k].vers.length ≤ 1048576 := HL.out _ (List.getElem_mem hlt)
      have i1 : (k : Int) < (os.length : Int) := by omega
      have y3 : w.heap.size < V.heap.size := by omega
      have y4 : w.heap.size + 1 < V.heap.size := by omega
      have y5 : ba < V.heap.size := by omega
      have q0 : V.cell? ⟨w.heap.size, 0, none⟩ = some (.slice (some ⟨ba, oa, none⟩) os.length cap) ∧ V.cell? ⟨w.heap.size + 1, 0, none⟩ = some (.int .i64 v.id) ∧ V.cell? ⟨w.heap.size + 1, 1, none⟩ = some (.string v.text) ∧ V.cell? ⟨w.heap.size + 1, 2, none⟩ = some (.bool v.gone) ∧ V.cell? ⟨ba, oa + k * 2 + 1, none⟩ = some (.slice os[k].at_ os[k].vers.length os[k].cap) ∧ w.heap.size < V.heap.size ∧ w.heap.size + 1 < V.heap.size ∧ ba < V.heap.size := ⟨c0, e0, e1, e2, d1, y3, y4, y5⟩
      have q : V.drew.cell? ⟨w.heap.size, 0, none⟩ = some (.slice (some ⟨ba, oa, none⟩) os.length cap) ∧ V.drew.cell? ⟨w.heap.size + 1, 0, none⟩ = some (.int .i64 v.id) ∧ V.drew.cell? ⟨w.heap.size + 1, 1, none⟩ = some (.string v.text) ∧ V.drew.cell? ⟨w.heap.size + 1, 2, none⟩ = some (.bool v.gone) ∧ V.drew.cell? ⟨ba, oa + k * 2 + 1, none⟩ = some (.slice os[k].at_ os[k].vers.length os[k].cap) ∧ w.heap.size < V.drew.heap.size ∧ w.heap.size + 1 < V.drew.heap.size ∧ ba < V.drew.heap.size := q0
      have nb : some w.heap.size ≠ r2.ownBlock := fun e => by have := (HR2.out _ e.symm).1; omega
      have nc : some (w.heap.size + 1) ≠ r2.ownBlock := fun e => by have := (HR2.out _ e.symm).1; omega
      have nd : some ba ≠ r2.ownBlock := fun e => by have := (HR2.out _ e.symm).1; omega
      clear hop d0 d2
      go_wp2_with fail
      go_region_held3 (fun u => u.cell? ⟨w.heap.size, 0, none⟩ = some (.slice (some ⟨ba, oa, none⟩) os.length cap) ∧ u.cell? ⟨w.heap.size + 1, 0, none⟩ = some (.int .i64 v.id) ∧ u.cell? ⟨w.heap.size + 1, 1, none⟩ = some (.string v.text) ∧ u.cell? ⟨w.heap.size + 1, 2, none⟩ = some (.bool v.gone) ∧ u.cell? ⟨ba, oa + k * 2 + 1, none⟩ = some (.slice os[k].at_ os[k].vers.length os[k].cap) ∧ w.heap.size < u.heap.size ∧ w.heap.size + 1 < u.heap.size ∧ ba < u.heap.size)
        (first | with_reducible exact q | with_reducible exact keepQ_allocD q | with_reducible exact keepQ_allocD (keepQ_allocD q) | with_reducible exact keepQ_alloc q | fail)
        (first
          | (refine step_append_ver0 (by rfl) _ _ 43 (by rfl) Try.underlying43 V.heap.size (.slice (some ⟨V.heap.size, 0, none⟩) 0 0) (by rfl) (emptyVers (heap_alloc_new _ _) (Nat.le_refl _)) os[k].at_ os[k].vers os[k].cap (by rfl) HOP.out.1 (HVk.out _ (show Below V.heap.size V ((V.alloc (.cells #[] 27)).drew) from ((Below.refl _ _).alloc (Nat.le_refl _) _).drew)) (by omega) (by simp <;> omega) (by simp) ?_; intro g cp wC hown hgrow; have hbC := below_new (show Below V.heap.size V ((V.alloc (.cells #[] 27)).drew) from ((Below.refl _ _).alloc (Nat.le_refl _) _).drew) hgrow (fun g e => (by cases e; first | exact Nat.le_refl _ | exact Nat.le_succ _)); have q := keepQ hbC q0; have HO := Lib.hid (Go.Proofs.Ytjijichgoodocaa.ownsRow_of_below HO.out hbC); have HI := Lib.hid hown; have hgl : V.heap.size ≤ g := (hown.lt g rfl).1; have szC := hbC.size; have HC := Lib.hid hbC; clear hown hgrow hbC)
          | (refine step_append_ver0 (by rfl) _ _ 43 (by rfl) Try.underlying43 V.heap.size (.slice (some ⟨V.heap.size, 0, none⟩) 0 0) (by rfl) ((emptyVers (heap_alloc_new V _) (Nat.le_refl _)).alloc _) os[k].at_ os[k].vers os[k].cap (by rfl) HOP.out.1 (HVk.out _ (show Below V.heap.size V (((V.alloc (.cells #[] 27)).alloc (.cells #[.int .i64 v.id, .string v.text, .bool v.gone] 27)).drew) from (((Below.refl _ _).alloc (Nat.le_refl _) _).alloc (by simp) _).drew)) (by omega) (by simp <;> omega) (by simp) ?_; intro g cp wC hown hgrow; have hbC := below_new (show Below V.heap.size V (((V.alloc (.cells #[] 27)).alloc (.cells #[.int .i64 v.id, .string v.text, .bool v.gone] 27)).drew) from (((Below.refl _ _).alloc (Nat.le_refl _) _).alloc (by simp) _).drew) hgrow (fun g e => (by cases e; first | exact Nat.le_refl _ | exact Nat.le_succ _)); have q := keepQ hbC q0; have HO := Lib.hid (Go.Proofs.Ytjijichgoodocaa.ownsRow_of_below HO.out hbC); have HI := Lib.hid hown; have hgl : V.heap.size ≤ g := (hown.lt g rfl).1; have szC := hbC.size; have HC := Lib.hid hbC; have HN := Lib.hid (vers_kept (show VersIn (((V.alloc (.cells #[] 27)).alloc (.cells #[.int .i64 v.id, .string v.text, .bool v.gone] 27)).drew) (some ⟨V.heap.size + 1, 0, none⟩) [v] from versIn_new (V.alloc (.cells #[] 27)) v 27 _ (by simp)) hgrow (by omega)); clear hown hgrow hbC)
          | (refine step_append_ver0 (by rfl) _ _ 43 (by rfl) Try.underlying43 V.heap.size (.slice (some ⟨V.heap.size + 1, 0, none⟩) 0 0) (by rfl) (show ((V.alloc (.cells #[.int .i64 v.id, .string v.text, .bool v.gone] 27)).alloc (.cells #[] 27)).drew.ownsRow V.heap.size 27 3 (.slice (some ⟨V.heap.size + 1, 0, none⟩) 0 0) 0 [] from emptyV2 V (.cells #[.int .i64 v.id, .string v.text, .bool v.gone] 27)) os[k].at_ os[k].vers os[k].cap (by rfl) HOP.out.1 (HVk.out _ (show Below V.heap.size V (((V.alloc (.cells #[.int .i64 v.id, .string v.text, .bool v.gone] 27)).alloc (.cells #[] 27)).drew) from (((Below.refl _ _).alloc (Nat.le_refl _) _).alloc (by simp) _).drew)) (by omega) (by simp <;> omega) (by simp) ?_; intro g cp wC hown hgrow; have hbC := below_new (show Below V.heap.size V (((V.alloc (.cells #[.int .i64 v.id, .string v.text, .bool v.gone] 27)).alloc (.cells #[] 27)).drew) from (((Below.refl _ _).alloc (Nat.le_refl _) _).alloc (by simp) _).drew) hgrow (fun g e => (by cases e; first | exact Nat.le_refl _ | exact Nat.le_succ _)); have q := keepQ hbC q0; have HO := Lib.hid (Go.Proofs.Ytjijichgoodocaa.ownsRow_of_below HO.out hbC); have HI := Lib.hid hown; have hgl : V.heap.size ≤ g := (hown.lt g rfl).1; have szC := hbC.size; have HC := Lib.hid hbC; have HN := Lib.hid (vers_kept (show VersIn (((V.alloc (.cells #[.int .i64 v.id, .string v.text, .bool v.gone] 27)).alloc (.cells #[] 27)).drew) (some ⟨V.heap.size, 0, none⟩) [v] from (versIn_new V v 27 _ rfl).below ((Below.refl _ _).alloc (Nat.le_refl _) _).drew) hgrow (by omega)); clear hown hgrow hbC)
          | (refine step_append_ver1 (by rfl) _ _ 43 (by rfl) Try.underlying43 V.heap.size (.slice (some ⟨g, 0, none⟩) os[k].vers.length cp) os[k].vers.length _ (by rfl) (HI.out.alloc _) (some ⟨wC.heap.size, 0, none⟩) v (by rfl) ⟨_, _, rfl⟩ (versIn_new wC v _ _ rfl) (by omega) (by first | exact szC | exact Nat.le_trans szC (by simp)) (by simp) ?_; intro g2 cp2 wD hown hgrow; have hbD := below_new (HC.out.alloc HC.out.size _) hgrow (fun g e => (by cases e; exact hgl)); have q := keepQ hbD q0; have HO := Lib.hid (Go.Proofs.Ytjijichgoodocaa.ownsRow_of_below HOV.out hbD); have HI2 := Lib.hid hown; have HD := Lib.hid hbD; have szD := hbD.size; clear hown hgrow hbD)
          | (refine step_append_ver1 (by rfl) _ _ 43 (by rfl) Try.underlying43 V.heap.size (.slice (some ⟨g, 0, none⟩) os[k].vers.length cp) os[k].vers.length _ (by rfl) HI.out (some ⟨V.heap.size + 1, 0, none⟩) v (by rfl) ⟨_, _, rfl⟩ HN.out (by omega) (by first | exact szC | exact Nat.le_trans szC (by simp)) (by simp) ?_; intro g2 cp2 wD hown hgrow; have hbD := below_new HC.out hgrow (fun g e => (by cases e; exact hgl)); have q := keepQ hbD q0; have HO := Lib.hid (Go.Proofs.Ytjijichgoodocaa.ownsRow_of_below HOV.out hbD); have HI2 := Lib.hid hown; have HD := Lib.hid hbD; have szD := hbD.size; clear hown hgrow hbD)
          | (refine step_append_ver1 (by rfl) _ _ 43 (by rfl) Try.underlying43 V.heap.size (.slice (some ⟨g, 0, none⟩) os[k].vers.length cp) os[k].vers.length _ (by rfl) HI.out (some ⟨V.heap.size, 0, none⟩) v (by rfl) ⟨_, _, rfl⟩ HN.out (by omega) (by first | exact szC | exact Nat.le_trans szC (by simp)) (by simp) ?_; intro g2 cp2 wD hown hgrow; have hbD := below_new HC.out hgrow (fun g e => (by cases e; exact hgl)); have q := keepQ hbD q0; have HO := Lib.hid (Go.Proofs.Ytjijichgoodocaa.ownsRow_of_below HOV.out hbD); have HI2 := Lib.hid hown; have HD := Lib.hid hbD; have szD := hbD.size; clear hown hgrow hbD)
          | (refine step_append_obj (by rfl) _ _ 23 (by rfl) Try.underlying23 w1.heap.size r2 k _ (by rfl) (HO.out.alloc _) (some ⟨wD.heap.size, 0, none⟩) [⟨key, some ⟨g2, 0, none⟩, cp2, os[k].vers ++ [v]⟩] 1 1 rfl (by rfl) (.inl ⟨_, _, rfl⟩) (objN HI2.out (by simp) (by simp [List.flatMap_append])) (by omega) (by simp; omega) ?_; intro r3 wE hown hgrow; have q := keepQ_far hgrow nb nc nd (keepQ_alloc q); have Y := Lib.hid (And.intro hown hgrow); clear hown hgrow)
          | fail)
      all_goals
        obtain ⟨hown, hgrow⟩ := Y.out
        have hBE : Below w.heap.size w wE := below_new ((HB.out.trans (HD.out.mono HB.out.size)).alloc (by omega) _) hgrow (fun g e => by have := (HR2.out g e).1; omega)
        have hI2 := HI2.out.alloc (.cells #[.string key, .slice (some ⟨g2, 0, none⟩) (os[k].vers.length + 1) cp2] 45)
        have hO2 := HO.out.alloc (.cells #[.string key, .slice (some ⟨g2, 0, none⟩) (os[k].vers.length + 1) cp2] 45)
        have hI := hI2.kept hgrow (own_diff hI2 hO2 (by decide))
        have hXD : Boxed wD (w.heap.size + 2) 25 (.slice none 0 0) := (HD.out.block (w.heap.size + 2) (show w.heap.size + 2 < V.heap.size by omega)).trans HX.out
        have hXD := hXD.alloc (.cells #[.string key, .slice (some ⟨g2, 0, none⟩) (os[k].vers.length + 1) cp2] 45)
        have hXE := hXD.kept hgrow (hXD.not_row (by decide) hO2)
        have c0 := q.1
        have szE : w1.heap.size ≤ wE.heap.size := by have := hgrow.size; simp at this; omega
        have HBE := Lib.hid hBE
        have HIE := Lib.hid hI
        have HXE := Lib.hid hXE
        have HOE := Lib.hid hown
        clear q hown hgrow hBE hI hI2 hO2 hXD hXE Y HI2 HO
        have p1 : (0 : Int) ≤ (k : Int) + 1 := by omega
        have p2 : (k : Int) + 1 ≤ (os.length : Int) := by omega
        have p3 : ((k : Int) + 1).toNat = k + 1 := by omega
        have p5 : k + 1 ≤ cap := by omega
        have p6 : (k : Int) + 1 ≤ (cap : Int) := by omega
        have hxl : w.heap.size < wE.heap.size := by omega
        obtain ⟨N, hN⟩ : ∃ N, k + 1 + (os.length - (k + 1)) = N := ⟨_, rfl⟩
        have HN9 := Lib.hid hN
        have h0N : 0 < N := by omega
        clear hN
        by_cases p4 : cap = k + 1
        all_goals
          go_wp2_with (at_builtin; (first | (refine wpList_append_objS rfl _ _ 23 rfl Try.underlying23 w1.heap.size r3 (k + 1) _ rfl HOE.out (some ⟨ba, oa + (k + 1) * 2, none⟩) (os.drop (k + 1)) (os.length - (k + 1)) _ N (List.length_drop ..) rfl (.inl ⟨_, _, rfl⟩) (ObjsIn.drop (HV.out.below HBE.out) (.inr rfl)) (by omega) (by omega) HN9.out h0N ?_) | (refine wpList_append_objS rfl _ _ 23 rfl Try.underlying23 w1.heap.size r3 (k + 1) _ rfl HOE.out (some ⟨ba, oa, none⟩) (os.drop (k + 1)) (os.length - (k + 1)) _ N (List.length_drop ..) rfl (.inl ⟨_, _, rfl⟩) (ObjsIn.drop (HV.out.below HBE.out) (.inl (by omega))) (by omega) (by omega) HN9.out h0N ?_)); intro g9 c9 w5 hown hgrow; have hB5 := below_new HBE.out hgrow (fun g e => (by have := (HOE.out.lt g e).1; omega)); have hI5 := HIE.out.kept hgrow (own_diff HIE.out HOE.out (by decide)); have hX5 := HXE.out.kept hgrow (HXE.out.not_row (by decide) HOE.out); have x0 := hX5.cell; have x1 := hX5.frozen; have HB5 := Lib.hid hB5; have HI5 := Lib.hid hI5; have HX5 := Lib.hid hX5; have HO5 := Lib.hid hown; clear hown hgrow hB5 hI5 hX5)
          refine bodyPost_ret (v := .agg #[.slice (some ⟨g9, 0, none⟩) N c9]) (by simp [results, Try.results83, go_sem, x0]) rfl ?_
          obtain ⟨v1, v2, v3, v4, v5⟩ := x_of_row (vs := os[k].vers ++ [v]) HI5.out (by simp) (by simp [List.flatMap_append])
          refine l2Put_fin (k := k) (b := true) (x := ⟨key, some ⟨g2, 0, none⟩, cp2, os[k].vers ++ [v]⟩) (n := N) HAT.out.1 HAT.out.2.1 HAT.out.2.2 rfl ?_ ?_ ?_ v1 v2 (v3.mono (by omega) (Nat.le_refl _)) v4 v5 HB5.out HX5.out (by omega)
          · simp [versAt, List.getElem?_eq_getElem hlt]
          · have := HN9.out; simp; omega
          · have h := Joins.ownsRow_le HO5.out (show w.heap.size ≤ w1.heap.size by omega)
            simpa using h
  · obtain rfl : b = false := HAT.out.2.2 (Nat.zero_le _)
    obtain rfl : k = 0 := by simpa using hkl
    have c0 : w1.cell? ⟨w.heap.size, 0, none⟩ = some (.slice none 0 0) := by simpa using c0
    go_upto_region 3 with (at_builtin; refine wpList_append_obj rfl _ _ 23 rfl Try.underlying23 w1.heap.size _ 0 [] rfl HO1.out none [] 0 0 rfl rfl (.inr ⟨rfl, rfl, rfl⟩) (.inl rfl) (by omega) (by simp) ?_; intro r2 V hown hgrow; have X := Lib.hid (And.intro hown hgrow); clear hown hgrow)
    obtain ⟨hown, hgrow⟩ := X.out
    have hown : V.ownsRow w1.heap.size 45 2 r2 0 [] := hown
    have hbV : Below w1.heap.size w1 V := below_new HBe.out hgrow (fun g e => by cases e; exact Nat.le_refl _)
    have c0 := (hbV.cell (p := ⟨w.heap.size, 0, none⟩) (show w.heap.size < w1.heap.size by omega)).trans c0
    have e0 := (hbV.cell (p := ⟨w.heap.size + 1, 0, none⟩) (show w.heap.size + 1 < w1.heap.size by omega)).trans e0
    have e1 := (hbV.cell (p := ⟨w.heap.size + 1, 1, none⟩) (show w.heap.size + 1 < w1.heap.size by omega)).trans e1
    have e2 := (hbV.cell (p := ⟨w.heap.size + 1, 2, none⟩) (show w.heap.size + 1 < w1.heap.size by omega)).trans e2
    have HX := Lib.hid ((hbV.block (w.heap.size + 2) (show w.heap.size + 2 < w1.heap.size by omega)).trans HX1.out : Boxed V (w.heap.size + 2) 25 (.slice none 0 0))
    have HB := Lib.hid (HB1.out.trans (hbV.mono HB1.out.size))
    have zV : w1.heap.size ≤ V.heap.size := hbV.size
    have hr2 : ∀ g, r2.ownBlock = some g → w1.heap.size ≤ g ∧ g < V.heap.size := fun g e => hown.lt g e
    have HR2 := Lib.hid hr2
    have HO := Lib.hid hown
    clear hown hgrow hbV X hr2
    have y3 : w.heap.size < V.heap.size := by omega
    have y4 : w.heap.size + 1 < V.heap.size := by omega
    have nb : some w.heap.size ≠ r2.ownBlock := fun e => by have := (HR2.out _ e.symm).1; omega
    go_upto_region 7 with (at_builtin; refine wpList_append_obj rfl _ _ 23 rfl Try.underlying23 w1.heap.size r2 0 _ rfl ((HO.out.alloc _).alloc _) (some ⟨V.heap.size + 1, 0, none⟩) [⟨key, some ⟨V.heap.size, 0, none⟩, 1, [v]⟩] 1 1 rfl rfl (.inl ⟨_, _, rfl⟩) (objsIn_new (V.alloc (.cells #[.int .i64 v.id, .string v.text, .bool v.gone] 27)) ⟨key, some ⟨V.heap.size, 0, none⟩, 1, [v]⟩ _ _ (by simp) (versIn_new V v _ _ rfl)) (by omega) (by simp; omega) ?_; intro r3 wE hown hgrow; have Y := Lib.hid (And.intro hown hgrow); clear hown hgrow)
    obtain ⟨hown, hgrow⟩ := Y.out
    have hBE : Below w.heap.size w wE := below_new ((HB.out.alloc (by omega) _).alloc (by simp; omega) _) hgrow (fun g e => by have := (HR2.out g e).1; omega)
    have hI0 := (newVer_row V v V.heap.size V.heap.size rfl (Nat.le_refl _)).alloc (.cells #[.string key, .slice (some ⟨V.heap.size, 0, none⟩) 1 1] 45)
    have hI := hI0.kept hgrow (own_diff hI0 ((HO.out.alloc _).alloc _) (by decide))
    have hXD := (((show Boxed V (w.heap.size + 2) 25 (.slice none 0 0) from HX.out).alloc (.cells #[.int .i64 v.id, .string v.text, .bool v.gone] 27)).alloc (.cells #[.string key, .slice (some ⟨V.heap.size, 0, none⟩) 1 1] 45))
    have hXE := hXD.kept hgrow (hXD.not_row (by decide) ((HO.out.alloc _).alloc _))
    have c0 : wE.cell? ⟨w.heap.size, 0, none⟩ = some (.slice none 0 0) := (hgrow.cell_far ⟨w.heap.size, 0, none⟩ (by simp; omega) nb).trans ((((Below.refl V.heap.size V).alloc (Nat.le_refl _) _).alloc (by simp) _ |>.cell (p := ⟨w.heap.size, 0, none⟩) y3).trans c0)
    have szE : w1.heap.size ≤ wE.heap.size := by have := hgrow.size; simp at this; omega
    have HBE := Lib.hid hBE
    have HIE := Lib.hid hI
    have HXE := Lib.hid hXE
    have HOE := Lib.hid hown
    clear hown hgrow hBE hI hI0 hXD hXE Y HO
    have hxl : w.heap.size < wE.heap.size := by omega
    go_wp2_with (at_builtin; refine wpList_append_objS rfl _ _ 23 rfl Try.underlying23 w1.heap.size r3 (0 + 1) _ rfl HOE.out none [] 0 0 1 rfl rfl (.inr ⟨rfl, rfl, rfl⟩) (.inl rfl) (by omega) (by omega) (by omega) (by omega) ?_; intro g9 c9 w5 hown hgrow; have hB5 := below_new HBE.out hgrow (fun g e => (by have := (HOE.out.lt g e).1; omega)); have hI5 := HIE.out.kept hgrow (own_diff HIE.out HOE.out (by decide)); have hX5 := HXE.out.kept hgrow (HXE.out.not_row (by decide) HOE.out); have x0 := hX5.cell; have x1 := hX5.frozen; have HB5 := Lib.hid hB5; have HI5 := Lib.hid hI5; have HX5 := Lib.hid hX5; have HO5 := Lib.hid hown; clear hown hgrow hB5 hI5 hX5)
    refine bodyPost_ret (v := .agg #[.slice (some ⟨g9, 0, none⟩) 1 c9]) (by simp [results, Try.results83, go_sem, x0]) rfl ?_
    obtain ⟨v1, v2, v3, v4, v5⟩ := x_of_row (vs := [v]) HI5.out (by simp) (by simp)
    refine l2Put_fin (os := []) (k := 0) (b := false) (x := ⟨key, some ⟨V.heap.size, 0, none⟩, 1, [v]⟩) (n := 1) HAT.out.1 HAT.out.2.1 HAT.out.2.2 rfl ?_ ?_ ?_ v1 v2 (v3.mono (by omega) (Nat.le_refl _)) v4 v5 HB5.out HX5.out (by omega)
    · simp [versAt]
    · simp
    · have h := Joins.ownsRow_le HO5.out (show w.heap.size ≤ w1.heap.size by omega)
      simpa using h
end Go.Proofs.Ytjijichgoodocaa
