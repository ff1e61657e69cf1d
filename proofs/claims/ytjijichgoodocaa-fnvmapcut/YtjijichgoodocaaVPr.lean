/- The keys of a span, the program's function. -/
import Derived.Test.YtjijichgoodocaaWithin2
import Derived.Test.YtjijichgoodocaaVmapAt
import Derived.Test.YtjijichgoodocaaMeetP
import Derived.Test.YtjijichgoodocaaCpV
namespace Go.Proofs.Ytjijichgoodocaa
open Go.RowKit

set_option maxRecDepth 100000 in
set_option maxHeartbeats 4000000 in
theorem vmapCut_any (a : Option Addr) (os : List ObjD) (cap : Nat) (lo hi : ByteArray) (w : World) (hv : ObjsIn w a os) (hf : ∀ o ∈ os, o.fits) (hp : ∀ o ∈ os, o.plain) (hn : os.length ≤ 1048576) (hl : ∀ o ∈ os, o.vers.length ≤ 1048576) (hlo : lo.size ≤ maxLen) (hhi : hi.size ≤ maxLen) :
    Calls Try.prog 28 #[.agg #[.slice a os.length cap], .agg #[.string lo, .string hi]] w (VmOut (cutF lo hi (os.map ObjD.kv)) w) := by
  have HV := Lib.hid hv
  have HF := Lib.hid hf
  have HP := Lib.hid hp
  have HL := Lib.hid hl
  have hn2 : os.length ≤ maxLen := by unfold maxLen; omega
  clear hv hf hp hl
  obtain ⟨W1, hW1⟩ : ∃ W1, ((w.alloc (.cells #[.slice a os.length cap] 25)).alloc (.cells #[.string lo, .string hi] 47)).alloc (.cells #[.slice none 0 0] 25) = W1 := ⟨_, rfl⟩
  have B1 : Below w.heap.size w W1 := by rw [← hW1]; exact (((Below.refl _ _).alloc (Nat.le_refl _) _).alloc (by simp) _).alloc (by simp <;> omega) _
  have z0 : w.heap.size < W1.heap.size := by rw [← hW1]; simp <;> omega
  have z1 : w.heap.size + 1 < W1.heap.size := by rw [← hW1]; simp <;> omega
  have z2 : w.heap.size + 1 + 1 < W1.heap.size := by rw [← hW1]; simp
  have c0 : W1.cell? ⟨w.heap.size, 0, none⟩ = some (.slice a os.length cap) := by rw [← hW1]; simp [go_sem]
  have s0 : W1.cell? ⟨w.heap.size + 1, 0, none⟩ = some (.string lo) := by rw [← hW1]; simp [go_sem]
  have s1 : W1.cell? ⟨w.heap.size + 1, 1, none⟩ = some (.string hi) := by rw [← hW1]; simp [go_sem]
  have r0 : W1.cell? ⟨w.heap.size + 1 + 1, 0, none⟩ = some (.slice none 0 0) := by rw [← hW1]; simp [go_sem]
  have fr0 : W1.frozen? ⟨w.heap.size + 1 + 1, 0, none⟩ = false := by rw [← hW1]; simp [go_sem]
  have HB1 := Lib.hid B1
  clear B1
  cases hS : spanOkB lo hi
  all_goals
    go_enter Try.func28, Try.ntmps28
    go_wp2_with fail
    clear hW1
    refine (vmapOk_any a os cap _ (HV.out.below HB1.out) HF.out hn2).mono ?_
    rintro e w1 ⟨b, rfl, hb, hb1⟩
    have HI := Lib.hid hb
    have c0x := (hb1.cell (p := ⟨w.heap.size, 0, none⟩) z0).trans c0
    have s0x := (hb1.cell (p := ⟨w.heap.size + 1, 0, none⟩) z1).trans s0
    have s1x := (hb1.cell (p := ⟨w.heap.size + 1, 1, none⟩) z1).trans s1
    have r0x := (hb1.cell (p := ⟨w.heap.size + 1 + 1, 0, none⟩) z2).trans r0
    have fr0x := (hb1.frozen (p := ⟨w.heap.size + 1 + 1, 0, none⟩) z2).trans fr0
    have y0 : w.heap.size < w1.heap.size := Nat.lt_of_lt_of_le z0 hb1.size
    have y1 : w.heap.size + 1 < w1.heap.size := Nat.lt_of_lt_of_le z1 hb1.size
    have y2 : w.heap.size + 1 + 1 < w1.heap.size := Nat.lt_of_lt_of_le z2 hb1.size
    have HBa := Lib.hid (HB1.out.trans (hb1.mono HB1.out.size))
    clear hb hb1
    cases b
    · go_wp2_with fail
      refine bodyPost_ret (v := .agg #[.slice none 0 0]) (by simp [results, Try.results28, go_sem, *]) rfl ?_
      refine ⟨none, [], 0, ?_, rfl, VmAt.nil _ _ _ (by simp), HBa.out.setCell (p := ⟨w.heap.size + 1 + 1, 0, none⟩) (by simp <;> omega) _⟩
      rw [cutF_no (fun h => absurd (HI.out.2 ((mapOk_kv os).2 h.1)) (by decide))]
      rfl
    have HY := Lib.hid ((mapOk_kv os).1 (HI.out.1 rfl))
    go_wp2_with fail
    refine (spanOk_is hS hlo hhi _).mono ?_
    rintro e w2 ⟨rfl, hb2⟩
    have c0 := (hb2.cell (p := ⟨w.heap.size, 0, none⟩) y0).trans c0x
    have s0 := (hb2.cell (p := ⟨w.heap.size + 1, 0, none⟩) y1).trans s0x
    have s1 := (hb2.cell (p := ⟨w.heap.size + 1, 1, none⟩) y1).trans s1x
    have r0 := (hb2.cell (p := ⟨w.heap.size + 1 + 1, 0, none⟩) y2).trans r0x
    have fr0 := (hb2.frozen (p := ⟨w.heap.size + 1 + 1, 0, none⟩) y2).trans fr0x
    have x2 : w.heap.size + 1 + 1 < w2.heap.size := Nat.lt_of_lt_of_le y2 hb2.size
    have HBb := Lib.hid (HBa.out.trans (hb2.mono HBa.out.size))
    clear c0x s0x s1x r0x fr0x hb2
  · go_wp2_with fail
    refine bodyPost_ret (v := .agg #[.slice none 0 0]) (by simp [results, Try.results28, go_sem, *]) rfl ?_
    refine ⟨none, [], 0, ?_, rfl, VmAt.nil _ _ _ (by simp), HBb.out.setCell (p := ⟨w.heap.size + 1 + 1, 0, none⟩) (by simp <;> omega) _⟩
    rw [cutF_no (fun h => by rw [hS] at h; exact absurd h.2 (by decide))]
    rfl
  · go_wp2_with fail
    refine (within_any a os cap lo hi _ (HV.out.below HBb.out) HP.out hn HL.out).mono ?_
    rintro e w3 ⟨va, cs, vc, hkv, rfl, hat, hb3⟩
    have r0x := (hb3.cell (p := ⟨w.heap.size + 1 + 1, 0, none⟩) x2).trans r0
    have fr0x := (hb3.frozen (p := ⟨w.heap.size + 1 + 1, 0, none⟩) x2).trans fr0
    have HK := Lib.hid hkv
    have HA := Lib.hid hat
    have x3 : w.heap.size + 1 + 1 < w3.heap.size := Nat.lt_of_lt_of_le x2 hb3.size
    have HBc := Lib.hid (HBb.out.trans (hb3.mono HBb.out.size))
    clear hkv hat hb3
    go_wp2_with fail
    refine bodyPost_ret (v := .agg #[.slice va cs.length vc]) (by simp [results, Try.results28, go_sem, *]) rfl ?_
    refine ⟨va, cs, vc, ?_, rfl, ?_, HBc.out.setCell (p := ⟨w.heap.size + 1 + 1, 0, none⟩) (by simp <;> omega) _⟩
    · rw [HK.out, cutF_yes HY.out hS]
    · exact (HA.out.turned (S := fun b => b = w.heap.size + 1 + 1) (fun b h1 h2 e => by omega) ((Turned.refl (fun b => b = w.heap.size + 1 + 1) _).setCell (p := ⟨w.heap.size + 1 + 1, 0, none⟩) rfl _)).lower (by omega)
end Go.Proofs.Ytjijichgoodocaa

/- The keys of a span, the model's function. -/
namespace Go.Proofs.Ytjijichgoodocaa
open Go.RowKit

set_option maxRecDepth 100000 in
set_option maxHeartbeats 4000000 in
theorem specVmapCut_any (a : Option Addr) (os : List ObjD) (cap : Nat) (lo hi : ByteArray) (w : World) (hv : ObjsIn w a os) (hf : ∀ o ∈ os, o.fits) (hp : ∀ o ∈ os, o.plain) (hn : os.length ≤ 1048576) (hl : ∀ o ∈ os, o.vers.length ≤ 1048576) (hlo : lo.size ≤ maxLen) (hhi : hi.size ≤ maxLen) :
    Calls Try.prog 29 #[.agg #[.slice a os.length cap], .agg #[.string lo, .string hi]] w (VmOut (cutF lo hi (os.map ObjD.kv)) w) := by
  have HV := Lib.hid hv
  have HF := Lib.hid hf
  have HP := Lib.hid hp
  have HL := Lib.hid hl
  have hn2 : os.length ≤ maxLen := by unfold maxLen; omega
  clear hv hf hp hl
  obtain ⟨W1, hW1⟩ : ∃ W1, ((w.alloc (.cells #[.slice a os.length cap] 25)).alloc (.cells #[.string lo, .string hi] 47)).alloc (.cells #[.slice none 0 0] 25) = W1 := ⟨_, rfl⟩
  have B1 : Below w.heap.size w W1 := by rw [← hW1]; exact (((Below.refl _ _).alloc (Nat.le_refl _) _).alloc (by simp) _).alloc (by simp <;> omega) _
  have z0 : w.heap.size < W1.heap.size := by rw [← hW1]; simp <;> omega
  have z1 : w.heap.size + 1 < W1.heap.size := by rw [← hW1]; simp <;> omega
  have z2 : w.heap.size + 1 + 1 < W1.heap.size := by rw [← hW1]; simp
  have c0 : W1.cell? ⟨w.heap.size, 0, none⟩ = some (.slice a os.length cap) := by rw [← hW1]; simp [go_sem]
  have s0 : W1.cell? ⟨w.heap.size + 1, 0, none⟩ = some (.string lo) := by rw [← hW1]; simp [go_sem]
  have s1 : W1.cell? ⟨w.heap.size + 1, 1, none⟩ = some (.string hi) := by rw [← hW1]; simp [go_sem]
  have r0 : W1.cell? ⟨w.heap.size + 1 + 1, 0, none⟩ = some (.slice none 0 0) := by rw [← hW1]; simp [go_sem]
  have fr0 : W1.frozen? ⟨w.heap.size + 1 + 1, 0, none⟩ = false := by rw [← hW1]; simp [go_sem]
  have HB1 := Lib.hid B1
  clear B1
  cases hS : spanOkB lo hi
  all_goals
    go_enter Try.func29, Try.ntmps29
    go_wp2_with fail
    clear hW1
    refine (l2Ok_any a os cap _ (HV.out.below HB1.out) HF.out hn2).mono ?_
    rintro e w1 ⟨b, rfl, hb, hb1⟩
    have HI := Lib.hid hb
    have c0x := (hb1.cell (p := ⟨w.heap.size, 0, none⟩) z0).trans c0
    have s0x := (hb1.cell (p := ⟨w.heap.size + 1, 0, none⟩) z1).trans s0
    have s1x := (hb1.cell (p := ⟨w.heap.size + 1, 1, none⟩) z1).trans s1
    have r0x := (hb1.cell (p := ⟨w.heap.size + 1 + 1, 0, none⟩) z2).trans r0
    have fr0x := (hb1.frozen (p := ⟨w.heap.size + 1 + 1, 0, none⟩) z2).trans fr0
    have y0 : w.heap.size < w1.heap.size := Nat.lt_of_lt_of_le z0 hb1.size
    have y1 : w.heap.size + 1 < w1.heap.size := Nat.lt_of_lt_of_le z1 hb1.size
    have y2 : w.heap.size + 1 + 1 < w1.heap.size := Nat.lt_of_lt_of_le z2 hb1.size
    have HBa := Lib.hid (HB1.out.trans (hb1.mono HB1.out.size))
    clear hb hb1
    cases b
    · go_wp2_with fail
      refine bodyPost_ret (v := .agg #[.slice none 0 0]) (by simp [results, Try.results29, go_sem, *]) rfl ?_
      refine ⟨none, [], 0, ?_, rfl, VmAt.nil _ _ _ (by simp), HBa.out.setCell (p := ⟨w.heap.size + 1 + 1, 0, none⟩) (by simp <;> omega) _⟩
      rw [cutF_no (fun h => absurd (HI.out.2 ((mapOk_kv os).2 h.1)) (by decide))]
      rfl
    have HY := Lib.hid ((mapOk_kv os).1 (HI.out.1 rfl))
    go_wp2_with fail
    refine (l1SpanOk_is hS hlo hhi _).mono ?_
    rintro e w2 ⟨rfl, hb2⟩
    have c0 := (hb2.cell (p := ⟨w.heap.size, 0, none⟩) y0).trans c0x
    have s0 := (hb2.cell (p := ⟨w.heap.size + 1, 0, none⟩) y1).trans s0x
    have s1 := (hb2.cell (p := ⟨w.heap.size + 1, 1, none⟩) y1).trans s1x
    have r0 := (hb2.cell (p := ⟨w.heap.size + 1 + 1, 0, none⟩) y2).trans r0x
    have fr0 := (hb2.frozen (p := ⟨w.heap.size + 1 + 1, 0, none⟩) y2).trans fr0x
    have x2 : w.heap.size + 1 + 1 < w2.heap.size := Nat.lt_of_lt_of_le y2 hb2.size
    have HBb := Lib.hid (HBa.out.trans (hb2.mono HBa.out.size))
    clear c0x s0x s1x r0x fr0x hb2
  · go_wp2_with fail
    refine bodyPost_ret (v := .agg #[.slice none 0 0]) (by simp [results, Try.results29, go_sem, *]) rfl ?_
    refine ⟨none, [], 0, ?_, rfl, VmAt.nil _ _ _ (by simp), HBb.out.setCell (p := ⟨w.heap.size + 1 + 1, 0, none⟩) (by simp <;> omega) _⟩
    rw [cutF_no (fun h => by rw [hS] at h; exact absurd h.2 (by decide))]
    rfl
  · go_wp2_with fail
    refine (l2Cut_any a os cap lo hi _ (HV.out.below HBb.out) HP.out hn HL.out).mono ?_
    rintro e w3 ⟨va, cs, vc, hkv, rfl, hat, hb3⟩
    have r0x := (hb3.cell (p := ⟨w.heap.size + 1 + 1, 0, none⟩) x2).trans r0
    have fr0x := (hb3.frozen (p := ⟨w.heap.size + 1 + 1, 0, none⟩) x2).trans fr0
    have HK := Lib.hid hkv
    have HA := Lib.hid hat
    have x3 : w.heap.size + 1 + 1 < w3.heap.size := Nat.lt_of_lt_of_le x2 hb3.size
    have HBc := Lib.hid (HBb.out.trans (hb3.mono HBb.out.size))
    clear hkv hat hb3
    go_wp2_with fail
    refine bodyPost_ret (v := .agg #[.slice va cs.length vc]) (by simp [results, Try.results29, go_sem, *]) rfl ?_
    refine ⟨va, cs, vc, ?_, rfl, ?_, HBc.out.setCell (p := ⟨w.heap.size + 1 + 1, 0, none⟩) (by simp <;> omega) _⟩
    · rw [HK.out, cutF_yes HY.out hS]
    · exact (HA.out.turned (S := fun b => b = w.heap.size + 1 + 1) (fun b h1 h2 e => by omega) ((Turned.refl (fun b => b = w.heap.size + 1 + 1) _).setCell (p := ⟨w.heap.size + 1 + 1, 0, none⟩) rfl _)).lower (by omega)
end Go.Proofs.Ytjijichgoodocaa

/- Maps without old versions, the model's function. -/
namespace Go.Proofs.Ytjijichgoodocaa
open Go.RowKit Go.Sort

theorem step_append_verM {w : World} {ops : Array Oper} {o : Oper} {a : Act} {K : Act → World → Prop} {Q : Exit → Act → World → Prop} {E : Prop} (hgd : o.guard = none) (s x : Operand) (t : TypeId)
    (ho : o.op = .call { callee := .builtin .append, args := #[s, x], argTypes := #[t, t] }) (ht : Try.prog.underlying t = some (.slice 27))
    (base : Nat) (v : Value) (n : Nat) (xs : List Value) (hs : a.eval s = v) (hown : w.ownsRow base 27 3 v n xs)
    (p : Option Addr) (vs : List VerD) (m c : Nat) (hx : a.eval x = .slice p m c) (hm : vs.length = m) (hp : (∃ b off, p = some ⟨b, off, none⟩) ∨ p = none ∧ vs = [] ∧ c = 0) (hvs : VersIn w p vs) (hnm : n + m ≤ 2097152) (hbase : base ≤ w.heap.size) (hv : v ≠ .slice none 0 0)
    (h : ∀ g cap w', w'.ownsRow base 27 3 (.slice (some ⟨g, 0, none⟩) (n + m) cap) (n + m) (xs ++ vs.flatMap verCells) → w.grownBy w' v.ownBlock → K (a.put o.dst (.slice (some ⟨g, 0, none⟩) (n + m) cap)) w') :
    if Region.wanted o (yielded ops a.tmps) = true then Oper.wp Try.prog o a w K Q else E := by
  subst hm
  exact step_append_ver hgd s x t ho ht base v n xs hs hown p vs c hx hp hvs hnm hbase hv h
def verLe (vs : List VerD) (id : Int) (i : Nat) : Prop := ∃ h : i < vs.length, vs[i].id ≤ id
def fromN (id : Int) (vs : List VerD) : Nat → Nat
  | 0 => 0
  | j + 1 => if h : j < vs.length then (if vs[j].id ≤ id then j else fromN id vs j) else fromN id vs j
theorem fromN_yes {id : Int} {vs : List VerD} {j : Nat} (h : j < vs.length) (hp : vs[j].id ≤ id) : fromN id vs (j + 1) = j := by rw [fromN, dif_pos h, if_pos hp]
theorem fromN_no {id : Int} {vs : List VerD} {j : Nat} (h : j < vs.length) (hp : ¬ vs[j].id ≤ id) : fromN id vs (j + 1) = fromN id vs j := by rw [fromN, dif_pos h, if_neg hp]
theorem fromN_le (id : Int) (vs : List VerD) : ∀ j, fromN id vs j ≤ j
  | 0 => Nat.le_refl _
  | j + 1 => by
    have := fromN_le id vs j
    rw [fromN]
    split
    · split <;> omega
    · omega
theorem fromN_lt (id : Int) (vs : List VerD) (h0 : 0 < vs.length) : ∀ j, j ≤ vs.length → fromN id vs j < vs.length
  | 0, _ => by simpa [fromN] using h0
  | j + 1, hj => by
    have := fromN_lt id vs h0 j (by omega)
    rw [fromN]
    split
    · split
      · omega
      · exact this
    · exact this
theorem exists_cut {vs : List VerD} (hu : VersUp vs vs.length) (id : Int) : ∀ m, m ≤ vs.length → ∃ r, r ≤ m ∧ (∀ i (h : i < vs.length), i < r → vs[i].id ≤ id) ∧ (∀ i (h : i < vs.length), r ≤ i → i < m → ¬ vs[i].id ≤ id)
  | 0, _ => ⟨0, Nat.le_refl _, fun i _ h => absurd h (by omega), fun i _ _ h => absurd h (by omega)⟩
  | m + 1, hm => by
    obtain ⟨r, hr, h1, h2⟩ := exists_cut hu id m (by omega)
    by_cases hp : (vs[m]'(by omega)).id ≤ id
    · have hrm : r = m := by
        rcases Nat.lt_or_ge r m with q | q
        · have := hu.mono (i := r) (j := m) (by omega) (by omega) q
          exact absurd (show vs[r].id ≤ id by omega) (h2 r (by omega) (Nat.le_refl _) q)
        · omega
      subst hrm
      refine ⟨r + 1, Nat.le_refl _, fun i h hi => ?_, fun i h h3 h4 => by omega⟩
      by_cases e : i = r
      · subst e; exact hp
      · exact h1 i h (by omega)
    · refine ⟨r, by omega, h1, fun i h h3 h4 => ?_⟩
      by_cases e : i = m
      · subst e; exact hp
      · exact h2 i h h3 (by omega)
theorem from_unread {vs : List VerD} {id : Int} (hu : VersUp vs vs.length) (h0 : 0 < vs.length) (hlt : fromN id vs vs.length < vs.length) :
    (if vs[fromN id vs vs.length].id ≤ id ∧ vs[fromN id vs vs.length].gone = true then fromN id vs vs.length + 1 else fromN id vs vs.length) = unreadN id vs := by
  obtain ⟨r, hr, h1, h2⟩ := exists_cut hu id vs.length (Nat.le_refl _)
  have hc : Cut (verP vs id) vs.length r := by
    refine ⟨hr, fun k hk => ?_, fun hlt => ?_⟩
    · rw [verP_at (by omega : k < vs.length)]
      have := h1 k (by omega) (by omega)
      simp; omega
    · rw [verP_at hlt]
      have := h2 r hlt (Nat.le_refl _) hlt
      simp; omega
  have hf : ∀ j, j ≤ vs.length → fromN id vs j = min r j - 1 := by
    intro j
    induction j with
    | zero => intro _; simp [fromN]
    | succ j ih =>
      intro hj
      by_cases q : j < r
      · rw [fromN_yes (by omega) (h1 j (by omega) q)]; omega
      · rw [fromN_no (by omega) (h2 j (by omega) (by omega) (by omega)), ih (by omega)]; omega
  have hfn := hf vs.length (Nat.le_refl _)
  have hup := cut_upN hu hc
  have hla := cut_up hu hc
  unfold unreadN
  rw [← hla, ← hup]
  have hq : fromN id vs vs.length = r - 1 := by rw [hfn]; omega
  by_cases q : r = 0
  · subst q
    rw [lastAt_zero]
    have e : fromN id vs vs.length = 0 := by omega
    have hn := h2 0 h0 (Nat.le_refl _) h0
    simp only [e]
    rw [if_neg (fun h => hn h.1)]
  · obtain ⟨t, rfl⟩ : ∃ t, r = t + 1 := ⟨r - 1, by omega⟩
    have e : fromN id vs vs.length = t := by omega
    rw [lastAt_succ vs t (by omega)]
    have hp := h1 t (by omega) (by omega)
    simp only [e]
    by_cases g : vs[t].gone = true
    · rw [if_pos ⟨hp, g⟩, if_pos g]
    · rw [if_neg (fun h => g h.2), if_neg g]; omega
theorem from_unread2 {vs : List VerD} {id : Int} {F : Nat} (hu : VersUp vs vs.length) (h0 : 0 < vs.length) (hF : fromN id vs vs.length = F) (hlt : F < vs.length) :
    (if vs[F].id ≤ id ∧ vs[F].gone = true then F + 1 else F) = unreadN id vs := by
  subst hF; exact from_unread hu h0 hlt
def pruneIn (id : Int) (os : List ObjD) : List Kv := (os.map ObjD.kv).filterMap (pruneOne id)
theorem pruneIn_yes {id : Int} {pre : List ObjD} {o : ObjD} (h : unreadN id o.vers < o.vers.length) : pruneIn id (pre ++ [o]) = pruneIn id pre ++ [(o.key, o.vers.drop (unreadN id o.vers))] := by
  simp [pruneIn, pruneOne, ObjD.kv, h]
theorem pruneIn_no {id : Int} {pre : List ObjD} {o : ObjD} (h : ¬ unreadN id o.vers < o.vers.length) : pruneIn id (pre ++ [o]) = pruneIn id pre := by
  simp [pruneIn, pruneOne, ObjD.kv, h]
theorem pruneIn_len (id : Int) (os : List ObjD) : (pruneIn id os).length ≤ os.length := by
  have := List.length_filterMap_le (pruneOne id) (os.map ObjD.kv)
  simpa [pruneIn] using this

theorem keepV1 {c d : Nat} {o00 o10 : Nat} {x00 x10 : Value} {u v : World} (hb : Below u.heap.size u v) (h : u.cell? ⟨c, o00, none⟩ = some x00 ∧ u.cell? ⟨d, o10, none⟩ = some x10 ∧ c < u.heap.size ∧ d < u.heap.size) : v.cell? ⟨c, o00, none⟩ = some x00 ∧ v.cell? ⟨d, o10, none⟩ = some x10 ∧ c < v.heap.size ∧ d < v.heap.size := by
  obtain ⟨h0, h1, lc, ld⟩ := h
  exact ⟨(hb.cell (p := ⟨c, o00, none⟩) lc).trans h0, (hb.cell (p := ⟨d, o10, none⟩) ld).trans h1, Nat.lt_of_lt_of_le lc hb.size, Nat.lt_of_lt_of_le ld hb.size⟩
theorem keepV1_alloc {c d : Nat} {o00 o10 : Nat} {x00 x10 : Value} {u : World} {o : Obj} (h : u.cell? ⟨c, o00, none⟩ = some x00 ∧ u.cell? ⟨d, o10, none⟩ = some x10 ∧ c < u.heap.size ∧ d < u.heap.size) : (u.alloc o).cell? ⟨c, o00, none⟩ = some x00 ∧ (u.alloc o).cell? ⟨d, o10, none⟩ = some x10 ∧ c < (u.alloc o).heap.size ∧ d < (u.alloc o).heap.size := keepV1 ((Below.refl _ _).alloc (Nat.le_refl _) _) h
theorem keepV1_allocD {c d : Nat} {o00 o10 : Nat} {x00 x10 : Value} {u : World} {o : Obj} (h : u.drew.cell? ⟨c, o00, none⟩ = some x00 ∧ u.drew.cell? ⟨d, o10, none⟩ = some x10 ∧ c < u.drew.heap.size ∧ d < u.drew.heap.size) : (u.alloc o).drew.cell? ⟨c, o00, none⟩ = some x00 ∧ (u.alloc o).drew.cell? ⟨d, o10, none⟩ = some x10 ∧ c < (u.alloc o).drew.heap.size ∧ d < (u.alloc o).drew.heap.size := keepV1_alloc (u := u) h
theorem keepV1_far {c d : Nat} {o00 o10 : Nat} {x00 x10 : Value} {u v : World} {row : Option Nat} (hg : u.grownBy v row) (nc : some c ≠ row) (nd : some d ≠ row) (h : u.cell? ⟨c, o00, none⟩ = some x00 ∧ u.cell? ⟨d, o10, none⟩ = some x10 ∧ c < u.heap.size ∧ d < u.heap.size) : v.cell? ⟨c, o00, none⟩ = some x00 ∧ v.cell? ⟨d, o10, none⟩ = some x10 ∧ c < v.heap.size ∧ d < v.heap.size := by
  obtain ⟨h0, h1, lc, ld⟩ := h
  exact ⟨(hg.cell_far ⟨c, o00, none⟩ lc nc).trans h0, (hg.cell_far ⟨d, o10, none⟩ ld nd).trans h1, Nat.lt_of_lt_of_le lc hg.size, Nat.lt_of_lt_of_le ld hg.size⟩
theorem keepV1_set {c d g : Nat} {o00 o10 : Nat} {x00 x10 y : Value} {u : World} (nc : c ≠ g) (nd : d ≠ g) (h : u.cell? ⟨c, o00, none⟩ = some x00 ∧ u.cell? ⟨d, o10, none⟩ = some x10 ∧ c < u.heap.size ∧ d < u.heap.size) : (u.setCell ⟨g, 0, none⟩ y).cell? ⟨c, o00, none⟩ = some x00 ∧ (u.setCell ⟨g, 0, none⟩ y).cell? ⟨d, o10, none⟩ = some x10 ∧ c < (u.setCell ⟨g, 0, none⟩ y).heap.size ∧ d < (u.setCell ⟨g, 0, none⟩ y).heap.size := by
  obtain ⟨h0, h1, lc, ld⟩ := h
  have e : ∀ k, k ≠ g → ∀ o, (u.setCell ⟨g, 0, none⟩ y).cell? ⟨k, o, none⟩ = u.cell? ⟨k, o, none⟩ := fun k hk o => World.cell?_of_block (w := u) (a := ⟨k, o, none⟩) (Below.heap_setCell u ⟨g, 0, none⟩ y k hk)
  exact ⟨(e c nc _).trans h0, (e d nd _).trans h1, by simpa using lc, by simpa using ld⟩
end Go.Proofs.Ytjijichgoodocaa
