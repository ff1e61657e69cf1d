/- Two rows joined: what comes of it, and the model's function. -/
import Derived.Test.YtjijichgoodocaaPmMgS
import Derived.Deep.Cut
namespace Go.Proofs.Ytjijichgoodocaa
open Go.RowKit

def CanMerge (ep : Int) (vs : List RowD) (k : Int) : Prop := 0 ≤ k ∧ k + 1 < vs.length ∧ ep < 99
def PmapMergeRel (ep : Int) (vs : List RowD) (k : Int) (ep' : Int) (vs' : List RowD) (b : Bool) : Prop :=
  (¬ PmapOkP ep vs ∧ ep' = 0 ∧ vs' = [] ∧ b = false) ∨ (PmapOkP ep vs ∧ ¬ CanMerge ep vs k ∧ ep' = ep ∧ vs' = vs ∧ b = false) ∨ (PmapOkP ep vs ∧ CanMerge ep vs k ∧ ep' = ep + 1 ∧ vs' = vs.take (k.toNat + 1) ++ vs.drop (k.toNat + 2) ∧ b = true)
theorem PmapMergeRel_unique {ep : Int} {vs : List RowD} {k e1 e2 : Int} {v1 v2 : List RowD} {b1 b2 : Bool} (h : PmapMergeRel ep vs k e1 v1 b1) (g : PmapMergeRel ep vs k e2 v2 b2) : e1 = e2 ∧ v1 = v2 ∧ b1 = b2 := by
  rcases h with ⟨h1, rfl, rfl, rfl⟩ | ⟨h1, h2, rfl, rfl, rfl⟩ | ⟨h1, h2, rfl, rfl, rfl⟩ <;> rcases g with ⟨g1, rfl, rfl, rfl⟩ | ⟨g1, g2, rfl, rfl, rfl⟩ | ⟨g1, g2, rfl, rfl, rfl⟩ <;> first | exact ⟨rfl, rfl, rfl⟩ | exact absurd h1 g1 | exact absurd g1 h1 | exact absurd h2 g2 | exact absurd g2 h2
theorem PmapMergeRel_len {ep : Int} {vs : List RowD} {k e1 : Int} {v1 : List RowD} {b1 : Bool} (h : PmapMergeRel ep vs k e1 v1 b1) : v1.length ≤ vs.length + 1 := by
  rcases h with ⟨_, _, rfl, _⟩ | ⟨_, _, _, rfl, _⟩ | ⟨_, _, _, rfl, _⟩ <;> simp <;> omega
def PmapMergePost (ep : Int) (vs : List RowD) (k : Int) (w : World) (e : Ending) (w' : World) : Prop := ∃ ep' vs' b, PmapMergeRel ep vs k ep' vs' b ∧ PmOutB ep' vs' b w e w'

set_option maxHeartbeats 1000000 in
theorem l5CanMerge_any (ep : Int) (a : Option Addr) (vs : List RowD) (cap : Nat) (k : Int) (w : World) (hlen : vs.length ≤ 1048576) :
    Calls Try.prog 186 #[.agg #[.int .i64 ep, .slice a vs.length cap], .int .i64 k] w fun e w' => ∃ b : Bool, e = .returned (.bool b) ∧ (b = true ↔ CanMerge ep vs k) ∧ Below w.heap.size w w' := by
  cases hI : inB k 0 ((vs.length : Int) - 2)
  · go_enter Try.func186, Try.ntmps186
    go_wp2_with (go_at_call 138; refine (l1In_is hI _).mono ?_; rintro e w' ⟨rfl, rfl⟩)
    go_ret
    exact ⟨false, rfl, by simp only [Bool.false_eq_true, false_iff]; intro h; simp [inB] at hI; have := h.1; have := h.2.1; omega, (Below.refl _ _).alloc (Nat.le_refl _) _⟩
  · by_cases h9 : ep < 99
    · go_enter Try.func186, Try.ntmps186
      go_wp2_with (go_at_call 138; refine (l1In_is hI _).mono ?_; rintro e w' ⟨rfl, rfl⟩)
      go_ret
      exact ⟨true, rfl, by simp only [true_iff]; simp [inB] at hI; exact ⟨by omega, by omega, h9⟩, (Below.refl _ _).alloc (Nat.le_refl _) _⟩
    · have h9' : decide (ep < 99) = false := by simpa using h9
      go_enter Try.func186, Try.ntmps186
      go_wp2_with (go_at_call 138; refine (l1In_is hI _).mono ?_; rintro e w' ⟨rfl, rfl⟩)
      go_ret
      exact ⟨false, rfl, by simp only [Bool.false_eq_true, false_iff]; intro h; have := h.2.2; omega, (Below.refl _ _).alloc (Nat.le_refl _) _⟩

theorem pmAt_none (w : World) (lo : Nat) : PmAt w lo w.heap.size none [] := ⟨.inl rfl, .inl rfl, (fun b off e => by cases e), Nat.le_refl _⟩
theorem PmAt.setT {u : World} {lo hi r : Nat} {o : Nat} {x : Value} {a : Option Addr} {vs : List RowD} (h : PmAt u lo hi a vs) (hr : ∀ b off, a = some ⟨b, off, none⟩ → r ≠ b) : PmAt (u.setCell ⟨r, o, none⟩ x) lo hi a vs := by
  have ht : Turned (fun k => k = r) u (u.setCell ⟨r, o, none⟩ x) := (Turned.refl (fun k => k = r) u).setCell (p := ⟨r, o, none⟩) rfl x
  have ho : OffS (fun k => k = r) a := fun b off e k => hr b off e k.symm
  exact ⟨h.in1.turned ho ht, h.fr1.turned ho ht, h.l1, by simpa using h.le⟩
end Go.Proofs.Ytjijichgoodocaa

/- What keeps a map of parts ok: two rows put together, a row put in. -/
namespace Go.Proofs.Ytjijichgoodocaa
open Go.RowKit

theorem pmapOk_mk {ep : Int} {vs : List RowD} (h1 : ∀ v ∈ vs, okB keyB 6 v.f0 = true ∧ inB v.f1 0 2 = true) (h2 : ∀ h : 0 < vs.length, vs[0].f0.toList = []) (h3 : (vs.map fun v => v.f0.toList).Pairwise (· < ·)) (h4 : inB (vs.length : Int) 1 5 = true) (h5 : inB ep 1 99 = true) : PmapOkP ep vs := by
  refine ⟨fun i hi _ => ⟨(h1 _ (List.getElem_mem hi)).1, fun e => by subst e; rw [h2 hi]; rfl, fun j hj e => ?_, (h1 _ (List.getElem_mem hi)).2⟩, h4, h5⟩
  subst e
  have := List.pairwise_iff_getElem.1 h3 j (j + 1) (by simpa using hj) (by simpa using hi) (by omega)
  simp only [List.getElem_map] at this
  exact (leB_no _ _).2 this
theorem pmapOk_rows {ep : Int} {vs : List RowD} (h : PmapOkP ep vs) : ∀ v ∈ vs, okB keyB 6 v.f0 = true ∧ inB v.f1 0 2 = true := fun v hv => by
  obtain ⟨i, hi, rfl⟩ := List.getElem_of_mem hv
  obtain ⟨q1, _, _, q4⟩ := h.1 i hi hi
  exact ⟨q1, q4⟩
theorem pmapOk_up {ep : Int} {vs : List RowD} (h : PmapOkP ep vs) : (vs.map fun v => v.f0.toList).Pairwise (· < ·) := by
  rw [List.pairwise_iff_getElem]
  intro i j hi hj hij
  simp only [List.getElem_map]
  exact pmap_mono h (by simpa using hi) (by simpa using hj) hij
theorem inB_iff (n a b : Int) : inB n a b = true ↔ a ≤ n ∧ n ≤ b := by simp [inB]
theorem pmapOk_merge {ep : Int} {vs : List RowD} {k : Nat} (h : PmapOkP ep vs) (hk : k + 1 < vs.length) (he : ep < 99) : PmapOkP (ep + 1) (vs.take (k + 1) ++ vs.drop (k + 2)) := by
  have hs : (vs.take (k + 1) ++ vs.drop (k + 2)).Sublist vs := by
    have e : vs = vs.take (k + 1) ++ vs.drop (k + 1) := (List.take_append_drop _ _).symm
    conv => rhs; rw [e]
    refine List.Sublist.append (List.Sublist.refl _) ?_
    rw [show k + 2 = 1 + (k + 1) by omega, Nat.add_comm 1, ← List.drop_drop]
    exact List.drop_sublist _ _
  have h4 := (inB_iff _ _ _).1 h.2.1
  have h5 := (inB_iff _ _ _).1 h.2.2
  refine pmapOk_mk (fun v hv => pmapOk_rows h v (hs.subset hv)) (fun h0 => ?_) (List.Pairwise.sublist (hs.map _) (pmapOk_up h)) ((inB_iff _ _ _).2 ?_) ((inB_iff _ _ _).2 (by omega))
  · rw [List.getElem_append_left (by rw [List.length_take]; omega), List.getElem_take]
    exact pmap_first h (by omega)
  · rw [List.length_append, List.length_take, List.length_drop]; omega
theorem lt_of_le_ne {x y : List UInt8} (h1 : ¬ y < x) (h2 : x ≠ y) : x < y := by
  by_cases q : x < y
  · exact q
  · exact absurd (List.le_antisymm (show x ≤ y from h1) (show y ≤ x from q)) h2
theorem pmapOk_split {ep : Int} {vs : List RowD} {key : ByteArray} {node : Int} {k : Nat} (h : PmapOkP ep vs) (hC : CanSplit ep vs key node) (hF : FindAt vs key k) : PmapOkP (ep + 1) (splitAt vs key node k) := by
  obtain ⟨c1, c2, c3, c4, c5⟩ := hC
  have hk := hF.1.1
  have h4 := (inB_iff _ _ _).1 h.2.1
  have h5 := (inB_iff _ _ _).1 h.2.2
  unfold keyOkB at c1
  rw [Bool.and_eq_true] at c1
  obtain ⟨n1, n2⟩ := c1
  have hup := pmapOk_up h
  have below : ∀ i (hi : i < vs.length), i ≤ k → vs[i].f0.toList < key.toList := by
    intro i hi hik
    have hkk : vs[k].f0.toList < key.toList := by
      refine lt_of_le_ne ?_ (fun e => c5 ⟨k, hk, e⟩)
      by_cases k0 : k = 0
      · subst k0
        rw [pmap_first h hk]; exact List.not_lt_nil _
      · have := hF.1.2 k (by omega) (Nat.le_refl _)
        rw [loOf, dif_pos hk] at this
        exact (leB_iff _ _).1 this
    by_cases e : i = k
    · subst e; exact hkk
    · exact List.lt_trans (pmap_mono h hi hk (by omega)) hkk
  have above : ∀ i (hi : i < vs.length), k < i → key.toList < vs[i].f0.toList := by
    intro i hi hik
    have h1 : k + 1 < vs.length := by omega
    have hn := hF.2 h1
    rw [loOf, dif_pos h1] at hn
    have hn := (leB_no _ _).1 hn
    by_cases e : i = k + 1
    · subst e; exact hn
    · exact List.lt_trans hn (pmap_mono h h1 hi (by omega))
  refine pmapOk_mk (fun v hv => ?_) (fun h0 => ?_) ?_ ((inB_iff _ _ _).2 (by rw [splitAt_len hk]; omega)) ((inB_iff _ _ _).2 (by omega))
  · rcases List.mem_append.1 hv with hv | hv
    · exact pmapOk_rows h v (List.mem_of_mem_take hv)
    · rcases List.mem_cons.1 hv with rfl | hv
      · exact ⟨n2, c2⟩
      · exact pmapOk_rows h v (List.mem_of_mem_drop hv)
  · simp only [splitAt]
    rw [List.getElem_append_left (by rw [List.length_take]; omega), List.getElem_take]
    exact pmap_first h (by omega)
  · unfold splitAt
    rw [List.map_append, List.map_cons, List.pairwise_append, List.map_take, List.map_drop]
    refine ⟨hup.sublist (List.take_sublist _ _), List.pairwise_cons.2 ⟨fun x hx => ?_, hup.sublist (List.drop_sublist _ _)⟩, fun x hx y hy => ?_⟩
    · rw [← List.map_drop] at hx
      obtain ⟨v, hv, rfl⟩ := List.mem_map.1 hx
      obtain ⟨i, hi, rfl⟩ := List.getElem_of_mem hv
      rw [List.length_drop] at hi
      rw [List.getElem_drop]
      exact above _ (by omega) (by omega)
    · rw [← List.map_take] at hx
      obtain ⟨v, hv, rfl⟩ := List.mem_map.1 hx
      obtain ⟨i, hi, rfl⟩ := List.getElem_of_mem hv
      rw [List.length_take] at hi
      rw [List.getElem_take]
      have hlt := below i (by omega) (by omega)
      rcases List.mem_cons.1 hy with rfl | hy
      · exact hlt
      · rw [← List.map_drop] at hy
        obtain ⟨v, hv, rfl⟩ := List.mem_map.1 hy
        obtain ⟨j, hj, rfl⟩ := List.getElem_of_mem hv
        rw [List.length_drop] at hj
        rw [List.getElem_drop]
        exact List.lt_trans hlt (above _ (by omega) (by omega))
end Go.Proofs.Ytjijichgoodocaa

/- A row parted, as the model does it. -/
namespace Go.Proofs.Ytjijichgoodocaa
open Go.RowKit

theorem bp_no {P : Prop} {w w' : World} (h : ¬ P) (hb : Below w.heap.size w w') : BoolPost P w (.returned (.bool false)) w' := ⟨false, rfl, by simpa using h, hb⟩
theorem bp_yes {P : Prop} {w w' : World} (h : P) (hb : Below w.heap.size w w') : BoolPost P w (.returned (.bool true)) w' := ⟨true, rfl, by simpa using h, hb⟩
theorem find_from {vs : List RowD} {key : ByteArray} : ∀ (d k : Nat), vs.length - k ≤ d → FindTo vs key k → ∃ j, FindAt vs key j
  | 0, k, hd, h => absurd h.1 (by omega)
  | d + 1, k, hd, h => by
    by_cases hlt : k + 1 < vs.length
    · cases hl : leB (loOf vs (k + 1)) key
      · exact ⟨k, h, fun _ => hl⟩
      · exact find_from d (k + 1) (by omega) ⟨hlt, fun i h1 h2 => by
          by_cases e : i = k + 1
          · subst e; exact hl
          · exact h.2 i h1 (by omega)⟩
    · exact ⟨k, h, fun g => absurd g hlt⟩
theorem find_ex {vs : List RowD} (key : ByteArray) (h0 : 0 < vs.length) : ∃ k, FindAt vs key k := find_from vs.length 0 (by omega) ⟨h0, fun i h1 h2 => by omega⟩

theorem l5Find_is {vs : List RowD} {key : ByteArray} {k : Nat} (hF : FindAt vs key k) (ep : Int) (a : Option Addr) (cap : Nat) (w : World) (hv : RowsIn w a vs) (hlen : vs.length ≤ 1048576) :
    Calls Try.prog 189 #[.agg #[.int .i64 ep, .slice a vs.length cap], .string key] w fun e w' => e = .returned (.int .i64 (k : Int)) ∧ Below w.heap.size w w' :=
  (l5Find_any ep a vs cap key w hv (by have := hF.1.1; omega) hlen).mono fun _ _ ⟨j, he, hj, hb⟩ => by
    obtain rfl := hF.unique hj
    exact ⟨he, hb⟩

theorem l1Key_b {s : ByteArray} {b : Bool} (h : keyOkB s = b) (hs : s.size ≤ maxLen) (w : World) :
    Calls Try.prog 79 #[.string s] w fun e w' => e = .returned (.bool b) ∧ Below w.heap.size w w' := (h ▸ l1Key_any s w hs).mono fun _ _ ⟨a, b⟩ => ⟨a, b ▸ Below.refl _ _⟩
theorem l1In_b {n lo hi : Int} {b : Bool} (h : inB n lo hi = b) (w : World) :
    Calls Try.prog 138 #[.int .i64 n, .int .i64 lo, .int .i64 hi] w fun e w' => e = .returned (.bool b) ∧ Below w.heap.size w w' := (h ▸ l1In_any n lo hi w).mono fun _ _ ⟨a, b⟩ => ⟨a, b ▸ Below.refl _ _⟩

set_option maxRecDepth 100000 in
set_option maxHeartbeats 2000000 in
theorem l5CanSplit_any (ep : Int) (a : Option Addr) (vs : List RowD) (cap : Nat) (key : ByteArray) (node : Int) (w : World) (hv : RowsIn w a vs) (hP : PmapOkP ep vs) (hlen : vs.length ≤ 1048576) (hkey : key.size ≤ maxLen) :
    Calls Try.prog 166 #[.agg #[.int .i64 ep, .slice a vs.length cap], .string key, .int .i64 node] w (BoolPost (CanSplit ep vs key node) w) := by
  have hpos := hP.pos
  obtain ⟨k, hF⟩ := find_ex key hpos
  have hkl := hF.1.1
  rcases hv with hnil | ⟨b1, o1, rfl, hb1, hc1⟩
  · rw [hnil] at hpos; simp at hpos
  obtain ⟨W1, hW1⟩ : ∃ W1, w.alloc (.cells #[.int .i64 ep, .slice (some ⟨b1, o1, none⟩) vs.length cap] 90) = W1 := ⟨_, rfl⟩
  have B1 : Below w.heap.size w W1 := by rw [← hW1]; exact (Below.refl _ _).alloc (Nat.le_refl _) _
  have c0 : W1.cell? ⟨w.heap.size, 0, none⟩ = some (.int .i64 ep) := by rw [← hW1]; simp [go_sem]
  have c1 : W1.cell? ⟨w.heap.size, 1, none⟩ = some (.slice (some ⟨b1, o1, none⟩) vs.length cap) := by rw [← hW1]; simp [go_sem]
  have hr := (B1.cell (p := ⟨b1, o1 + k * 2, none⟩) hb1).trans (hc1 k hkl).1
  have x0 := cell_regrown c0
  have x1 := cell_regrown c1
  have x2 := cell_regrown hr
  have HV := Lib.hid ((show RowsIn w (some ⟨b1, o1, none⟩) vs from .inr ⟨b1, o1, rfl, hb1, hc1⟩).below B1)
  have HB := Lib.hid B1
  have HF := Lib.hid hF
  have HP := Lib.hid hP
  have HH := Lib.hid (show hasRow vs key ↔ (vs[k]'hkl).f0.toList = key.toList from hasRow_find hP hF)
  clear hc1 hF hP B1 c0 c1 hr
  have hle : (vs.length : Int) ≤ 1048576 := by omega
  have hki : (k : Int) < (vs.length : Int) := by omega
  have hk0 : (0 : Int) ≤ (k : Int) := by omega
  cases hK : keyOkB key
  · go_enter Try.func166, Try.ntmps166
    go_wp2_with fail
    clear hW1
    refine wp_region_quiet_below (by kernel_rfl) (by kernel_rfl) ?_
    repeat (go_big_quiet_step ((go_at_call 79; exact Calls.regrown_of (l1Key_b hK hkey _))))
    refine wpQuiet_nil ?_
    intro _ hw'
    obtain ⟨⟨dq, osq⟩, hw''⟩ := hw'
    subst hw''
    go_wp2_with fail
    go_ret
    exact bp_no (fun h => by rw [h.1] at hK; cases hK) (HB.out.trans ((below_regrown _ _ _).mono HB.out.size))
  cases hI : inB node 0 2
  · go_enter Try.func166, Try.ntmps166
    go_wp2_with fail
    clear hW1
    refine wp_region_quiet_below (by kernel_rfl) (by kernel_rfl) ?_
    repeat (go_big_quiet_step (first | (go_at_call 79; exact Calls.regrown_of (l1Key_b hK hkey _)) | (go_at_call 138; exact Calls.regrown_of (l1In_b hI _))))
    refine wpQuiet_nil ?_
    intro _ hw'
    obtain ⟨⟨dq, osq⟩, hw''⟩ := hw'
    subst hw''
    go_wp2_with fail
    go_ret
    exact bp_no (fun h => by rw [h.2.1] at hI; cases hI) (HB.out.trans ((below_regrown _ _ _).mono HB.out.size))
  by_cases h5 : vs.length < 5
  case neg =>
    have h5' : decide ((vs.length : Int) < 5) = false := by simp; omega
    go_enter Try.func166, Try.ntmps166
    go_wp2_with fail
    clear hW1
    refine wp_region_quiet_below (by kernel_rfl) (by kernel_rfl) ?_
    repeat (go_big_quiet_step (first | (go_at_call 79; exact Calls.regrown_of (l1Key_b hK hkey _)) | (go_at_call 138; exact Calls.regrown_of (l1In_b hI _))))
    refine wpQuiet_nil ?_
    intro _ hw'
    obtain ⟨⟨dq, osq⟩, hw''⟩ := hw'
    subst hw''
    go_wp2_with fail
    go_ret
    exact bp_no (fun h => by have := h.2.2.1; omega) (HB.out.trans ((below_regrown _ _ _).mono HB.out.size))
  have h5' : decide ((vs.length : Int) < 5) = true := by simp; omega
  by_cases h9 : ep < 99
  case neg =>
    have h9' : decide (ep < 99) = false := by simpa using h9
    go_enter Try.func166, Try.ntmps166
    go_wp2_with fail
    clear hW1
    refine wp_region_quiet_below (by kernel_rfl) (by kernel_rfl) ?_
    repeat (go_big_quiet_step (first | (go_at_call 79; exact Calls.regrown_of (l1Key_b hK hkey _)) | (go_at_call 138; exact Calls.regrown_of (l1In_b hI _))))
    refine wpQuiet_nil ?_
    intro _ hw'
    obtain ⟨⟨dq, osq⟩, hw''⟩ := hw'
    subst hw''
    go_wp2_with fail
    go_ret
    exact bp_no (fun h => by have := h.2.2.2.1; omega) (HB.out.trans ((below_regrown _ _ _).mono HB.out.size))
  have h9' : decide (ep < 99) = true := by simpa using h9
  go_enter Try.func166, Try.ntmps166
  go_wp2_with fail
  clear hW1
  refine wp_region_quiet_below (by kernel_rfl) (by kernel_rfl) ?_
  repeat (go_big_quiet_step (first | (go_at_call 79; exact Calls.regrown_of (l1Key_b hK hkey _)) | (go_at_call 138; exact Calls.regrown_of (l1In_b hI _)) | (go_at_call 189; exact Calls.regrown_of (l5Find_is HF.out ep _ cap _ (HV.out.below (below_regrown _ _ _)) hlen))))
  refine wpQuiet_nil ?_
  intro _ hw'
  obtain ⟨⟨dq, osq⟩, hw''⟩ := hw'
  subst hw''
  go_wp2_with fail
  go_ret
  exact ⟨!(vs[k].f0.toList == key.toList), rfl, by
    constructor
    · intro h
      refine ⟨hK, hI, h5, h9, fun g => ?_⟩
      have h2 := HH.out.1 g
      rw [h2] at h
      simp at h
    · intro h
      have h2 := fun e => h.2.2.2.2 (HH.out.2 e)
      simpa using h2, HB.out.trans ((below_regrown _ _ _).mono HB.out.size)⟩
end Go.Proofs.Ytjijichgoodocaa

/- A row parted, as the model makes it. -/
namespace Go.Proofs.Ytjijichgoodocaa
open Go.RowKit

theorem news2 (w : World) (x y : Value) (t : TypeId) (g : Nat) (hg : w.heap.size = g) : ∀ j u, [x, y][j]? = some u → (w.alloc (.cells #[x, y] t)).cell? ((⟨g, 0, none⟩ : Addr).add j) = some u := by
  subst hg
  exact World.news_of_block (heap_alloc_new w _)
theorem split_cells {vs : List RowD} {key : ByteArray} {node : Int} {k : Nat} : (splitAt vs key node k).flatMap rowCells = (vs.take (k + 1)).flatMap rowCells ++ [.string key, .int .i64 node] ++ (vs.drop (k + 1)).flatMap rowCells := by
  simp [splitAt, rowCells, List.flatMap_append, List.flatMap_cons]

set_option maxRecDepth 100000 in
set_option maxHeartbeats 2000000 in
theorem l5Split_any (ep : Int) (a : Option Addr) (vs : List RowD) (cap k : Nat) (key : ByteArray) (node : Int) (w : World) (hv : RowsIn w a vs) (hF : FindAt vs key k) (hcap : vs.length ≤ cap) (hcm : cap ≤ maxLen) (hep : 0 ≤ ep) (hep2 : ep ≤ 99) (hlen : vs.length ≤ 1048576) :
    Calls Try.prog 168 #[.agg #[.int .i64 ep, .slice a vs.length cap], .string key, .int .i64 node] w (PmOut (ep + 1) (splitAt vs key node k) w) := by
  have hk := hF.1.1
  have HF := Lib.hid hF
  clear hF
  rcases hv with hnil | ⟨b1, o1, rfl, hb1, hc1⟩
  · rw [hnil] at hk; simp at hk
  unfold maxLen at hcm
  have HC := Lib.hid hc1
  have HV := Lib.hid (show RowsIn w (some ⟨b1, o1, none⟩) vs from .inr ⟨b1, o1, rfl, hb1, hc1⟩)
  clear hc1
  obtain ⟨i0, hi, hz0, hz1, hz2⟩ := info_parts infoRow
  obtain ⟨W0, hW0⟩ : ∃ W0, (w.alloc (.cells #[.int .i64 ep, .slice (some ⟨b1, o1, none⟩) vs.length cap] 90)).alloc (.cells #[.int .i64 0, .slice none 0 0] 90) = W0 := ⟨_, rfl⟩
  have B0 : Below w.heap.size w W0 := by rw [← hW0]; exact ((Below.refl _ _).alloc (Nat.le_refl _) _).alloc (by simp) _
  have y1 : w.heap.size + 1 < W0.heap.size := by rw [← hW0]; simp
  have e0 : W0.cell? ⟨w.heap.size, 0, none⟩ = some (.int .i64 ep) := by rw [← hW0]; simp [go_sem]
  have e1 : W0.cell? ⟨w.heap.size, 1, none⟩ = some (.slice (some ⟨b1, o1, none⟩) vs.length cap) := by rw [← hW0]; simp [go_sem]
  have h0 : W0.cell? ⟨w.heap.size + 1, 0, none⟩ = some (.int .i64 0) := by rw [← hW0]; simp [go_sem]
  have h1 : W0.cell? ⟨w.heap.size + 1, 1, none⟩ = some (.slice none 0 0) := by rw [← hW0]; simp [go_sem]
  have j0 : W0.frozen? ⟨w.heap.size + 1, 0, none⟩ = false := by rw [← hW0]; simp [go_sem]
  have j1 : W0.frozen? ⟨w.heap.size + 1, 1, none⟩ = false := by rw [← hW0]; simp [go_sem]
  have y0 : w.heap.size < W0.heap.size := by omega
  have HB0 := Lib.hid B0
  clear B0
  go_enter Try.func168, Try.ntmps168
  go_wp2_with fail
  clear hW0
  refine (l5Find_is HF.out ep _ cap _ (HV.out.below HB0.out) hlen).mono ?_
  rintro e W1 ⟨rfl, hbf⟩
  have B1 : Below w.heap.size w W1 := HB0.out.trans (hbf.mono HB0.out.size)
  have z1 : w.heap.size + 1 < W1.heap.size := Nat.lt_of_lt_of_le y1 hbf.size
  have c0 := (hbf.cell (p := ⟨w.heap.size, 0, none⟩) y0).trans e0
  have c1 := (hbf.cell (p := ⟨w.heap.size, 1, none⟩) y0).trans e1
  have d0 := (hbf.cell (p := ⟨w.heap.size + 1, 0, none⟩) y1).trans h0
  have d1 := (hbf.cell (p := ⟨w.heap.size + 1, 1, none⟩) y1).trans h1
  have f0 := (hbf.frozen (p := ⟨w.heap.size + 1, 0, none⟩) y1).trans j0
  have f1 := (hbf.frozen (p := ⟨w.heap.size + 1, 1, none⟩) y1).trans j1
  have z0 : w.heap.size < W1.heap.size := by omega
  have hb2 : b1 < W1.heap.size := Nat.lt_of_lt_of_le hb1 B1.size
  clear hbf e0 e1 h0 h1 j0 j1 y0 y1
  have HD := Lib.hid (fun (u : World) (hu : Below W1.heap.size W1 u) => (fun i h => ⟨(hu.cell (p := ⟨b1, o1 + i * 2, none⟩) hb2).trans ((B1.cell (p := ⟨b1, o1 + i * 2, none⟩) hb1).trans (HC.out i h).1), (hu.cell (p := ⟨b1, o1 + i * 2 + 1, none⟩) hb2).trans ((B1.cell (p := ⟨b1, o1 + i * 2 + 1, none⟩) hb1).trans (HC.out i h).2)⟩ : ∀ i (h : i < vs.length), u.cell? ⟨b1, o1 + i * 2, none⟩ = some (.string vs[i].f0) ∧ u.cell? ⟨b1, o1 + i * 2 + 1, none⟩ = some (.int .i64 vs[i].f1)))
  have HB1 := Lib.hid B1
  clear B1
  have ht1 : (vs.take (k + 1)).length = k + 1 := by simp; omega
  have HT1 := Lib.hid ht1
  clear ht1
  go_upto_region 3 with (at_builtin; refine wpList_append_lies _ rfl _ _ 88 rfl W1.heap.size 98 i0 (.agg #[.string ⟨#[]⟩, .int .i64 0]) 2 24 Try.underlying88 hi hz0 hz1 hz2 rfl (by decide) _ 0 [] rfl (emptyRows (heap_alloc_new _ _) (Nat.le_refl _)) ⟨b1, o1, none⟩ (k + 1) cap ((vs.take (k + 1)).flatMap rowCells) rfl (by rw [rows_len, HT1.out]) (rows_take_news (by omega) (HD.out _ ((Below.refl _ _).alloc (Nat.le_refl _) _))) (rows_one _) (by omega) (by unfold maxLen; omega) (by omega) (by simp) _ rfl ?_; intro g cp w2 hown hgrow hat hlt2; have hbA := below_append1 hgrow; have X := Lib.hid (And.intro hown hbA); clear hown hgrow hat hlt2 hbA)
  obtain ⟨hown1, hbA⟩ := X.out
  rw [Nat.zero_add, List.nil_append] at hown1
  have hg1 := (hown1.lt g rfl).1
  have HO1 := Lib.hid hown1
  have HA1 := Lib.hid hbA
  have hs1 : W1.heap.size ≤ w2.heap.size := hbA.size
  clear X hown1 hbA
  go_wp2_with (at_builtin; refine wpList_append_lies _ rfl _ _ 88 rfl W1.heap.size 98 i0 (.agg #[.string ⟨#[]⟩, .int .i64 0]) 2 24 Try.underlying88 hi hz0 hz1 hz2 rfl (by decide) _ (k + 1) ((vs.take (k + 1)).flatMap rowCells) rfl (HO1.out.alloc _) ⟨w2.heap.size, 0, none⟩ 1 1 [.string key, .int .i64 node] rfl rfl (news2 _ _ _ _ _ rfl) (fun u hu => by simp at hu; rcases hu with rfl | rfl <;> rfl) (by omega) (by unfold maxLen; omega) (by omega) (by simp; omega) _ rfl ?_; intro g3 cp3 w3 hown hgrow hat hlt2; have X := Lib.hid (And.intro hown hgrow); clear hown hgrow hat hlt2)
  obtain ⟨hown3, hgr3⟩ := X.out
  have hbB : Below W1.heap.size W1 w3 := Below.grown (HA1.out.alloc hs1 _) hgr3 (by simp; omega) (fun j hj => (HO1.out.lt j hj).1)
  have hg3 := (hown3.lt g3 rfl).1
  have c0' := (hbB.cell (p := ⟨w.heap.size, 0, none⟩) z0).trans c0
  have c1' := (hbB.cell (p := ⟨w.heap.size, 1, none⟩) z0).trans c1
  have d0' := (hbB.cell (p := ⟨w.heap.size + 1, 0, none⟩) z1).trans d0
  have d1' := (hbB.cell (p := ⟨w.heap.size + 1, 1, none⟩) z1).trans d1
  have f0' := (hbB.frozen (p := ⟨w.heap.size + 1, 0, none⟩) z1).trans f0
  have f1' := (hbB.frozen (p := ⟨w.heap.size + 1, 1, none⟩) z1).trans f1
  have HO := Lib.hid hown3
  have HA := Lib.hid hbB
  have HG := Lib.hid (fun (w4 : World) (h : w3.drew.grownBy w4 (some g3)) => Below.grown (hbB.drew) h hbB.size (fun j hj => by cases hj; exact hg3))
  have hs2 : W1.heap.size ≤ w3.heap.size := hbB.size
  clear X hown3 hgr3 hbB HO1 HA1 hs1 hg1 c0 c1 d0 d1 f0 f1
  have hw1 : IntKind.i64.wrap ((k : Int) + 1) = (k : Int) + 1 := by rw [IntKind.wrap_i64]; omega
  have hwe : IntKind.i64.wrap (ep + 1) = ep + 1 := by rw [IntKind.wrap_i64]; omega
  have HL := Lib.hid (splitAt_len (key := key) (node := node) hk)
  by_cases hlast : k + 1 < vs.length
  · have HT2 := Lib.hid (show (vs.drop (k + 1)).length = vs.length - (k + 1) by simp)
    have q1 : (0 : Int) ≤ (k : Int) + 1 := by omega
    have q2 : (k : Int) + 1 ≤ (vs.length : Int) := by omega
    have q3 : ((k : Int) + 1).toNat = k + 1 := by omega
    have q4 : ¬ cap = k + 1 := by omega
    have q5 : k + 1 ≤ cap := by omega
    go_region_law (refine step_append_lies _ rfl (.tmp 28) (.tmp 33) 88 rfl W1.heap.size 98 i0 (.agg #[.string ⟨#[]⟩, .int .i64 0]) 2 24 Try.underlying88 hi hz0 hz1 hz2 rfl (by decide) _ (k + 1 + 1) _ rfl HO.out.drew ⟨b1, o1 + (k + 1) * 2, none⟩ (vs.length - (k + 1)) (cap - (k + 1)) ((vs.drop (k + 1)).flatMap rowCells) rfl (by rw [rows_len, HT2.out]) (rows_drop_news (by omega) (HD.out _ HA.out.drew)) (rows_one _) (by omega) (by unfold maxLen; omega) (by omega) hs2 _ rfl ?_; intro g2 cp2 w4 hown hgrow hat hlt2; have hbB := HG.out _ hgrow; have c0'' := (hbB.cell (p := ⟨w.heap.size, 0, none⟩) z0).trans ((HA.out.cell (p := ⟨w.heap.size, 0, none⟩) z0).symm.trans c0'); have d0'' := (hbB.cell (p := ⟨w.heap.size + 1, 0, none⟩) z1).trans ((HA.out.cell (p := ⟨w.heap.size + 1, 0, none⟩) z1).symm.trans d0'); have d1'' := (hbB.cell (p := ⟨w.heap.size + 1, 1, none⟩) z1).trans ((HA.out.cell (p := ⟨w.heap.size + 1, 1, none⟩) z1).symm.trans d1'); have f0'' := (hbB.frozen (p := ⟨w.heap.size + 1, 0, none⟩) z1).trans ((HA.out.frozen (p := ⟨w.heap.size + 1, 0, none⟩) z1).symm.trans f0'); have f1'' := (hbB.frozen (p := ⟨w.heap.size + 1, 1, none⟩) z1).trans ((HA.out.frozen (p := ⟨w.heap.size + 1, 1, none⟩) z1).symm.trans f1'); have X := Lib.hid (And.intro hown hbB); clear hown hgrow hat hlt2 hbB)
    all_goals
      go_wp2_with fail
      refine bodyPost_ret (v := .agg #[.int .i64 (ep + 1), .slice (some ⟨g2, 0, none⟩) (k + 1 + 1 + (vs.length - (k + 1))) cp2]) (by simp [results, Try.results168, go_sem, d0'', d1'']) rfl ?_
      obtain ⟨hown, hbB⟩ := X.out
      have hl : (splitAt vs key node k).length = k + 1 + 1 + (vs.length - (k + 1)) := by rw [HL.out]; omega
      rw [← split_cells, ← hl] at hown
      have hg := (hown.lt g2 rfl).1
      exact ⟨_, _, by rw [hl], (pmAt_own (lo := w.heap.size) hown (by omega)).set2 (by omega), ((HB1.out.trans (hbB.mono (by omega))).setCell (p := ⟨w.heap.size + 1, 0, none⟩) (by simp) _).setCell (p := ⟨w.heap.size + 1, 1, none⟩) (by simp) _, own_cap hown⟩
  · have HT2 := Lib.hid (show vs.drop (k + 1) = [] by rw [List.drop_eq_nil_iff]; omega)
    have hl : (splitAt vs key node k).length = k + 1 + 1 := by rw [HL.out]; omega
    have hown2 : w3.ownsRow W1.heap.size 98 2 (.slice (some ⟨g3, 0, none⟩) (splitAt vs key node k).length cp3) (splitAt vs key node k).length ((splitAt vs key node k).flatMap rowCells) := by
      rw [hl, split_cells, HT2.out, List.flatMap_nil, List.append_nil]; exact HO.out
    have HO2 := Lib.hid hown2
    have hcp := own_cap hown2
    rw [hl] at hcp
    have hcp1 := hcp.1
    have hzz : vs.length - (k + 1) = 0 := by omega
    have q1 : (0 : Int) ≤ (k : Int) + 1 := by omega
    have q2 : (k : Int) + 1 ≤ (vs.length : Int) := by omega
    have q3 : ((k : Int) + 1).toNat = k + 1 := by omega
    have q6 : ¬ (cp3 < k + 1 + 1) := by omega
    have HLL := Lib.hid hl
    clear hcp hown2 hl
    by_cases q4 : cap = k + 1
    all_goals
      go_region_law (fail)
    all_goals
      go_wp2_with fail
      refine bodyPost_ret (v := .agg #[.int .i64 (ep + 1), .slice (some ⟨g3, 0, none⟩) (k + 1 + 1) cp3]) (by simp [results, Try.results168, go_sem, d0', d1']) rfl ?_
      exact ⟨_, _, by rw [HLL.out], ((pmAt_own (lo := w.heap.size) HO2.out (by omega)).set2 (r := w.heap.size + 1) (by omega)).drewAt, (((HB1.out.trans (HA.out.mono (by omega))).setCell (p := ⟨w.heap.size + 1, 0, none⟩) (by simp) _).setCell (p := ⟨w.heap.size + 1, 1, none⟩) (by simp) _).drew, own_cap HO2.out⟩
end Go.Proofs.Ytjijichgoodocaa
