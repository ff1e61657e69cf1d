/- Maps of parts in memory that belong to a call: where they lie, copies, equality, marks. -/
import Derived.Test.YtodpodgdhiadnaaLie
import Derived.Test.YtodpodgdhiadnaaRows
import Derived.WalkKit
namespace Go.Proofs.Ytodpodgdhiadnaa
open Go.RowKit

structure PmAt (w : World) (lo hi : Nat) (a : Option Addr) (vs : List RowD) : Prop where
  in1 : RowsIn w a vs
  fr1 : Free w a (vs.length * 2)
  l1 : Lies lo hi a
  le : hi ≤ w.heap.size
theorem PmAt.below {w w' : World} {lo hi : Nat} {a : Option Addr} {vs : List RowD} (h : PmAt w lo hi a vs) (hb : Below w.heap.size w w') : PmAt w' lo hi a vs := ⟨h.in1.below hb, h.fr1.below hb, h.l1, Nat.le_trans h.le hb.size⟩
theorem PmAt.turned {S : Nat → Prop} {w w' : World} {lo hi : Nat} {a : Option Addr} {vs : List RowD} (h : PmAt w lo hi a vs) (hS : ∀ b, lo ≤ b → b < hi → ¬ S b) (ht : Turned S w w') : PmAt w' lo hi a vs :=
  ⟨h.in1.turned (h.l1.off hS) ht, h.fr1.turned (h.l1.off hS) ht, h.l1, Nat.le_trans h.le ht.size⟩

theorem PmAt.drewAt {w : World} {lo hi : Nat} {a : Option Addr} {vs : List RowD} (h : PmAt w lo hi a vs) : PmAt w.drew lo hi a vs := ⟨h.in1, h.fr1, h.l1, h.le⟩

def PmOut (ep : Int) (vs : List RowD) (w : World) (e : Ending) (w' : World) : Prop :=
  ∃ a c, e = .returned (.agg #[.int .i64 ep, .slice a vs.length c]) ∧ PmAt w' w.heap.size w'.heap.size a vs ∧ Below w.heap.size w w' ∧ vs.length ≤ c ∧ c ≤ maxLen
/-- .. beside a bool. -/
def PmOutB (ep : Int) (vs : List RowD) (b : Bool) (w : World) (e : Ending) (w' : World) : Prop :=
  ∃ a c, e = .returned (.tuple #[.agg #[.int .i64 ep, .slice a vs.length c], .bool b]) ∧ PmAt w' w.heap.size w'.heap.size a vs ∧ Below w.heap.size w w'

def PmMarked (lo hi : Nat) (a : Option Addr) (k n : Nat) (w : World) (e : Ending) (w' : World) : Prop :=
  e = .returned (.int .i64 ((k + n * 2 : Nat) : Int)) ∧ PmAt w' lo hi a (Rowmarks k n) ∧ Turned (fun b => lo ≤ b ∧ b < hi) w w'

def rowCells (v : RowD) : List Value := [.string v.f0, .int .i64 v.f1]
theorem own_rows {w : World} {base : Nat} {v : Value} {vs : List RowD} (h : w.ownsRow base 102 2 v vs.length (vs.flatMap rowCells)) :
    ∃ a cap, v = .slice a vs.length cap ∧ RowsIn w a vs ∧ Free w a (vs.length * 2) ∧ Lies base w.heap.size a ∧ vs.length ≤ cap ∧ cap ≤ maxLen := by
  have hcap := h.2
  rcases Joins.ownsRow_forms h with ⟨rfl, h0⟩ | ⟨g, cap, rfl⟩
  · have : vs = [] := List.eq_nil_of_length_eq_zero h0
    subst this
    exact ⟨none, 0, rfl, .inl rfl, .inl rfl, (fun b off e => by cases e), Nat.le_refl _, Nat.zero_le _⟩
  · have hg := h.lt g rfl
    refine ⟨some ⟨g, 0, none⟩, cap, rfl, .inr ⟨g, 0, rfl, hg.2, fun i hi => ?_⟩, own_free h, (fun b off e => by cases e; exact hg), ?_⟩
    case refine_2 =>
      rcases hcap with ⟨e, _⟩ | ⟨g', c', cur, e, _, _, q1, q2, _⟩
      · cases e
      · cases e; exact ⟨q1, q2⟩
    have e0 := h.cellAt (i * 2) (by omega)
    have e1 := h.cellAt (i * 2 + 1) (by omega)
    have f0 := flat_at rowCells 2 (fun _ => rfl) vs i 0 hi (by omega)
    have f1 := flat_at rowCells 2 (fun _ => rfl) vs i 1 hi (by omega)
    rw [Nat.add_zero] at f0
    simp only [Nat.zero_add]
    exact ⟨e0.trans f0, e1.trans f1⟩
/-- The cells of a slice, as an append takes them. -/
theorem rows_news {w : World} {b off : Nat} {vs : List RowD} (hc : ∀ i (h : i < vs.length), w.cell? ⟨b, off + i * 2, none⟩ = some (.string vs[i].f0) ∧ w.cell? ⟨b, off + i * 2 + 1, none⟩ = some (.int .i64 vs[i].f1)) :
    ∀ j u, (vs.flatMap rowCells)[j]? = some u → w.cell? ((⟨b, off, none⟩ : Addr).add j) = some u := fun j u hu => by
  have hadd : (⟨b, off, none⟩ : Addr).add j = ⟨b, off + j, none⟩ := by unfold Addr.add; split <;> simp_all
  have hl := flat_len rowCells 2 (fun _ => rfl) vs
  have hj : j < vs.length * 2 := by
    rcases Nat.lt_or_ge j (vs.length * 2) with h | h
    · exact h
    · rw [List.getElem?_eq_none (by omega)] at hu; cases hu
  have hi : j / 2 < vs.length := by omega
  rw [hadd]
  have hat := flat_at rowCells 2 (fun _ => rfl) vs (j / 2) (j % 2) hi (by omega)
  rw [show j / 2 * 2 + j % 2 = j by omega, hu] at hat
  rcases Nat.mod_two_eq_zero_or_one j with h0 | h0
  · rw [h0] at hat
    have := (hc (j / 2) hi).1
    rw [show off + j / 2 * 2 = off + j by omega] at this
    rw [this]; simpa [rowCells] using hat.symm
  · rw [h0] at hat
    have := (hc (j / 2) hi).2
    rw [show off + j / 2 * 2 + 1 = off + j by omega] at this
    rw [this]; simpa [rowCells] using hat.symm
theorem rows_one (vs : List RowD) : ∀ u ∈ vs.flatMap rowCells, u.oneCell' = true := fun u hu => by
  obtain ⟨v, _, h⟩ := List.mem_flatMap.1 hu
  simp [rowCells] at h
  rcases h with rfl | rfl <;> rfl
end Go.Proofs.Ytodpodgdhiadnaa

/- The order of strings, byte by byte: it is List's own. -/
namespace Go.Proofs.Ytodpodgdhiadnaa
open Go.RowKit

theorem bytesLess_eq : ∀ (x y : List UInt8), Op.bytesLess x y = decide (x < y)
  | [], [] => by simp [Op.bytesLess]
  | _ :: _, [] => by simp [Op.bytesLess]
  | [], _ :: _ => by simp [Op.bytesLess]
  | a :: x, b :: y => by
    rw [Op.bytesLess, bytesLess_eq x y]
    simp only [List.cons_lt_cons_iff]
    by_cases h1 : a < b <;> by_cases h2 : a = b <;> by_cases h3 : x < y <;> simp [h1, h2, h3]

theorem bytesLess_le (x y : List UInt8) : (Op.bytesLess x y || x == y) = !(Op.bytesLess y x) := by
  rw [bytesLess_eq, bytesLess_eq, Bool.eq_iff_iff]
  simp only [Bool.or_eq_true, decide_eq_true_eq, beq_iff_eq, Bool.not_eq_true', decide_eq_false_iff_not]
  constructor
  · rintro (h | rfl)
    · exact List.lt_asymm h
    · exact List.lt_irrefl _
  · intro h
    by_cases e : x = y
    · exact .inr e
    · exact .inl (Decidable.byContradiction fun k => e (List.le_antisymm (List.not_lt.1 h) (List.not_lt.1 k)))
end Go.Proofs.Ytodpodgdhiadnaa

/- When a map of parts is ok, as the model says it. -/
namespace Go.Proofs.Ytodpodgdhiadnaa
open Go.RowKit

def RowOkAt (vs : List RowD) (i : Nat) (h : i < vs.length) : Prop := okB keyB 6 vs[i].f0 = true ∧ (i = 0 → vs[i].f0.toList.isEmpty = true) ∧ (∀ j (hj : j < vs.length), j + 1 = i → (Op.bytesLess vs[i].f0.toList vs[j].f0.toList || vs[i].f0.toList == vs[j].f0.toList) = false) ∧ inB vs[i].f1 0 2 = true
def RowsOkTo (vs : List RowD) (k : Nat) : Prop := ∀ i (h : i < vs.length), i < k → RowOkAt vs i h
def PmapOkP (ep : Int) (vs : List RowD) : Prop := RowsOkTo vs vs.length ∧ inB (vs.length : Int) 1 5 = true ∧ inB ep 1 99 = true
def PmOkPost (ep : Int) (vs : List RowD) (w : World) (e : Ending) (w' : World) : Prop := ∃ b : Bool, e = .returned (.bool b) ∧ (b = true ↔ PmapOkP ep vs) ∧ Below w.heap.size w w'
theorem RowsOkTo.zero (vs : List RowD) : RowsOkTo vs 0 := fun _ _ h => absurd h (by omega)
theorem RowsOkTo.succ {vs : List RowD} {k : Nat} (h : RowsOkTo vs k) (hk : k < vs.length) (ho : RowOkAt vs k hk) : RowsOkTo vs (k + 1) := fun i hi hik => by
  by_cases e : i = k
  · subst e; exact ho
  · exact h i hi (by omega)
theorem pm_not {ep : Int} {vs : List RowD} {k : Nat} (hk : k < vs.length) (h : ¬ RowOkAt vs k hk) : ¬ PmapOkP ep vs := fun g => h (g.1 k hk hk)

theorem l1Part_is {s : ByteArray} {b : Bool} (h : okB keyB 6 s = b) (hs : s.size ≤ maxLen) (w : World) :
    Calls Try.prog 121 #[.string s] w fun e w' => e = .returned (.bool b) ∧ w' = w := (h ▸ l1Part_any s w hs).mono fun _ _ ⟨a, b⟩ => ⟨a, b.symm⟩
theorem l1In_is {n lo hi : Int} {b : Bool} (h : inB n lo hi = b) (w : World) :
    Calls Try.prog 136 #[.int .i64 n, .int .i64 lo, .int .i64 hi] w fun e w' => e = .returned (.bool b) ∧ w' = w := (h ▸ l1In_any n lo hi w).mono fun _ _ ⟨a, b⟩ => ⟨a, b.symm⟩

set_option maxRecDepth 100000 in
set_option maxHeartbeats 1000000 in
theorem l5Ok_any (ep : Int) (a : Option Addr) (vs : List RowD) (cap : Nat) (w : World) (hv : RowsIn w a vs) (hf : ∀ v ∈ vs, v.fits) (hn : vs.length ≤ maxLen) :
    Calls Try.prog 135 #[.agg #[.int .i64 ep, .slice a vs.length cap]] w (PmOkPost ep vs w) := by
  unfold maxLen at hn
  have HV := Lib.hid hv
  have HF := Lib.hid hf
  clear hv hf
  go_enter Try.func135, Try.ntmps135
  go_wp2_with fail
  go_loopw [3] (fun i wr => ∃ k : Nat, k ≤ vs.length ∧ i = .int .i64 k ∧ Below (w.heap.size + 1) (w.alloc (.cells #[.int .i64 ep, .slice a vs.length cap] 80)) wr ∧ RowsOkTo vs k) (fun i _ => vs.length - (intOf i).toNat)
  case atStart => exact ⟨0, Nat.zero_le _, rfl, Below.refl _ _, RowsOkTo.zero _⟩
  case round =>
    obtain ⟨k, hk, hik, hB, hM⟩ := hrel
    have cm0 := hB.cell (p := ⟨w.heap.size, 0, none⟩) (by simp)
    have cm := hB.cell (p := ⟨w.heap.size, 1, none⟩) (by simp)
    simp [go_sem] at cm cm0
    have HW := Lib.hid (((Below.refl w.heap.size w).alloc (Nat.le_refl _) _).trans (hB.mono (by omega)))
    have HB := Lib.hid hB
    have HM := Lib.hid hM
    have hsz : w.heap.size < wr.heap.size := by have := hB.size; simp at this; omega
    clear hB hM
    by_cases hlt : k < vs.length
    · rcases HV.out.below HW.out with hnil | ⟨b1, o1, rfl, hb1, hc1⟩
      · rw [hnil] at hlt; simp at hlt
      obtain ⟨c0, c1⟩ := hc1 k hlt
      have hks : vs[k].f0.size ≤ maxLen := HF.out _ (List.getElem_mem hlt)
      have HC := Lib.hid hc1
      clear hc1
      rcases Nat.eq_zero_or_pos k with rfl | hk0
      · have hik0 : _ = Value.int .i64 0 := hik
        subst hik0
        clear hik
        simp only [Nat.zero_mul, Nat.add_zero] at c0 c1
        cases hK : okB keyB 6 vs[0].f0 <;> cases hE : vs[0].f0.toList.isEmpty <;> cases hN : inB vs[0].f1 0 2
        all_goals
          go_wp2_with fail
          go_quiet ((first | (go_at_call 121; exact Calls.quiet_of_same (l1Part_is hK hks _)) | (go_at_call 136; exact Calls.quiet_of_same (l1In_is hN _))))
          go_wp2_with fail
        all_goals first
          | (go_ret; exact ⟨false, rfl, by simpa using pm_not hlt (fun h => by first | (have := h.1; rw [hK] at this; exact absurd this (by decide)) | (have := h.2.1 rfl; rw [hE] at this; exact absurd this (by decide)) | (have := h.2.2.2; rw [hN] at this; exact absurd this (by decide))), Below.drewN (HW.out.alloc HW.out.size _) _⟩)
          | (go_roundw
             case rel => exact ⟨0 + 1, by omega, by go_num, Below.drewN (HB.out.alloc (by omega) _) _, HM.out.succ hlt ⟨hK, fun _ => hE, fun j hj e => by omega, hN⟩⟩
             case measure => simp [intOf]; omega)
      · obtain ⟨j, rfl⟩ : ∃ j, k = j + 1 := ⟨k - 1, by omega⟩
        have hj : j < vs.length := by omega
        have hwj : IntKind.i64.wrap (j : Int) = (j : Int) := by rw [IntKind.wrap_i64]; omega
        have hz0 : ((j : Int) + 1 == 0) = false := by rw [beq_eq_false_iff_ne]; omega
        obtain rfl := hik
        obtain ⟨d0, _⟩ := HC.out j hj
        cases hK : okB keyB 6 vs[j + 1].f0 <;> cases hO : (Op.bytesLess vs[j + 1].f0.toList vs[j].f0.toList || vs[j + 1].f0.toList == vs[j].f0.toList) <;> cases hN : inB vs[j + 1].f1 0 2
        all_goals
          go_wp2_with fail
          go_quiet ((first | (go_at_call 121; exact Calls.quiet_of_same (l1Part_is hK hks _)) | (go_at_call 136; exact Calls.quiet_of_same (l1In_is hN _))))
          go_wp2_with fail
        all_goals first
          | (go_ret; exact ⟨false, rfl, by simpa using pm_not hlt (fun h => by first | (have := h.1; rw [hK] at this; exact absurd this (by decide)) | (have := h.2.2.1 j hj rfl; rw [hO] at this; exact absurd this (by decide)) | (have := h.2.2.2; rw [hN] at this; exact absurd this (by decide))), Below.drewN (HW.out.alloc HW.out.size _) _⟩)
          | (go_roundw
             case rel => exact ⟨j + 1 + 1, by omega, by go_num, Below.drewN (HB.out.alloc (by omega) _) _, HM.out.succ hlt ⟨hK, fun h => by omega, fun j' hj' e => by obtain rfl : j' = j := (by omega); exact hO, hN⟩⟩
             case measure => simp [intOf]; omega)
    · obtain rfl := hik
      obtain rfl : k = vs.length := by omega
      cases hL : inB (vs.length : Int) 1 5 <;> cases hE : inB ep 1 99
      all_goals
        go_wp2_with (go_at_call 136; refine (l1In_any _ _ _ _).mono ?_; rintro e w' ⟨rfl, rfl⟩; first | rw [hL] | rw [hE])
        go_ret
      · exact ⟨false, rfl, by simp [PmapOkP, hL], HW.out⟩
      · exact ⟨false, rfl, by simp [PmapOkP, hL], HW.out⟩
      · exact ⟨false, rfl, by simp [PmapOkP, hE], HW.out⟩
      · exact ⟨true, rfl, by simp [PmapOkP, hL, hE]; exact HM.out, HW.out⟩

set_option maxHeartbeats 400000 in
theorem specPmapOk_any (ep : Int) (a : Option Addr) (vs : List RowD) (cap : Nat) (w : World) (hv : RowsIn w a vs) (hf : ∀ v ∈ vs, v.fits) (hn : vs.length ≤ maxLen) :
    Calls Try.prog 60 #[.agg #[.int .i64 ep, .slice a vs.length cap]] w (PmOkPost ep vs w) := by
  have HV := Lib.hid hv
  have HF := Lib.hid hf
  clear hv hf
  go_enter Try.func60, Try.ntmps60
  go_wp2_with fail
  have hb0 : Below w.heap.size w (w.alloc (.cells #[.int .i64 ep, .slice a vs.length cap] 80)) := (Below.refl _ _).alloc (Nat.le_refl _) _
  refine (l5Ok_any ep a vs cap _ (HV.out.below hb0) HF.out hn).mono ?_
  rintro e w2 ⟨b, rfl, hb, hb2⟩
  have HI := Lib.hid hb
  clear hb
  go_wp2_with fail
  go_ret
  exact ⟨b, rfl, HI.out, hb0.trans (hb2.mono (by simp))⟩
end Go.Proofs.Ytodpodgdhiadnaa
