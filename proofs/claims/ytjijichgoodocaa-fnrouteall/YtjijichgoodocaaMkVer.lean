/- Versions in memory that belongs to a call: what marks leave, copies, and that what lies elsewhere stays. -/
import Derived.Test.YtjijichgoodocaaVmSpec
import Derived.Test.YtjijichgoodocaaLie
namespace Go.Proofs.Ytjijichgoodocaa
open Go.RowKit

def Vermarks (k n : Nat) : List VerD := (List.range n).map fun i => ⟨((k + i * 3 : Nat) : Int), mtext (k + i * 3 + 1), decide ((k + i * 3 + 2) % 3 = 0)⟩
theorem Vermarks_length (k n : Nat) : (Vermarks k n).length = n := by simp [Vermarks]
theorem Vermarks_at (k n i : Nat) (h : i < (Vermarks k n).length) : (Vermarks k n)[i] = ⟨((k + i * 3 : Nat) : Int), mtext (k + i * 3 + 1), decide ((k + i * 3 + 2) % 3 = 0)⟩ := by simp [Vermarks]

def MarkedVers (S : Nat → Prop) (a : Option Addr) (k n : Nat) (w : World) (e : Ending) (w' : World) : Prop :=
  e = .returned (.int .i64 ((k + n * 3 : Nat) : Int)) ∧ VersIn w' a (Vermarks k n) ∧ Free w' a (n * 3) ∧ Turned S w w'

theorem VersIn.turned {S : Nat → Prop} {u v : World} {a : Option Addr} {vs : List VerD} (h : VersIn u a vs) (ho : OffS S a) (ht : Turned S u v) : VersIn v a vs := by
  rcases h with h | ⟨b, off, e, hlt, hc⟩
  · exact .inl h
  · refine .inr ⟨b, off, e, Nat.lt_of_lt_of_le hlt ht.size, fun i hi => ?_⟩
    rw [ht.cell (p := ⟨b, off + i * 3, none⟩) hlt (ho b off e), ht.cell (p := ⟨b, off + i * 3 + 1, none⟩) hlt (ho b off e), ht.cell (p := ⟨b, off + i * 3 + 2, none⟩) hlt (ho b off e)]
    exact hc i hi
theorem ObjsIn.turned {S : Nat → Prop} {u v : World} {a : Option Addr} {os : List ObjD} (h : ObjsIn u a os) (ho : OffS S a) (h2 : ∀ o ∈ os, OffS S o.at_) (ht : Turned S u v) : ObjsIn v a os := by
  rcases h with h | ⟨b, off, e, hlt, hc⟩
  · exact .inl h
  · refine .inr ⟨b, off, e, Nat.lt_of_lt_of_le hlt ht.size, fun i hi => ?_⟩
    obtain ⟨c0, c1, c2⟩ := hc i hi
    exact ⟨(ht.cell (p := ⟨b, off + i * 2, none⟩) hlt (ho b off e)).trans c0, (ht.cell (p := ⟨b, off + i * 2 + 1, none⟩) hlt (ho b off e)).trans c1, c2.turned (h2 _ (List.getElem_mem hi)) ht⟩

/-- What a copy of versions is: new memory that may be written. -/
def ToVersF (vs : List VerD) (w : World) (e : Ending) (w' : World) : Prop :=
  e = .returned (.slice (some ⟨w.heap.size, 0, none⟩) vs.length vs.length) ∧ VersIn w' (some ⟨w.heap.size, 0, none⟩) vs ∧ Free w' (some ⟨w.heap.size, 0, none⟩) (vs.length * 3) ∧ Below w.heap.size w w' ∧ w.heap.size < w'.heap.size

set_option maxHeartbeats 2000000 in
theorem toVerS_free (a : Option Addr) (vs : List VerD) (cap : Nat) (w : World) (hv : VersIn w a vs) (hn : vs.length ≤ 1048576) :
    Calls Try.prog 191 #[.slice a vs.length cap] w (ToVersF vs w) := by
  have HV := Lib.hid hv
  clear hv
  have hmk := run_make_vers vs.length hn
  go_enter Try.func191, Try.ntmps191
  go_wp2_with fail
  go_loopw [4] (fun i wr => ∃ k : Nat, k ≤ vs.length ∧ i = .int .i64 k ∧ Below w.heap.size w wr ∧ Row w.heap.size (vs.length * 3) wr ∧ VerRow w.heap.size vs k wr) (fun i _ => vs.length - (intOf i).toNat)
  case atStart => exact ⟨0, Nat.zero_le _, rfl, (Below.refl _ _).alloc (Nat.le_refl _) _, Row.made _ _ _ w, fun _ _ h => absurd h (by omega)⟩
  case round =>
    obtain ⟨k, hk, rfl, hB, hR, hP⟩ := hrel
    have HW := Lib.hid hB
    have HR := Lib.hid hR
    have HP := Lib.hid hP
    clear hB hR hP hmk
    by_cases hlt : k < vs.length
    · rcases HV.out.below HW.out with hnil | ⟨b1, o1, rfl, hb1, hc1⟩
      · rw [hnil] at hlt; simp at hlt
      obtain ⟨c0, c1, c2⟩ := hc1 k hlt
      clear hc1
      go_wp2_with fail
      with_reducible refine (toVer_any _ _ _ _).mono ?_
      rintro e w2 ⟨rfl, hw2⟩
      have HR2 := Lib.hid (HR.out.below hw2)
      have HP2 := Lib.hid (HP.out.below HR.out.1 hw2)
      have HW2 := Lib.hid (HW.out.trans (hw2.mono HW.out.size))
      obtain ⟨v0, d0⟩ := (HR2.out.2 (k * 3) (by omega)).1
      obtain ⟨v1, d1⟩ := (HR2.out.2 (k * 3 + 1) (by omega)).1
      obtain ⟨v2, d2⟩ := (HR2.out.2 (k * 3 + 2) (by omega)).1
      have f0 := (HR2.out.2 (k * 3) (by omega)).2
      have f1 := (HR2.out.2 (k * 3 + 1) (by omega)).2
      have f2 := (HR2.out.2 (k * 3 + 2) (by omega)).2
      clear hw2 c0 c1 c2
      go_wp2_with fail
      go_roundw
      case rel => exact ⟨k + 1, by omega, by go_num, ((HW2.out.setCell (p := ⟨w.heap.size, k * 3, none⟩) (Nat.le_refl _) _).setCell (p := ⟨w.heap.size, k * 3 + 1, none⟩) (Nat.le_refl _) _).setCell (p := ⟨w.heap.size, k * 3 + 2, none⟩) (Nat.le_refl _) _, ((HR2.out.set).set).set, HP2.out.step HR2.out hlt⟩
      case measure => simp [intOf]; omega
    · go_wp2_with fail
      go_ret
      obtain rfl : k = vs.length := by omega
      refine ⟨rfl, .inr ⟨w.heap.size, 0, rfl, HR.out.1, fun i hi => ?_⟩, .inr ⟨w.heap.size, 0, rfl, HR.out.1, fun i hi => ?_⟩, HW.out, HR.out.1⟩
      · have := HP.out i hi hi
        simpa using this
      · have := HR.out.2 i hi
        simpa using this
end Go.Proofs.Ytjijichgoodocaa

/- Slices of Ver: their marks. -/
namespace Go.Proofs.Ytjijichgoodocaa
open Go.RowKit

def Vermf (k i : Nat) : Value := if i % 3 = 0 then .int .i64 ((k + i : Nat) : Int) else if i % 3 = 1 then .string (mtext (k + i)) else .bool (decide ((k + i) % 3 = 0))

theorem Vermf_0 (k i : Nat) : Vermf k (i * 3) = .int .i64 ((k + i * 3 : Nat) : Int) := by
  unfold Vermf
  simp only [show (i * 3) % 3 = 0 by omega, if_true, if_false, Nat.reduceEqDiff, Nat.add_assoc]
theorem Vermf_1 (k i : Nat) : Vermf k (i * 3 + 1) = .string (mtext (k + i * 3 + 1)) := by
  unfold Vermf
  simp only [show (i * 3 + 1) % 3 = 1 by omega, if_true, if_false, Nat.reduceEqDiff, Nat.add_assoc]
theorem Vermf_2 (k i : Nat) : Vermf k (i * 3 + 2) = .bool (decide ((k + i * 3 + 2) % 3 = 0)) := by
  unfold Vermf
  simp only [show (i * 3 + 2) % 3 = 2 by omega, if_true, if_false, Nat.reduceEqDiff, Nat.add_assoc]
theorem VersIn.of_marks {S : Nat → Prop} {w u : World} {b off n k : Nat} (h : MkSt (Vermf k) S w b off (n * 3) (n * 3) u) : VersIn u (some ⟨b, off, none⟩) (Vermarks k n) := by
  refine .inr ⟨b, off, rfl, h.lt, fun i hi => ?_⟩
  have hi' : i < n := by rw [Vermarks_length] at hi; exact hi
  simp only [Vermarks_at]
  have h0 := h.done (i * 3) (by omega)
  rw [Vermf_0] at h0
  have h1 := h.done (i * 3 + 1) (by omega)
  rw [Vermf_1] at h1
  have h2 := h.done (i * 3 + 2) (by omega)
  rw [Vermf_2] at h2
  simp only [← Nat.add_assoc] at h0 h1 h2 ⊢
  exact ⟨h0, h1, h2⟩

set_option maxRecDepth 100000 in
set_option maxHeartbeats 2000000 in
theorem markVerS_any (S : Nat → Prop) (a : Option Addr) (n cap k : Nat) (w : World) (hf : Free w a (n * 3)) (hS : ∀ b off, a = some ⟨b, off, none⟩ → S b) (hk : 1 ≤ k) (hkn : k + n * 3 ≤ 100000000) :
    Calls Try.prog 173 #[.slice a n cap, .int .i64 (k : Int)] w (MarkedVers S a k n w) := by
  rcases hf with h0 | ⟨b, off, rfl, hb, hc⟩
  · obtain rfl : n = 0 := by omega
    go_enter Try.func173, Try.ntmps173
    go_wp2_with fail
    go_loop [1, 5] (fun l i => l = .int .i64 (k : Int) ∧ i = .int .i64 0) (fun _ _ => 0)
    case atStart => exact ⟨rfl, rfl⟩
    case round =>
      obtain ⟨rfl, rfl⟩ := hrel
      go_wp2_with fail
      go_ret
      exact ⟨by simp, .inl rfl, .inl rfl, Turned.refl _ _⟩
  · have HS := Lib.hid (hS b off rfl)
    have HC := Lib.hid hc
    clear hS hc
    go_enter Try.func173, Try.ntmps173
    go_wp2_with fail
    go_loopw [1, 5] (fun l i wr => ∃ j : Nat, j ≤ n ∧ i = .int .i64 j ∧ l = .int .i64 ((k + j * 3 : Nat) : Int) ∧ MkSt (Vermf k) S w b off (n * 3) (j * 3) wr) (fun _ i _ => n - (intOf i).toNat)
    case atStart => exact ⟨0, Nat.zero_le _, rfl, by simp, by rw [Nat.zero_mul]; exact MkSt.start hb HC.out⟩
    case round =>
      obtain ⟨j, hj, rfl, rfl, hM⟩ := hrel
      have HM := Lib.hid hM
      clear hM
      by_cases hlt : j < n
      · skip
        obtain ⟨v0, d0⟩ := HM.out.at0 (j * 3) (by omega)
        have f0 := HM.out.fz0 (j * 3) (by omega)
        go_wp2_with fail
        refine (markText_at (k + j * 3 + 1) ?hz1 _ (by omega) (by omega)).mono ?_
        case hz1 => omega
        rintro e w3 ⟨rfl, hb3⟩
        have HM3 := Lib.hid (((HM.out.set (by omega) HS.out (p := ⟨b, off + j * 3, none⟩) rfl (by rw [Vermf_0]; go_num))).below hb3)
        clear hb3
        clear d0 f0
        obtain ⟨v1, d1⟩ := HM3.out.at0 (j * 3 + 1) (by omega)
        have f1 := HM3.out.fz0 (j * 3 + 1) (by omega)
        rw [← Nat.add_assoc] at d1 f1
        obtain ⟨v2, d2⟩ := HM3.out.at0 (j * 3 + 2) (by omega)
        have f2 := HM3.out.fz0 (j * 3 + 2) (by omega)
        rw [← Nat.add_assoc] at d2 f2
        go_wp2_with fail
        go_roundw
        case rel => exact ⟨j + 1, by omega, by go_num, by go_num, by rw [show (j + 1) * 3 = j * 3 + 2 + 1 by omega]; exact ((HM3.out.set (by omega) HS.out (p := ⟨b, off + j * 3 + 1, none⟩) (by rw [Nat.add_assoc]) (by rw [Vermf_1])).set (by omega) HS.out (p := ⟨b, off + j * 3 + 2, none⟩) (by rw [Nat.add_assoc]) (by rw [Vermf_2]; exact congrArg Value.bool (by rw [Bool.eq_iff_iff]; simp <;> omega)))⟩
        case measure => simp [intOf]; omega
      · obtain rfl : j = n := by omega
        go_wp2_with fail
        go_ret
        exact ⟨by simp, VersIn.of_marks HM.out, .inr ⟨b, off, rfl, HM.out.lt, HM.out.free⟩, HM.out.turned⟩

set_option maxRecDepth 100000 in
set_option maxHeartbeats 2000000 in
theorem heldVerS_any (a : Option Addr) (n cap k : Nat) (w : World) (hv : VersIn w a (Vermarks k n)) (hk : 1 ≤ k) (hkn : k + n * 3 ≤ 100000000) :
    Calls Try.prog 174 #[.slice a n cap, .int .i64 (k : Int)] w fun e w' => e = .returned (.int .i64 ((k + n * 3 : Nat) : Int)) ∧ Below w.heap.size w w' := by
  have HV := Lib.hid hv
  clear hv
  go_enter Try.func174, Try.ntmps174
  go_wp2_with fail
  go_loopw [1, 5] (fun l i wr => ∃ j : Nat, j ≤ n ∧ i = .int .i64 j ∧ l = .int .i64 ((k + j * 3 : Nat) : Int) ∧ Below w.heap.size w wr) (fun _ i _ => n - (intOf i).toNat)
  case atStart => exact ⟨0, Nat.zero_le _, rfl, by simp, Below.refl _ _⟩
  case round =>
    obtain ⟨j, hj, rfl, rfl, hB⟩ := hrel
    have HB := Lib.hid hB
    clear hB
    by_cases hlt : j < n
    · rcases HV.out.below HB.out with hnil | ⟨b1, o1, rfl, hb1, hc1⟩
      · have := congrArg List.length hnil; simp [Vermarks_length] at this; omega
      obtain ⟨c0, c1, c2⟩ := hc1 j (by rw [Vermarks_length]; exact hlt)
      simp only [Vermarks_at] at c0 c1 c2
      rw [show ((k + j * 3 : Nat) : Int) = ((k + j * 3 : Nat) : Int) by omega] at c0
      rw [show decide ((k + j * 3 + 2) % 3 = 0) = ((((k + j * 3 : Nat) : Int) + 1 + 1) % 3 == 0) by rw [Bool.eq_iff_iff]; simp <;> omega] at c2
      clear hc1
      have y1 := cell_regrown c1
      go_wp2_with fail
      refine wp_region_quiet_below (by kernel_rfl) (by kernel_rfl) ?_
      repeat (go_big_quiet_step ((go_at_call 172; exact Calls.regrown_of (markText_at (k + j * 3 + 1) (by omega) _ (by omega) (by omega)))))
      refine wpQuiet_nil ?_
      intro _ hw'
      obtain ⟨⟨dq1, osq1⟩, hw''⟩ := hw'
      subst hw''
      replace c2 := cell_regrown c2 dq1 osq1
      clear y1 c1
      have HB1 := Lib.hid (HB.out.trans ((below_regrown _ dq1 osq1).mono HB.out.size))
      go_wp2_with fail
      (try (go_quiet (fail); go_wp2_with fail))
      (try (go_quiet (fail); go_wp2_with fail))
      (try (go_quiet (fail); go_wp2_with fail))
      go_roundw
      case rel => exact ⟨j + 1, by omega, by go_num, by go_num, by first | exact HB1.out | exact Below.drewN HB1.out _ | exact Below.drewN (Below.drewN HB1.out _) _⟩
      case measure => simp [intOf]; omega
    · obtain rfl : j = n := by omega
      go_wp2_with fail
      go_ret
      exact ⟨by simp, HB.out⟩
end Go.Proofs.Ytjijichgoodocaa
