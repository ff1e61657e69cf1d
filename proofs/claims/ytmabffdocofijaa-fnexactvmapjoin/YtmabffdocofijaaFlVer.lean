/- Versions in memory that belongs to a call: what marks leave, copies, and that what lies elsewhere stays. -/
import Derived.Test.YtmabffdocofijaaVmToB
import Derived.Test.YtmabffdocofijaaMkSt
import Derived.Test.YtmabffdocofijaaLie
namespace Go.Proofs.Ytmabffdocofijaa
open Go.RowKit

def Vermarks (k n : Nat) : List VerD := (List.range n).map fun i => ⟨((k + i * 3 : Nat) : Int), mtext (k + i * 3 + 1), decide ((k + i * 3 + 2) % 3 = 0)⟩
theorem Vermarks_length (k n : Nat) : (Vermarks k n).length = n := by simp [Vermarks]
theorem Vermarks_at (k n i : Nat) (h : i < (Vermarks k n).length) : (Vermarks k n)[i] = ⟨((k + i * 3 : Nat) : Int), mtext (k + i * 3 + 1), decide ((k + i * 3 + 2) % 3 = 0)⟩ := by simp [Vermarks]

def MarkedVers (S : Nat → Prop) (a : Option Addr) (k n : Nat) (w : World) (e : Ending) (w' : World) : Prop :=
  e = .returned (.int .i64 ((k + n * 3 : Nat) : Int)) ∧ VersIn w' a (Vermarks k n) ∧ Free w' a (n * 3) ∧ Turned S w w'

theorem VersIn.turned {S : Nat → Prop} {u v : World} {a : Option Addr} {vs : List VerD} (h : VersIn u a vs) (ho : OffS S a) (ht : Turned S u v) : VersIn v a vs := by
  rcases h with h | ⟨b, off, e, hlt, hc⟩
  · exact .inl h
  · refine .inr ⟨b, off, e, Nat.lt_of_lt_of_le hlt ht.size, fun i hi => ?_⟩
    rw [ht.cell (p := ⟨b, off + i * 3, none⟩) hlt (ho b off e), ht.cell (p := ⟨b, off + i * 3 + 1, none⟩) hlt (ho b off e), ht.cell (p := ⟨b, off + i * 3 + 2, none⟩) hlt (ho b off e)]
    exact hc i hi
theorem ObjsIn.turned {S : Nat → Prop} {u v : World} {a : Option Addr} {os : List ObjD} (h : ObjsIn u a os) (ho : OffS S a) (h2 : ∀ o ∈ os, OffS S o.at_) (ht : Turned S u v) : ObjsIn v a os := by
  rcases h with h | ⟨b, off, e, hlt, hc⟩
  · exact .inl h
  · refine .inr ⟨b, off, e, Nat.lt_of_lt_of_le hlt ht.size, fun i hi => ?_⟩
    obtain ⟨c0, c1, c2⟩ := hc i hi
    exact ⟨(ht.cell (p := ⟨b, off + i * 2, none⟩) hlt (ho b off e)).trans c0, (ht.cell (p := ⟨b, off + i * 2 + 1, none⟩) hlt (ho b off e)).trans c1, c2.turned (h2 _ (List.getElem_mem hi)) ht⟩

/-- What a copy of versions is: new memory that may be written. -/
def ToVersF (vs : List VerD) (w : World) (e : Ending) (w' : World) : Prop :=
  e = .returned (.slice (some ⟨w.heap.size, 0, none⟩) vs.length vs.length) ∧ VersIn w' (some ⟨w.heap.size, 0, none⟩) vs ∧ Free w' (some ⟨w.heap.size, 0, none⟩) (vs.length * 3) ∧ Below w.heap.size w w' ∧ w.heap.size < w'.heap.size

set_option maxHeartbeats 2000000 in
theorem toVerS_free (a : Option Addr) (vs : List VerD) (cap : Nat) (w : World) (hv : VersIn w a vs) (hn : vs.length ≤ 1048576) :
    Calls Try.prog 198 #[.slice a vs.length cap] w (ToVersF vs w) := by
  have HV := Lib.hid hv
  clear hv
  have hmk := run_make_vers vs.length hn
  go_enter Try.func198, Try.ntmps198
  go_wp2_with fail
  go_loopw [4] (fun i wr => ∃ k : Nat, k ≤ vs.length ∧ i = .int .i64 k ∧ Below w.heap.size w wr ∧ Row w.heap.size (vs.length * 3) wr ∧ VerRow w.heap.size vs k wr) (fun i _ => vs.length - (intOf i).toNat)
  case atStart => exact ⟨0, Nat.zero_le _, rfl, (Below.refl _ _).alloc (Nat.le_refl _) _, Row.made _ _ _ w, fun _ _ h => absurd h (by omega)⟩
  case round =>
    obtain ⟨k, hk, rfl, hB, hR, hP⟩ := hrel
    have HW := Lib.hid hB
    have HR := Lib.hid hR
    have HP := Lib.hid hP
    clear hB hR hP hmk
    by_cases hlt : k < vs.length
    · rcases HV.out.below HW.out with hnil | ⟨b1, o1, rfl, hb1, hc1⟩
      · rw [hnil] at hlt; simp at hlt
      obtain ⟨c0, c1, c2⟩ := hc1 k hlt
      clear hc1
      go_wp2_with fail
      with_reducible refine (toVer_any _ _ _ _).mono ?_
      rintro e w2 ⟨rfl, hw2⟩
      have HR2 := Lib.hid (HR.out.below hw2)
      have HP2 := Lib.hid (HP.out.below HR.out.1 hw2)
      have HW2 := Lib.hid (HW.out.trans (hw2.mono HW.out.size))
      obtain ⟨v0, d0⟩ := (HR2.out.2 (k * 3) (by omega)).1
      obtain ⟨v1, d1⟩ := (HR2.out.2 (k * 3 + 1) (by omega)).1
      obtain ⟨v2, d2⟩ := (HR2.out.2 (k * 3 + 2) (by omega)).1
      have f0 := (HR2.out.2 (k * 3) (by omega)).2
      have f1 := (HR2.out.2 (k * 3 + 1) (by omega)).2
      have f2 := (HR2.out.2 (k * 3 + 2) (by omega)).2
      clear hw2 c0 c1 c2
      go_wp2_with fail
      go_roundw
      case rel => exact ⟨k + 1, by omega, by go_num, ((HW2.out.setCell (p := ⟨w.heap.size, k * 3, none⟩) (Nat.le_refl _) _).setCell (p := ⟨w.heap.size, k * 3 + 1, none⟩) (Nat.le_refl _) _).setCell (p := ⟨w.heap.size, k * 3 + 2, none⟩) (Nat.le_refl _) _, ((HR2.out.set).set).set, HP2.out.step HR2.out hlt⟩
      case measure => simp [intOf]; omega
    · go_wp2_with fail
      go_ret
      obtain rfl : k = vs.length := by omega
      refine ⟨rfl, .inr ⟨w.heap.size, 0, rfl, HR.out.1, fun i hi => ?_⟩, .inr ⟨w.heap.size, 0, rfl, HR.out.1, fun i hi => ?_⟩, HW.out, HR.out.1⟩
      · have := HP.out i hi hi
        simpa using this
      · have := HR.out.2 i hi
        simpa using this
end Go.Proofs.Ytmabffdocofijaa
