/- Changes turned back, as the model makes them. -/
import Derived.Test.YthjikcfpoomioaaAtChange
import Derived.Test.YthjikcfpoomioaaChangeS
import Derived.Deep.RegionLaw
namespace Go.Proofs.Ythjikcfpoomioaa
open Go.RowKit

def ChangeD.back (v : ChangeD) : ChangeD := ⟨v.f0, v.f3, v.f4, v.f1, v.f2⟩
def backTo (vs : List ChangeD) (k : Nat) : List ChangeD := (vs.take k).map ChangeD.back
theorem backTo_succ {vs : List ChangeD} {k : Nat} (hk : k < vs.length) : backTo vs (k + 1) = backTo vs k ++ [vs[k].back] := by
  unfold backTo; rw [List.take_succ_eq_append_getElem hk, List.map_append]; rfl
theorem backTo_len {vs : List ChangeD} {k : Nat} (hk : k ≤ vs.length) : (backTo vs k).length = k := by
  unfold backTo; rw [List.length_map, List.length_take]; omega
def DiffBackRel (vs us : List ChangeD) : Prop := (LstOk changeOkB ChangeD.f0 vs vs.length ∧ us = backTo vs vs.length) ∨ (¬ LstOk changeOkB ChangeD.f0 vs vs.length ∧ us = [])
theorem DiffBackRel.unique {vs us us' : List ChangeD} (h : DiffBackRel vs us) (g : DiffBackRel vs us') : us = us' := by
  rcases h with ⟨h1, rfl⟩ | ⟨h1, rfl⟩ <;> rcases g with ⟨g1, rfl⟩ | ⟨g1, rfl⟩
  · rfl
  · exact absurd h1 g1
  · exact absurd g1 h1
  · rfl
theorem DiffBackRel.len {vs us : List ChangeD} (h : DiffBackRel vs us) (hn : vs.length ≤ 1048576) : us.length ≤ 2097152 := by
  refine Nat.le_trans (m := vs.length) ?_ (by omega)
  rcases h with ⟨_, rfl⟩ | ⟨_, rfl⟩
  · rw [backTo_len (Nat.le_refl _)]; exact Nat.le_refl _
  · simp
def DiffBackPost (vs : List ChangeD) (w : World) (e : Ending) (w' : World) : Prop := ∃ us, DiffBackRel vs us ∧ ChangesOut us w e w'
theorem changesOut_own {w w' : World} {v : Value} {us : List ChangeD} {base k : Nat} (hk : k = us.length) (h : w'.ownsRow base 115 5 v k (us.flatMap changeCells)) (hb : w.heap.size ≤ base) (hB : Below w.heap.size w w') : ChangesOut us w (.returned v) w' := by
  subst hk
  obtain ⟨a, c, rfl, hat⟩ := own_changes h
  exact ⟨a, c, rfl, hat.lower hb, hB⟩
theorem grown_own {w W w' : World} {B n : Nat} {e : TypeId} {size : Nat} {v : Value} {xs : List Value} (hO : W.ownsRow B e size v n xs) (h : W.grownBy w' v.ownBlock) (hB : Below B w W) (hs : B ≤ W.heap.size) : Below B w w' := hB.grown h hs (fun j hj => (hO.lt j hj).1)

set_option maxRecDepth 100000 in
set_option maxHeartbeats 1000000 in
theorem specDiffBack_any (a : Option Addr) (vs : List ChangeD) (cap : Nat) (w : World) (hv : ChangesIn w a vs) (hf : ∀ v ∈ vs, v.fits) (hn : vs.length ≤ 1048576) :
    Calls Try.prog 25 #[.slice a vs.length cap] w (DiffBackPost vs w) := by
  have HV := Lib.hid hv
  have HF := Lib.hid hf
  have hn2 : vs.length ≤ maxLen := by unfold maxLen; omega
  clear hv hf
  obtain ⟨i0, hi0, hz0, hz1, hz2⟩ := info_parts infoChange
  go_enter Try.func25, Try.ntmps25
  go_wp2_with fail
  go_loopw [3, 4] (fun v i wr => ∃ k : Nat, k ≤ vs.length ∧ i = .int .i64 (k : Int) ∧ Below w.heap.size w wr ∧ wr.ownsRow w.heap.size 115 5 v k ((backTo vs k).flatMap changeCells) ∧ (k = 0 ∨ LstOk changeOkB ChangeD.f0 vs vs.length)) (fun _ i _ => vs.length - (intOf i).toNat)
  case atStart => exact ⟨0, Nat.zero_le _, rfl, (Below.refl _ _).alloc (Nat.le_refl _) _, empty_changes (heap_alloc_new _ _) (Nat.le_refl _), .inl rfl⟩
  case round =>
    obtain ⟨k, hk, rfl, hB, hO, hL⟩ := hrel
    have HB := Lib.hid hB
    have HO := Lib.hid hO
    have HL := Lib.hid hL
    have hsz : w.heap.size ≤ wr.heap.size := hB.size
    clear hB hO hL
    by_cases hlt : k < vs.length
    · go_wp2_with fail
      refine (l11Ok_any a vs cap _ (HV.out.below HB.out) HF.out hn2).mono ?_
      rintro e w2 ⟨b, rfl, hb, hb2⟩
      have HI := Lib.hid hb
      have HB2 := Lib.hid (HB.out.trans (hb2.mono hsz))
      have HO2 := Lib.hid (Go.Proofs.Ythjikcfpoomioaa.ownsRow_of_below HO.out hb2)
      have hsz2 : w.heap.size ≤ w2.heap.size := HB2.out.size
      clear hb hb2
      cases b
      · go_wp2_with fail
        go_ret
        have hno : ¬ LstOk changeOkB ChangeD.f0 vs vs.length := fun h => absurd (HI.out.2 h) (by decide)
        rcases HL.out with h0 | h0
        · subst h0
          exact ⟨[], .inr ⟨hno, rfl⟩, changesOut_own rfl HO2.out (Nat.le_refl _) HB2.out⟩
        · exact absurd h0 hno
      · have hyes : LstOk changeOkB ChangeD.f0 vs vs.length := HI.out.1 (by simp)
        have HY := Lib.hid hyes
        clear hyes
        rcases HV.out.below HB2.out with hnil | ⟨b1, o1, rfl, hb1, hc1⟩
        · rw [hnil] at hlt; simp at hlt
        obtain ⟨c0, c1, c2, c3, c4⟩ := hc1 k hlt
        clear hc1
        go_wp2_with (at_builtin; refine wpList_append_lies _ rfl _ _ 32 rfl w.heap.size 115 i0 (.agg #[.string ⟨#[]⟩, .bool false, .string ⟨#[]⟩, .bool false, .string ⟨#[]⟩]) 5 64 Try.underlying32 hi0 hz0 hz1 hz2 rfl (by decide) _ k _ rfl ((HO2.out.alloc _).alloc _) ⟨w2.heap.size + 1, 0, none⟩ 1 1 (changeCells vs[k].back) rfl rfl (newsChange _ _ _ _ (by simp)) (change_one _) (by omega) (by unfold maxLen; omega) (by omega) (by simp; omega) _ rfl ?_; intro g cp w4 hown hgrow hat hlt2; have X := Lib.hid (And.intro hown hgrow); clear hown hgrow hat hlt2)
        go_roundw
        case rel => exact ⟨k + 1, by omega, by go_num, grown_own ((HO2.out.alloc _).alloc _) X.out.2 ((HB2.out.alloc hsz2 _).alloc (by simp; omega) _) (by simp; omega), by rw [backTo_succ hlt, List.flatMap_append]; simpa using X.out.1, .inr HY.out⟩
        case measure => simp [intOf]; omega
    · obtain rfl : k = vs.length := by omega
      go_wp2_with fail
      go_ret
      rcases HL.out with h0 | h0
      · have hnil : vs = [] := List.eq_nil_of_length_eq_zero h0
        subst hnil
        exact ⟨[], .inl ⟨⟨OkBy.zero _ _, UpBy.zero _ _⟩, rfl⟩, changesOut_own rfl HO.out (Nat.le_refl _) HB.out⟩
      · exact ⟨backTo vs vs.length, .inl ⟨h0, rfl⟩, changesOut_own (backTo_len (Nat.le_refl _)).symm HO.out (Nat.le_refl _) HB.out⟩
end Go.Proofs.Ythjikcfpoomioaa
