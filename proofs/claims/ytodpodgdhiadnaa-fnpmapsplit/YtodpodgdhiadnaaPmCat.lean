/- Slices of rows put one behind the other (slices.Concat, slices.Grow), as the program does it. -/
import Derived.Test.YtodpodgdhiadnaaPmSpT
import Derived.Lib.AppendZerosOnto
import Derived.Lib.SliceRun
import Derived.Lib.AppendZeros
namespace Go.Proofs.Ytodpodgdhiadnaa
open Go.RowKit

set_option maxRecDepth 100000 in
set_option maxHeartbeats 1000000 in
theorem growRow_any (n : Nat) (w : World) (h0 : 0 < n) (hn : n ≤ 4194304) :
    Calls Try.prog 244 #[.slice none 0 0, .int .i64 (n : Int)] w fun e w' => ∃ cp, e = .returned (.slice (some ⟨w.heap.size, 0, none⟩) 0 cp) ∧ w'.ownsRow w.heap.size 102 2 (.slice (some ⟨w.heap.size, 0, none⟩) 0 cp) 0 [] ∧ Below w.heap.size w w' := by
  obtain ⟨i0, hi, hz0, hz1, hz2⟩ := info_parts infoRow
  have h1 : ¬ ((n : Int) < 0) := by omega
  have h4 : (n : Int) > 0 := by omega
  have hold : (Builtin.firstCells i0.size 0 (.slice none 0 0)).run Try.prog w.drew = .ok ([] : List Value).toArray w.drew := run_firstCells_none w.drew i0.size 0 0 0
  have hbig : (0 + n) * i0.bytes ≤ 140737488355328 := by rw [hz2]; omega
  have hrz : ∀ ty, (Builtin.append_ #[187, 3] ty #[.slice none 0 0, .int .i64 (n : Int)]).run Try.prog w =
      .ok (.slice (some ⟨w.heap.size, 0, none⟩) (0 + n) (grownCap w (0 + n) 0 102)) (w.drew.alloc (.cells (([] : List Value).toArray ++ Builtin.zeroCells (Value.agg #[.string ⟨#[]⟩, .int .i64 0]).cells n ++ Builtin.zeroCells (Value.agg #[.string ⟨#[]⟩, .int .i64 0]).cells (grownCap w (0 + n) 0 102 - (0 + n))) 102)) := fun ty =>
    Lib.run_append_grow_zeros w 187 3 ty 102 i0 (.agg #[.string ⟨#[]⟩, .int .i64 0]) .i64 .i64 Try.underlying187 Try.underlying3 hi hz0 none 0 0 [] hold n h0 (by rw [hz1]; omega) (by omega) (by omega) (by rw [hz2]; omega) (growslice_fits (by omega) hbig)
  have hGn : 0 + n ≤ grownCap w (0 + n) 0 102 := grownCap_ge w _ _ _
  have hG63 : grownCap w (0 + n) 0 102 ≤ maxLen := grownCap_le_maxLen w (0 + n) 0 102 (by unfold maxLen; omega)
  obtain ⟨G, hG⟩ : ∃ G, G = grownCap w (0 + n) 0 102 := ⟨_, rfl⟩
  rw [← hG] at hrz hGn hG63
  clear hold hG
  have hG1 : G ≤ 9223372036854775807 := by unfold maxLen at hG63; omega
  have HG := Lib.hid hG63
  clear hG63
  go_enter Try.func244, Try.ntmps244
  go_wp2_with (at_builtin; refine Lib.wpList_append_run _ rfl _ _ _ _ rfl _ _ rfl rfl _ _ (hrz _) ?_)
  all_goals
    go_ret
    refine ⟨G, rfl, ⟨by simp, .inr ⟨w.heap.size, G, _, rfl, Nat.le_refl _, heap_alloc_new w.drew _, Nat.zero_le _, HG.out, ?_, by simp⟩⟩, ((Below.refl _ _).drew).alloc (Nat.le_refl _) _⟩
    simp [Builtin.zeroCells, Value.cells]
    omega

/-- A slice of rows: where it lies, its rows, its capacity. -/
structure SlD where
  a : Option Addr
  vs : List RowD
  cap : Nat
def SlsIn (w : World) (sb : Nat) (ss : List SlD) : Prop := ∀ i (h : i < ss.length), w.cell? ⟨sb, i, none⟩ = some (.slice ss[i].a ss[i].vs.length ss[i].cap) ∧ RowsIn w ss[i].a ss[i].vs
def catTo (ss : List SlD) (k : Nat) : List RowD := (ss.take k).flatMap SlD.vs
theorem catTo_succ {ss : List SlD} {k : Nat} (h : k < ss.length) : catTo ss (k + 1) = catTo ss k ++ ss[k].vs := by
  unfold catTo; rw [List.take_succ_eq_append_getElem h, List.flatMap_append]; simp
theorem catTo_mono {ss : List SlD} {k : Nat} (h : k < ss.length) : (catTo ss k).length + ss[k].vs.length ≤ (catTo ss ss.length).length := by
  have e : ss = ss.take (k + 1) ++ ss.drop (k + 1) := (List.take_append_drop _ _).symm
  have h2 : (catTo ss (k + 1)).length ≤ (catTo ss ss.length).length := by
    have : catTo ss ss.length = catTo ss (k + 1) ++ (ss.drop (k + 1)).flatMap SlD.vs := by
      unfold catTo
      rw [List.take_length]
      conv => lhs; rw [e]
      rw [List.flatMap_append]
    rw [this, List.length_append]; omega
  rw [catTo_succ h, List.length_append] at h2
  exact h2
theorem SlsIn.below {w w' : World} {sb : Nat} {ss : List SlD} (h : SlsIn w sb ss) (hsb : sb < w.heap.size) (hb : Below w.heap.size w w') : SlsIn w' sb ss := fun i hi => ⟨(hb.cell (p := ⟨sb, i, none⟩) hsb).trans (h i hi).1, (h i hi).2.below hb⟩

def CatPost (ss : List SlD) (w : World) (e : Ending) (w' : World) : Prop :=
  ∃ g cp, e = .returned (.slice (some ⟨g, 0, none⟩) (catTo ss ss.length).length cp) ∧ w'.ownsRow w.heap.size 102 2 (.slice (some ⟨g, 0, none⟩) (catTo ss ss.length).length cp) (catTo ss ss.length).length ((catTo ss ss.length).flatMap rowCells) ∧ Below w.heap.size w w'

set_option maxRecDepth 100000 in
set_option maxHeartbeats 2000000 in
theorem concatRow_any (sb : Nat) (ss : List SlD) (w : World) (hs : SlsIn w sb ss) (hsb : sb < w.heap.size) (hlen : ss.length ≤ 8) (hpos : 0 < (catTo ss ss.length).length) (htot : (catTo ss ss.length).length ≤ 4194304) :
    Calls Try.prog 212 #[.slice (some ⟨sb, 0, none⟩) ss.length ss.length] w (CatPost ss w) := by
  have HS := Lib.hid hs
  clear hs
  obtain ⟨i0, hi, hz0, hz1, hz2⟩ := info_parts infoRow
  go_enter Try.func212, Try.ntmps212
  go_wp2_with fail
  go_loop [3, 11] (fun z i => ∃ k : Nat, k ≤ ss.length ∧ i = .int .i64 (k : Int) ∧ z = .int .i64 ((catTo ss k).length : Int)) (fun _ i => ss.length - (intOf i).toNat)
  case atStart => exact ⟨0, Nat.zero_le _, rfl, by simp [catTo]⟩
  case round =>
    obtain ⟨k, hk, rfl, rfl⟩ := hrel
    by_cases hlt : k < ss.length
    · have c0 := (HS.out k hlt).1
      have hm := catTo_mono hlt
      have HC := Lib.hid (catTo_succ hlt)
      have hz : ¬ (((catTo ss k).length : Int) + (ss[k].vs.length : Int) < 0) := by omega
      have hle : ((catTo ss k).length : Int) + (ss[k].vs.length : Int) ≤ 4194304 := by omega
      go_wp2_with fail
      exact ⟨⟨k + 1, by omega, by go_num, by rw [HC.out, List.length_append]; go_num⟩, by simp [intOf]; omega⟩
    · obtain rfl : k = ss.length := by omega
      go_wp2_with fail
      refine (growRow_any _ _ hpos htot).mono ?_
      rintro e w1 ⟨cp, rfl, hown, hb⟩
      have HO := Lib.hid hown
      have HB := Lib.hid hb
      clear hown hb
      go_wp2_with fail
      go_loopw [6, 27] (fun v i wr => ∃ k g cp : Nat, k ≤ ss.length ∧ i = .int .i64 (k : Int) ∧ v = .slice (some ⟨g, 0, none⟩) (catTo ss k).length cp ∧ wr.ownsRow w.heap.size 102 2 (.slice (some ⟨g, 0, none⟩) (catTo ss k).length cp) (catTo ss k).length ((catTo ss k).flatMap rowCells) ∧ Below w.heap.size w wr) (fun _ i _ => ss.length - (intOf i).toNat)
      case atStart => exact ⟨0, w.heap.size, cp, Nat.zero_le _, rfl, rfl, HO.out, HB.out⟩
      case round =>
        obtain ⟨k, g, cp, hk, rfl, rfl, hown, hB⟩ := hrel
        have HO := Lib.hid hown
        have HB := Lib.hid hB
        clear hown hB
        by_cases hlt : k < ss.length
        · have hS := (HS.out.below hsb HB.out) k hlt
          have c0 := hS.1
          have hm := catTo_mono hlt
          have HC := Lib.hid (catTo_succ hlt)
          have HR := Lib.hid hS.2
          clear hS
          have hcp := (own_cap HO.out).1
          obtain ⟨sv, hsv⟩ : ∃ sv, ss[k] = sv := ⟨_, rfl⟩
          rw [hsv] at c0 hm HC HR
          clear hsv
          by_cases h0 : sv.vs.length = 0
          · have hnil : sv.vs = [] := List.eq_nil_of_length_eq_zero h0
            have HN := Lib.hid hnil
            rw [h0] at c0
            clear hnil
            have hq : ¬ (cp < (catTo ss k).length) := by omega
            clear h0
            obtain ⟨sa, hsa⟩ : ∃ sa, sv.a = sa := ⟨_, rfl⟩
            rw [hsa] at c0
            clear hsa
            rcases sa with _ | ⟨b9, o9, s9⟩
            all_goals
              go_wp2_with fail
              go_roundw
              case rel => exact ⟨k + 1, g, cp, by omega, by go_num, by rw [HC.out, HN.out, List.append_nil], by rw [HC.out, HN.out, List.append_nil]; exact HO.out, HB.out⟩
              case measure => simp [intOf]; omega
          · rcases HR.out with hnil | ⟨b1, o1, hae, hb1, hc1⟩
            · rw [hnil] at h0; simp at h0
            have HD := Lib.hid (rows_news hc1)
            clear hc1
            rw [hae] at c0
            clear hae
            go_wp2_with (at_builtin; refine wpList_append_lies _ rfl _ _ 187 rfl w.heap.size 102 i0 (.agg #[.string ⟨#[]⟩, .int .i64 0]) 2 24 Try.underlying187 hi hz0 hz1 hz2 rfl (by decide) _ (catTo ss k).length _ rfl HO.out ⟨b1, o1, none⟩ sv.vs.length sv.cap (sv.vs.flatMap rowCells) rfl (rows_len _) HD.out (rows_one _) (by omega) (by unfold maxLen; omega) (by omega) HB.out.size _ rfl ?_; intro g2 cp2 w2 hown hgrow hat hlt2; have X := Lib.hid (And.intro hown hgrow); clear hown hgrow hat hlt2)
            go_roundw
            case rel => exact ⟨k + 1, g2, cp2, by omega, by go_num, by rw [HC.out, List.length_append], by rw [HC.out, List.length_append, List.flatMap_append]; exact X.out.1, Below.grown HB.out X.out.2 HB.out.size (fun j hj => (HO.out.lt j hj).1)⟩
            case measure => simp [intOf]; omega
        · obtain rfl : k = ss.length := by omega
          go_wp2_with fail
          go_ret
          exact ⟨g, cp, rfl, HO.out, HB.out⟩
end Go.Proofs.Ytodpodgdhiadnaa
