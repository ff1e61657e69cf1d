/- Slices of objects put one behind the other (slices.Concat, slices.Grow), as the program does it. -/
import Derived.Test.YtjijichgoodocaaVApp
import Derived.Lib.AppendZerosOnto
import Derived.Lib.SliceRun
import Derived.Lib.AppendZeros
namespace Go.Proofs.Ytjijichgoodocaa
open Go.RowKit

set_option maxRecDepth 100000 in
set_option maxHeartbeats 1000000 in
theorem growObj_any (n : Nat) (w : World) (h0 : 0 < n) (hn : n ≤ 4194304) :
    Calls Try.prog 147 #[.slice none 0 0, .int .i64 (n : Int)] w fun e w' => ∃ cp, e = .returned (.slice (some ⟨w.heap.size, 0, none⟩) 0 cp) ∧ w'.ownsRow w.heap.size 45 2 (.slice (some ⟨w.heap.size, 0, none⟩) 0 cp) 0 [] ∧ Below w.heap.size w w' := by
  obtain ⟨i0, hi, hz0, hz1, hz2⟩ := info_parts infoObj
  have h1 : ¬ ((n : Int) < 0) := by omega
  have h4 : (n : Int) > 0 := by omega
  have hold : (Builtin.firstCells i0.size 0 (.slice none 0 0)).run Try.prog w.drew = .ok ([] : List Value).toArray w.drew := run_firstCells_none w.drew i0.size 0 0 0
  have hbig : (0 + n) * i0.bytes ≤ 140737488355328 := by rw [hz2]; omega
  have hrz : ∀ ty, (Builtin.append_ #[23, 3] ty #[.slice none 0 0, .int .i64 (n : Int)]).run Try.prog w =
      .ok (.slice (some ⟨w.heap.size, 0, none⟩) (0 + n) (grownCap w (0 + n) 0 45)) (w.drew.alloc (.cells (([] : List Value).toArray ++ Builtin.zeroCells (Value.agg #[.string ⟨#[]⟩, .slice none 0 0]).cells n ++ Builtin.zeroCells (Value.agg #[.string ⟨#[]⟩, .slice none 0 0]).cells (grownCap w (0 + n) 0 45 - (0 + n))) 45)) := fun ty =>
    Lib.run_append_grow_zeros w 23 3 ty 45 i0 (.agg #[.string ⟨#[]⟩, .slice none 0 0]) .i64 .i64 Try.underlying23 Try.underlying3 hi hz0 none 0 0 [] hold n h0 (by rw [hz1]; omega) (by omega) (by omega) (by rw [hz2]; omega) (growslice_fits (by omega) hbig)
  have hGn : 0 + n ≤ grownCap w (0 + n) 0 45 := grownCap_ge w _ _ _
  have hG63 : grownCap w (0 + n) 0 45 ≤ maxLen := grownCap_le_maxLen w (0 + n) 0 45 (by unfold maxLen; omega)
  obtain ⟨G, hG⟩ : ∃ G, G = grownCap w (0 + n) 0 45 := ⟨_, rfl⟩
  rw [← hG] at hrz hGn hG63
  clear hold hG
  have hG1 : G ≤ 9223372036854775807 := by unfold maxLen at hG63; omega
  have HG := Lib.hid hG63
  clear hG63
  go_enter Try.func147, Try.ntmps147
  go_wp2_with (at_builtin; refine Lib.wpList_append_run _ rfl _ _ _ _ rfl _ _ rfl rfl _ _ (hrz _) ?_)
  all_goals
    go_ret
    refine ⟨G, rfl, ⟨by simp, .inr ⟨w.heap.size, G, _, rfl, Nat.le_refl _, heap_alloc_new w.drew _, Nat.zero_le _, HG.out, ?_, by simp⟩⟩, ((Below.refl _ _).drew).alloc (Nat.le_refl _) _⟩
    simp [Builtin.zeroCells, Value.cells]
    omega

theorem own_capO {u : World} {B g n cp : Nat} {xs : List Value} (h : u.ownsRow B 45 2 (.slice (some ⟨g, 0, none⟩) n cp) n xs) : n ≤ cp ∧ cp ≤ maxLen := by
  rcases h.2 with ⟨e, _⟩ | ⟨g', c', cur, e, _, _, q1, q2, _⟩
  · cases e
  · cases e; exact ⟨q1, q2⟩
theorem objs_news {w : World} {b off : Nat} {os : List ObjD} (hc : ∀ i (h : i < os.length), w.cell? ⟨b, off + i * 2, none⟩ = some (.string os[i].key) ∧ w.cell? ⟨b, off + i * 2 + 1, none⟩ = some (.slice os[i].at_ os[i].vers.length os[i].cap) ∧ VersIn w os[i].at_ os[i].vers) :
    ∀ j u, (os.flatMap objCells)[j]? = some u → w.cell? ((⟨b, off, none⟩ : Addr).add j) = some u := fun j u hu => by
  have hadd : (⟨b, off, none⟩ : Addr).add j = ⟨b, off + j, none⟩ := by unfold Addr.add; split <;> simp_all
  have hl := objs_len os
  have hj : j < os.length * 2 := by
    rcases Nat.lt_or_ge j (os.length * 2) with h | h
    · exact h
    · rw [List.getElem?_eq_none (by omega)] at hu; cases hu
  have hi : j / 2 < os.length := by omega
  rw [hadd]
  have hat := flat_at objCells 2 (fun _ => rfl) os (j / 2) (j % 2) hi (by omega)
  rw [show j / 2 * 2 + j % 2 = j by omega, hu] at hat
  have hm : j % 2 = 0 ∨ j % 2 = 1 := by omega
  rcases hm with h0 | h0
  · rw [h0] at hat
    have := (hc (j / 2) hi).1
    rw [show off + j / 2 * 2 = off + j by omega] at this
    rw [this]; simpa [objCells] using hat.symm
  · rw [h0] at hat
    have := (hc (j / 2) hi).2.1
    rw [show off + j / 2 * 2 + 1 = off + j by omega] at this
    rw [this]; simpa [objCells] using hat.symm

/-- A slice of rows: where it lies, its rows, its capacity. -/
structure SlO where
  a : Option Addr
  vs : List ObjD
  cap : Nat
def SlsO (w : World) (sb : Nat) (ss : List SlO) : Prop := ∀ i (h : i < ss.length), w.cell? ⟨sb, i, none⟩ = some (.slice ss[i].a ss[i].vs.length ss[i].cap) ∧ ObjsIn w ss[i].a ss[i].vs
def catO (ss : List SlO) (k : Nat) : List ObjD := (ss.take k).flatMap SlO.vs
theorem catO_succ {ss : List SlO} {k : Nat} (h : k < ss.length) : catO ss (k + 1) = catO ss k ++ ss[k].vs := by
  unfold catO; rw [List.take_succ_eq_append_getElem h, List.flatMap_append]; simp
theorem catO_mono {ss : List SlO} {k : Nat} (h : k < ss.length) : (catO ss k).length + ss[k].vs.length ≤ (catO ss ss.length).length := by
  have e : ss = ss.take (k + 1) ++ ss.drop (k + 1) := (List.take_append_drop _ _).symm
  have h2 : (catO ss (k + 1)).length ≤ (catO ss ss.length).length := by
    have : catO ss ss.length = catO ss (k + 1) ++ (ss.drop (k + 1)).flatMap SlO.vs := by
      unfold catO
      rw [List.take_length]
      conv => lhs; rw [e]
      rw [List.flatMap_append]
    rw [this, List.length_append]; omega
  rw [catO_succ h, List.length_append] at h2
  exact h2
theorem SlsO.below {w w' : World} {sb : Nat} {ss : List SlO} (h : SlsO w sb ss) (hsb : sb < w.heap.size) (hb : Below w.heap.size w w') : SlsO w' sb ss := fun i hi => ⟨(hb.cell (p := ⟨sb, i, none⟩) hsb).trans (h i hi).1, (h i hi).2.below hb⟩

def CatOPost (ss : List SlO) (w : World) (e : Ending) (w' : World) : Prop :=
  ∃ g cp, e = .returned (.slice (some ⟨g, 0, none⟩) (catO ss ss.length).length cp) ∧ w'.ownsRow w.heap.size 45 2 (.slice (some ⟨g, 0, none⟩) (catO ss ss.length).length cp) (catO ss ss.length).length ((catO ss ss.length).flatMap objCells) ∧ Below w.heap.size w w'

set_option maxRecDepth 100000 in
set_option maxHeartbeats 2000000 in
theorem concatObj_any (sb : Nat) (ss : List SlO) (w : World) (hs : SlsO w sb ss) (hsb : sb < w.heap.size) (hlen : ss.length ≤ 8) (hpos : 0 < (catO ss ss.length).length) (htot : (catO ss ss.length).length ≤ 4194304) :
    Calls Try.prog 99 #[.slice (some ⟨sb, 0, none⟩) ss.length ss.length] w (CatOPost ss w) := by
  have HS := Lib.hid hs
  clear hs
  obtain ⟨i0, hi, hz0, hz1, hz2⟩ := info_parts infoObj
  go_enter Try.func99, Try.ntmps99
  go_wp2_with fail
  go_loop [3, 11] (fun z i => ∃ k : Nat, k ≤ ss.length ∧ i = .int .i64 (k : Int) ∧ z = .int .i64 ((catO ss k).length : Int)) (fun _ i => ss.length - (intOf i).toNat)
  case atStart => exact ⟨0, Nat.zero_le _, rfl, by simp [catO]⟩
  case round =>
    obtain ⟨k, hk, rfl, rfl⟩ := hrel
    by_cases hlt : k < ss.length
    · have c0 := (HS.out k hlt).1
      have hm := catO_mono hlt
      have HC := Lib.hid (catO_succ hlt)
      have hz : ¬ (((catO ss k).length : Int) + (ss[k].vs.length : Int) < 0) := by omega
      have hle : ((catO ss k).length : Int) + (ss[k].vs.length : Int) ≤ 4194304 := by omega
      go_wp2_with fail
      exact ⟨⟨k + 1, by omega, by go_num, by rw [HC.out, List.length_append]; go_num⟩, by simp [intOf]; omega⟩
    · obtain rfl : k = ss.length := by omega
      go_wp2_with fail
      refine (growObj_any _ _ hpos htot).mono ?_
      rintro e w1 ⟨cp, rfl, hown, hb⟩
      have HO := Lib.hid hown
      have HB := Lib.hid hb
      clear hown hb
      go_wp2_with fail
      go_loopw [6, 27] (fun v i wr => ∃ k g cp : Nat, k ≤ ss.length ∧ i = .int .i64 (k : Int) ∧ v = .slice (some ⟨g, 0, none⟩) (catO ss k).length cp ∧ wr.ownsRow w.heap.size 45 2 (.slice (some ⟨g, 0, none⟩) (catO ss k).length cp) (catO ss k).length ((catO ss k).flatMap objCells) ∧ Below w.heap.size w wr) (fun _ i _ => ss.length - (intOf i).toNat)
      case atStart => exact ⟨0, w.heap.size, cp, Nat.zero_le _, rfl, rfl, HO.out, HB.out⟩
      case round =>
        obtain ⟨k, g, cp, hk, rfl, rfl, hown, hB⟩ := hrel
        have HO := Lib.hid hown
        have HB := Lib.hid hB
        clear hown hB
        by_cases hlt : k < ss.length
        · have hS := (HS.out.below hsb HB.out) k hlt
          have c0 := hS.1
          have hm := catO_mono hlt
          have HC := Lib.hid (catO_succ hlt)
          have HR := Lib.hid hS.2
          clear hS
          have hcp := (own_capO HO.out).1
          obtain ⟨sv, hsv⟩ : ∃ sv, ss[k] = sv := ⟨_, rfl⟩
          rw [hsv] at c0 hm HC HR
          clear hsv
          by_cases h0 : sv.vs.length = 0
          · have hnil : sv.vs = [] := List.eq_nil_of_length_eq_zero h0
            have HN := Lib.hid hnil
            rw [h0] at c0
            clear hnil
            have hq : ¬ (cp < (catO ss k).length) := by omega
            clear h0
            obtain ⟨sa, hsa⟩ : ∃ sa, sv.a = sa := ⟨_, rfl⟩
            rw [hsa] at c0
            clear hsa
            rcases sa with _ | ⟨b9, o9, s9⟩
            all_goals
              go_wp2_with fail
              go_roundw
              case rel => exact ⟨k + 1, g, cp, by omega, by go_num, by rw [HC.out, HN.out, List.append_nil], by rw [HC.out, HN.out, List.append_nil]; exact HO.out, HB.out⟩
              case measure => simp [intOf]; omega
          · rcases HR.out with hnil | ⟨b1, o1, hae, hb1, hc1⟩
            · rw [hnil] at h0; simp at h0
            have HD := Lib.hid (objs_news hc1)
            clear hc1
            rw [hae] at c0
            clear hae
            go_wp2_with (at_builtin; refine wpList_append_lies _ rfl _ _ 23 rfl w.heap.size 45 i0 (.agg #[.string ⟨#[]⟩, .slice none 0 0]) 2 40 Try.underlying23 hi hz0 hz1 hz2 rfl (by decide) _ (catO ss k).length _ rfl HO.out ⟨b1, o1, none⟩ sv.vs.length sv.cap (sv.vs.flatMap objCells) rfl (objs_len _) HD.out (objs_one _) (by omega) (by unfold maxLen; omega) (by omega) HB.out.size _ rfl ?_; intro g2 cp2 w2 hown hgrow hat hlt2; have X := Lib.hid (And.intro hown hgrow); clear hown hgrow hat hlt2)
            go_roundw
            case rel => exact ⟨k + 1, g2, cp2, by omega, by go_num, by rw [HC.out, List.length_append], by rw [HC.out, List.length_append, List.flatMap_append]; exact X.out.1, Below.grown HB.out X.out.2 HB.out.size (fun j hj => (HO.out.lt j hj).1)⟩
            case measure => simp [intOf]; omega
        · obtain rfl : k = ss.length := by omega
          go_wp2_with fail
          go_ret
          exact ⟨g, cp, rfl, HO.out, HB.out⟩
theorem growObj_zero (w : World) :
    Calls Try.prog 147 #[.slice none 0 0, .int .i64 0] w fun e w' => e = .returned (.slice none 0 0) ∧ w' = w := by
  go_enter Try.func147, Try.ntmps147
  go_wp2_with fail
  go_ret
  exact ⟨rfl, rfl⟩

set_option maxRecDepth 100000 in
set_option maxHeartbeats 2000000 in
theorem concatObj_zero (sb : Nat) (a1 a2 : Option Addr) (c1 c2 : Nat) (w : World) (h1 : w.cell? ⟨sb, 0, none⟩ = some (.slice a1 0 c1)) (h2 : w.cell? ⟨sb, 1, none⟩ = some (.slice a2 0 c2)) :
    Calls Try.prog 99 #[.slice (some ⟨sb, 0, none⟩) 2 2] w fun e w' => e = .returned (.slice none 0 0) ∧ Below w.heap.size w w' := by
  go_enter Try.func99, Try.ntmps99
  go_wp2_with fail
  go_loop [3, 11] (fun z i => ∃ k : Nat, k ≤ 2 ∧ i = .int .i64 (k : Int) ∧ z = .int .i64 0) (fun _ i => 2 - (intOf i).toNat)
  case atStart => exact ⟨0, by omega, rfl, rfl⟩
  case round =>
    obtain ⟨k, hk, rfl, rfl⟩ := hrel
    obtain rfl | rfl | rfl : k = 0 ∨ k = 1 ∨ k = 2 := by omega
    · go_wp2_with fail
      exact ⟨⟨1, by omega, by go_num, by go_num⟩, by simp [intOf]⟩
    · go_wp2_with fail
      exact ⟨⟨2, by omega, by go_num, by go_num⟩, by simp [intOf]⟩
    · go_wp2_with fail
      refine (growObj_zero _).mono ?_
      rintro e w1 ⟨rfl, rfl⟩
      go_wp2_with fail
      go_loop [6, 27] (fun v i => ∃ k : Nat, k ≤ 2 ∧ i = .int .i64 (k : Int) ∧ v = .slice none 0 0) (fun _ i => 2 - (intOf i).toNat)
      case atStart => exact ⟨0, by omega, rfl, rfl⟩
      case round =>
        obtain ⟨k, hk, rfl, rfl⟩ := hrel
        obtain rfl | rfl | rfl : k = 0 ∨ k = 1 ∨ k = 2 := by omega
        · rcases a1 with _ | ⟨b9, o9, s9⟩
          all_goals
            go_wp2_with fail
            exact ⟨⟨1, by omega, by go_num, rfl⟩, by simp [intOf]⟩
        · rcases a2 with _ | ⟨b9, o9, s9⟩
          all_goals
            go_wp2_with fail
            exact ⟨⟨2, by omega, by go_num, rfl⟩, by simp [intOf]⟩
        · go_wp2_with fail
          go_ret
          exact ⟨rfl, Below.refl _ _⟩

end Go.Proofs.Ytjijichgoodocaa
