/- Slices of objects put one behind the other (slices.Concat, slices.Grow), as the program does it. -/
import Derived.Test.YtjijichgoodocaaVApp
import Derived.Lib.AppendZerosOnto
import Derived.Lib.SliceRun
import Derived.Lib.AppendZeros
import Derived.Test.YtjijichgoodocaaOrdB
namespace Go.Proofs.Ytjijichgoodocaa
open Go.RowKit

set_option maxRecDepth 100000 in
set_option maxHeartbeats 1000000 in
theorem growObj_any (n : Nat) (w : World) (h0 : 0 < n) (hn : n ≤ 4194304) :
    Calls Try.prog 147 #[.slice none 0 0, .int .i64 (n : Int)] w fun e w' => ∃ cp, e = .returned (.slice (some ⟨w.heap.size, 0, none⟩) 0 cp) ∧ w'.ownsRow w.heap.size 45 2 (.slice (some ⟨w.heap.size, 0, none⟩) 0 cp) 0 [] ∧ Below w.heap.size w w' := by
  obtain ⟨i0, hi, hz0, hz1, hz2⟩ := info_parts infoObj
  have h1 : ¬ ((n : Int) < 0) := by omega
  have h4 : (n : Int) > 0 := by omega
  have hold : (Builtin.firstCells i0.size 0 (.slice none 0 0)).run Try.prog w.drew = .ok ([] : List Value).toArray w.drew := run_firstCells_none w.drew i0.size 0 0 0
  have hbig : (0 + n) * i0.bytes ≤ 140737488355328 := by rw [hz2]; omega
  have hrz : ∀ ty, (Builtin.append_ #[23, 3] ty #[.slice none 0 0, .int .i64 (n : Int)]).run Try.prog w =
      .ok (.slice (some ⟨w.heap.size, 0, none⟩) (0 + n) (grownCap w (0 + n) 0 45)) (w.drew.alloc (.cells (([] : List Value).toArray ++ Builtin.zeroCells (Value.agg #[.string ⟨#[]⟩, .slice none 0 0]).cells n ++ Builtin.zeroCells (Value.agg #[.string ⟨#[]⟩, .slice none 0 0]).cells (grownCap w (0 + n) 0 45 - (0 + n))) 45)) := fun ty =>
    Lib.run_append_grow_zeros w 23 3 ty 45 i0 (.agg #[.string ⟨#[]⟩, .slice none 0 0]) .i64 .i64 Try.underlying23 Try.underlying3 hi hz0 none 0 0 [] hold n h0 (by rw [hz1]; omega) (by omega) (by omega) (by rw [hz2]; omega) (growslice_fits (by omega) hbig)
  have hGn : 0 + n ≤ grownCap w (0 + n) 0 45 := grownCap_ge w _ _ _
  have hG63 : grownCap w (0 + n) 0 45 ≤ maxLen := grownCap_le_maxLen w (0 + n) 0 45 (by unfold maxLen; omega)
  obtain ⟨G, hG⟩ : ∃ G, G = grownCap w (0 + n) 0 45 := ⟨_, rfl⟩
  rw [← hG] at hrz hGn hG63
  clear hold hG
  have hG1 : G ≤ 9223372036854775807 := by unfold maxLen at hG63; omega
  have HG := Lib.hid hG63
  clear hG63
  go_enter Try.func147, Try.ntmps147
  go_wp2_with (at_builtin; refine Lib.wpList_append_run _ rfl _ _ _ _ rfl _ _ rfl rfl _ _ (hrz _) ?_)
  all_goals
    go_ret
    refine ⟨G, rfl, ⟨by simp, .inr ⟨w.heap.size, G, _, rfl, Nat.le_refl _, heap_alloc_new w.drew _, Nat.zero_le _, HG.out, ?_, by simp⟩⟩, ((Below.refl _ _).drew).alloc (Nat.le_refl _) _⟩
    simp [Builtin.zeroCells, Value.cells]
    omega

theorem own_capO {u : World} {B g n cp : Nat} {xs : List Value} (h : u.ownsRow B 45 2 (.slice (some ⟨g, 0, none⟩) n cp) n xs) : n ≤ cp ∧ cp ≤ maxLen := by
  rcases h.2 with ⟨e, _⟩ | ⟨g', c', cur, e, _, _, q1, q2, _⟩
  · cases e
  · cases e; exact ⟨q1, q2⟩
theorem objs_news {w : World} {b off : Nat} {os : List ObjD} (hc : ∀ i (h : i < os.length), w.cell? ⟨b, off + i * 2, none⟩ = some (.string os[i].key) ∧ w.cell? ⟨b, off + i * 2 + 1, none⟩ = some (.slice os[i].at_ os[i].vers.length os[i].cap) ∧ VersIn w os[i].at_ os[i].vers) :
    ∀ j u, (os.flatMap objCells)[j]? = some u → w.cell? ((⟨b, off, none⟩ : Addr).add j) = some u := fun j u hu => by
  have hadd : (⟨b, off, none⟩ : Addr).add j = ⟨b, off + j, none⟩ := by unfold Addr.add; split <;> simp_all
  have hl := objs_len os
  have hj : j < os.length * 2 := by
    rcases Nat.lt_or_ge j (os.length * 2) with h | h
    · exact h
    · rw [List.getElem?_eq_none (by omega)] at hu; cases hu
  have hi : j / 2 < os.length := by omega
  rw [hadd]
  have hat := flat_at objCells 2 (fun _ => rfl) os (j / 2) (j % 2) hi (by omega)
  rw [show j / 2 * 2 + j % 2 = j by omega, hu] at hat
  have hm : j % 2 = 0 ∨ j % 2 = 1 := by omega
  rcases hm with h0 | h0
  · rw [h0] at hat
    have := (hc (j / 2) hi).1
    rw [show off + j / 2 * 2 = off + j by omega] at this
    rw [this]; simpa [objCells] using hat.symm
  · rw [h0] at hat
    have := (hc (j / 2) hi).2.1
    rw [show off + j / 2 * 2 + 1 = off + j by omega] at this
    rw [this]; simpa [objCells] using hat.symm

/-- A slice of rows: where it lies, its rows, its capacity. -/
structure SlO where
  a : Option Addr
  vs : List ObjD
  cap : Nat
def SlsO (w : World) (sb : Nat) (ss : List SlO) : Prop := ∀ i (h : i < ss.length), w.cell? ⟨sb, i, none⟩ = some (.slice ss[i].a ss[i].vs.length ss[i].cap) ∧ ObjsIn w ss[i].a ss[i].vs
def catO (ss : List SlO) (k : Nat) : List ObjD := (ss.take k).flatMap SlO.vs
theorem catO_succ {ss : List SlO} {k : Nat} (h : k < ss.length) : catO ss (k + 1) = catO ss k ++ ss[k].vs := by
  unfold catO; rw [List.take_succ_eq_append_getElem h, List.flatMap_append]; simp
theorem catO_mono {ss : List SlO} {k : Nat} (h : k < ss.length) : (catO ss k).length + ss[k].vs.length ≤ (catO ss ss.length).length := by
  have e : ss = ss.take (k + 1) ++ ss.drop (k + 1) := (List.take_append_drop _ _).symm
  have h2 : (catO ss (k + 1)).length ≤ (catO ss ss.length).length := by
    have : catO ss ss.length = catO ss (k + 1) ++ (ss.drop (k + 1)).flatMap SlO.vs := by
      unfold catO
      rw [List.take_length]
      conv => lhs; rw [e]
      rw [List.flatMap_append]
    rw [this, List.length_append]; omega
  rw [catO_succ h, List.length_append] at h2
  exact h2
theorem SlsO.below {w w' : World} {sb : Nat} {ss : List SlO} (h : SlsO w sb ss) (hsb : sb < w.heap.size) (hb : Below w.heap.size w w') : SlsO w' sb ss := fun i hi => ⟨(hb.cell (p := ⟨sb, i, none⟩) hsb).trans (h i hi).1, (h i hi).2.below hb⟩

def CatOPost (ss : List SlO) (w : World) (e : Ending) (w' : World) : Prop :=
  ∃ g cp, e = .returned (.slice (some ⟨g, 0, none⟩) (catO ss ss.length).length cp) ∧ w'.ownsRow w.heap.size 45 2 (.slice (some ⟨g, 0, none⟩) (catO ss ss.length).length cp) (catO ss ss.length).length ((catO ss ss.length).flatMap objCells) ∧ Below w.heap.size w w'

set_option maxRecDepth 100000 in
set_option maxHeartbeats 2000000 in
theorem concatObj_any (sb : Nat) (ss : List SlO) (w : World) (hs : SlsO w sb ss) (hsb : sb < w.heap.size) (hlen : ss.length ≤ 8) (hpos : 0 < (catO ss ss.length).length) (htot : (catO ss ss.length).length ≤ 4194304) :
    Calls Try.prog 99 #[.slice (some ⟨sb, 0, none⟩) ss.length ss.length] w (CatOPost ss w) := by
  have HS := Lib.hid hs
  clear hs
  obtain ⟨i0, hi, hz0, hz1, hz2⟩ := info_parts infoObj
  go_enter Try.func99, Try.ntmps99
  go_wp2_with fail
  go_loop [3, 11] (fun z i => ∃ k : Nat, k ≤ ss.length ∧ i = .int .i64 (k : Int) ∧ z = .int .i64 ((catO ss k).length : Int)) (fun _ i => ss.length - (intOf i).toNat)
  case atStart => exact ⟨0, Nat.zero_le _, rfl, by simp [catO]⟩
  case round =>
    obtain ⟨k, hk, rfl, rfl⟩ := hrel
    by_cases hlt : k < ss.length
    · have c0 := (HS.out k hlt).1
      have hm := catO_mono hlt
      have HC := Lib.hid (catO_succ hlt)
      have hz : ¬ (((catO ss k).length : Int) + (ss[k].vs.length : Int) < 0) := by omega
      have hle : ((catO ss k).length : Int) + (ss[k].vs.length : Int) ≤ 4194304 := by omega
      go_wp2_with fail
      exact ⟨⟨k + 1, by omega, by go_num, by rw [HC.out, List.length_append]; go_num⟩, by simp [intOf]; omega⟩
    · obtain rfl : k = ss.length := by omega
      go_wp2_with fail
      refine (growObj_any _ _ hpos htot).mono ?_
      rintro e w1 ⟨cp, rfl, hown, hb⟩
      have HO := Lib.hid hown
      have HB := Lib.hid hb
      clear hown hb
      go_wp2_with fail
      go_loopw [6, 27] (fun v i wr => ∃ k g cp : Nat, k ≤ ss.length ∧ i = .int .i64 (k : Int) ∧ v = .slice (some ⟨g, 0, none⟩) (catO ss k).length cp ∧ wr.ownsRow w.heap.size 45 2 (.slice (some ⟨g, 0, none⟩) (catO ss k).length cp) (catO ss k).length ((catO ss k).flatMap objCells) ∧ Below w.heap.size w wr) (fun _ i _ => ss.length - (intOf i).toNat)
      case atStart => exact ⟨0, w.heap.size, cp, Nat.zero_le _, rfl, rfl, HO.out, HB.out⟩
      case round =>
        obtain ⟨k, g, cp, hk, rfl, rfl, hown, hB⟩ := hrel
        have HO := Lib.hid hown
        have HB := Lib.hid hB
        clear hown hB
        by_cases hlt : k < ss.length
        · have hS := (HS.out.below hsb HB.out) k hlt
          have c0 := hS.1
          have hm := catO_mono hlt
          have HC := Lib.hid (catO_succ hlt)
          have HR := Lib.hid hS.2
          clear hS
          have hcp := (own_capO HO.out).1
          obtain ⟨sv, hsv⟩ : ∃ sv, ss[k] = sv := ⟨_, rfl⟩
          rw [hsv] at c0 hm HC HR
          clear hsv
          by_cases h0 : sv.vs.length = 0
          · have hnil : sv.vs = [] := List.eq_nil_of_length_eq_zero h0
            have HN := Lib.hid hnil
            rw [h0] at c0
            clear hnil
            have hq : ¬ (cp < (catO ss k).length) := by omega
            clear h0
            obtain ⟨sa, hsa⟩ : ∃ sa, sv.a = sa := ⟨_, rfl⟩
            rw [hsa] at c0
            clear hsa
            rcases sa with _ | ⟨b9, o9, s9⟩
            all_goals
              go_wp2_with fail
              go_roundw
              case rel => exact ⟨k + 1, g, cp, by omega, by go_num, by rw [HC.out, HN.out, List.append_nil], by rw [HC.out, HN.out, List.append_nil]; exact HO.out, HB.out⟩
              case measure => simp [intOf]; omega
          · rcases HR.out with hnil | ⟨b1, o1, hae, hb1, hc1⟩
            · rw [hnil] at h0; simp at h0
            have HD := Lib.hid (objs_news hc1)
            clear hc1
            rw [hae] at c0
            clear hae
            go_wp2_with (at_builtin; refine wpList_append_lies _ rfl _ _ 23 rfl w.heap.size 45 i0 (.agg #[.string ⟨#[]⟩, .slice none 0 0]) 2 40 Try.underlying23 hi hz0 hz1 hz2 rfl (by decide) _ (catO ss k).length _ rfl HO.out ⟨b1, o1, none⟩ sv.vs.length sv.cap (sv.vs.flatMap objCells) rfl (objs_len _) HD.out (objs_one _) (by omega) (by unfold maxLen; omega) (by omega) HB.out.size _ rfl ?_; intro g2 cp2 w2 hown hgrow hat hlt2; have X := Lib.hid (And.intro hown hgrow); clear hown hgrow hat hlt2)
            go_roundw
            case rel => exact ⟨k + 1, g2, cp2, by omega, by go_num, by rw [HC.out, List.length_append], by rw [HC.out, List.length_append, List.flatMap_append]; exact X.out.1, Below.grown HB.out X.out.2 HB.out.size (fun j hj => (HO.out.lt j hj).1)⟩
            case measure => simp [intOf]; omega
        · obtain rfl : k = ss.length := by omega
          go_wp2_with fail
          go_ret
          exact ⟨g, cp, rfl, HO.out, HB.out⟩
theorem growObj_zero (w : World) :
    Calls Try.prog 147 #[.slice none 0 0, .int .i64 0] w fun e w' => e = .returned (.slice none 0 0) ∧ w' = w := by
  go_enter Try.func147, Try.ntmps147
  go_wp2_with fail
  go_ret
  exact ⟨rfl, rfl⟩

set_option maxRecDepth 100000 in
set_option maxHeartbeats 2000000 in
theorem concatObj_zero (sb : Nat) (a1 a2 : Option Addr) (c1 c2 : Nat) (w : World) (h1 : w.cell? ⟨sb, 0, none⟩ = some (.slice a1 0 c1)) (h2 : w.cell? ⟨sb, 1, none⟩ = some (.slice a2 0 c2)) :
    Calls Try.prog 99 #[.slice (some ⟨sb, 0, none⟩) 2 2] w fun e w' => e = .returned (.slice none 0 0) ∧ Below w.heap.size w w' := by
  go_enter Try.func99, Try.ntmps99
  go_wp2_with fail
  go_loop [3, 11] (fun z i => ∃ k : Nat, k ≤ 2 ∧ i = .int .i64 (k : Int) ∧ z = .int .i64 0) (fun _ i => 2 - (intOf i).toNat)
  case atStart => exact ⟨0, by omega, rfl, rfl⟩
  case round =>
    obtain ⟨k, hk, rfl, rfl⟩ := hrel
    obtain rfl | rfl | rfl : k = 0 ∨ k = 1 ∨ k = 2 := by omega
    · go_wp2_with fail
      exact ⟨⟨1, by omega, by go_num, by go_num⟩, by simp [intOf]⟩
    · go_wp2_with fail
      exact ⟨⟨2, by omega, by go_num, by go_num⟩, by simp [intOf]⟩
    · go_wp2_with fail
      refine (growObj_zero _).mono ?_
      rintro e w1 ⟨rfl, rfl⟩
      go_wp2_with fail
      go_loop [6, 27] (fun v i => ∃ k : Nat, k ≤ 2 ∧ i = .int .i64 (k : Int) ∧ v = .slice none 0 0) (fun _ i => 2 - (intOf i).toNat)
      case atStart => exact ⟨0, by omega, rfl, rfl⟩
      case round =>
        obtain ⟨k, hk, rfl, rfl⟩ := hrel
        obtain rfl | rfl | rfl : k = 0 ∨ k = 1 ∨ k = 2 := by omega
        · rcases a1 with _ | ⟨b9, o9, s9⟩
          all_goals
            go_wp2_with fail
            exact ⟨⟨1, by omega, by go_num, rfl⟩, by simp [intOf]⟩
        · rcases a2 with _ | ⟨b9, o9, s9⟩
          all_goals
            go_wp2_with fail
            exact ⟨⟨2, by omega, by go_num, rfl⟩, by simp [intOf]⟩
        · go_wp2_with fail
          go_ret
          exact ⟨rfl, Below.refl _ _⟩

end Go.Proofs.Ytjijichgoodocaa

/- The search for a place in an ordered map. -/
namespace Go.Proofs.Ytjijichgoodocaa
open Go.RowKit

/-- Where a search ends: what is ahead says no, what is there says yes. -/
def Cut (p : Nat → Bool) (n r : Nat) : Prop := r ≤ n ∧ (∀ k, k + 1 = r → p k = false) ∧ (r < n → p r = true)
def CutPost (p : Nat → Bool) (n : Nat) (w : World) (e : Ending) (w' : World) : Prop := ∃ r : Nat, e = .returned (.int .i64 r) ∧ Cut p n r ∧ Below w.heap.size w w'
/-- The closure answers so, in every later world. -/
def Says (c : Nat) (x y : Value) (p : Nat → Bool) (n : Nat) (w : World) : Prop :=
  ∀ i, i < n → ∀ u, Below w.heap.size w u → Calls Try.prog c #[.int .i64 (i : Int), x, y] u fun e u' => e = .returned (.bool (p i)) ∧ Below u.heap.size u u'

set_option maxHeartbeats 1000000 in
theorem searchVer_any (x y : Value) (p : Nat → Bool) (n : Nat) (w : World) (hn : n ≤ 1048576) (hf : Says 181 x y p n w) :
    Calls Try.prog 180 #[.int .i64 (n : Int), .func (.func 181) #[] #[x, y]] w (CutPost p n w) := by
  have HF := Lib.hid hf
  clear hf
  go_enter Try.func180, Try.ntmps180
  go_wp2_with fail
  go_loopw [5, 6] (fun a b wr => ∃ i j : Nat, i ≤ j ∧ j ≤ n ∧ a = .int .i64 i ∧ b = .int .i64 j ∧ (∀ k, k + 1 = i → p k = false) ∧ (j < n → p j = true) ∧ Below w.heap.size w wr) (fun a b _ => (intOf b).toNat - (intOf a).toNat)
  case atStart => exact ⟨0, n, Nat.zero_le _, Nat.le_refl _, rfl, rfl, fun k e => by omega, fun h => absurd h (by omega), Below.refl _ _⟩
  case round =>
    obtain ⟨i, j, hij, hj, rfl, rfl, h0, h1, hB⟩ := hrel
    have H0 := Lib.hid h0
    have H1 := Lib.hid h1
    have HB := Lib.hid hB
    clear h0 h1 hB
    by_cases hlt : i < j
    · go_wp2_with fail
      have e : ((i : Int) + (j : Int)) / 2 = (((i + j) / 2 : Nat) : Int) := by omega
      rw [e]
      clear e
      have hm1 : i ≤ (i + j) / 2 := by omega
      have hm2 : (i + j) / 2 < j := by omega
      generalize (i + j) / 2 = m at *
      refine (HF.out m (by omega) _ HB.out).mono ?_
      rintro e w2 ⟨rfl, hb2⟩
      have HB2 := Lib.hid (HB.out.trans (hb2.mono HB.out.size))
      clear hb2
      cases hp : p m
      · go_wp2_with fail
        go_roundw
        case rel => exact ⟨m + 1, j, by omega, hj, by go_num, rfl, fun k e => (by obtain rfl : k = m := (by omega); exact hp), H1.out, HB2.out⟩
        case measure => simp [intOf]; omega
      · go_wp2_with fail
        go_roundw
        case rel => exact ⟨i, m, hm1, by omega, rfl, rfl, H0.out, fun _ => hp, HB2.out⟩
        case measure => simp [intOf]; omega
    · go_wp2_with fail
      go_ret
      obtain rfl : i = j := by omega
      exact ⟨i, rfl, ⟨hj, H0.out, H1.out⟩, HB.out⟩

set_option maxHeartbeats 1000000 in
theorem searchObj_any (x y : Value) (p : Nat → Bool) (n : Nat) (w : World) (hn : n ≤ 1048576) (hf : Says 194 x y p n w) :
    Calls Try.prog 180 #[.int .i64 (n : Int), .func (.func 194) #[] #[x, y]] w (CutPost p n w) := by
  have HF := Lib.hid hf
  clear hf
  go_enter Try.func180, Try.ntmps180
  go_wp2_with fail
  go_loopw [5, 6] (fun a b wr => ∃ i j : Nat, i ≤ j ∧ j ≤ n ∧ a = .int .i64 i ∧ b = .int .i64 j ∧ (∀ k, k + 1 = i → p k = false) ∧ (j < n → p j = true) ∧ Below w.heap.size w wr) (fun a b _ => (intOf b).toNat - (intOf a).toNat)
  case atStart => exact ⟨0, n, Nat.zero_le _, Nat.le_refl _, rfl, rfl, fun k e => by omega, fun h => absurd h (by omega), Below.refl _ _⟩
  case round =>
    obtain ⟨i, j, hij, hj, rfl, rfl, h0, h1, hB⟩ := hrel
    have H0 := Lib.hid h0
    have H1 := Lib.hid h1
    have HB := Lib.hid hB
    clear h0 h1 hB
    by_cases hlt : i < j
    · go_wp2_with fail
      have e : ((i : Int) + (j : Int)) / 2 = (((i + j) / 2 : Nat) : Int) := by omega
      rw [e]
      clear e
      have hm1 : i ≤ (i + j) / 2 := by omega
      have hm2 : (i + j) / 2 < j := by omega
      generalize (i + j) / 2 = m at *
      refine (HF.out m (by omega) _ HB.out).mono ?_
      rintro e w2 ⟨rfl, hb2⟩
      have HB2 := Lib.hid (HB.out.trans (hb2.mono HB.out.size))
      clear hb2
      cases hp : p m
      · go_wp2_with fail
        go_roundw
        case rel => exact ⟨m + 1, j, by omega, hj, by go_num, rfl, fun k e => (by obtain rfl : k = m := (by omega); exact hp), H1.out, HB2.out⟩
        case measure => simp [intOf]; omega
      · go_wp2_with fail
        go_roundw
        case rel => exact ⟨i, m, hm1, by omega, rfl, rfl, H0.out, fun _ => hp, HB2.out⟩
        case measure => simp [intOf]; omega
    · go_wp2_with fail
      go_ret
      obtain rfl : i = j := by omega
      exact ⟨i, rfl, ⟨hj, H0.out, H1.out⟩, HB.out⟩
end Go.Proofs.Ytjijichgoodocaa

/- How many versions, or objects, have at most that rank. -/
namespace Go.Proofs.Ytjijichgoodocaa
open Go.RowKit

def verP (vs : List VerD) (id : Int) (i : Nat) : Bool := if h : i < vs.length then decide (id < vs[i].id) else true
theorem verP_at {vs : List VerD} {id : Int} {i : Nat} (h : i < vs.length) : verP vs id i = decide (id < vs[i].id) := by simp [verP, h]
def objP (os : List ObjD) (key : ByteArray) (i : Nat) : Bool := if h : i < os.length then Op.bytesLess key.toList os[i].key.toList else true
theorem objP_at {os : List ObjD} {key : ByteArray} {i : Nat} (h : i < os.length) : objP os key i = Op.bytesLess key.toList os[i].key.toList := by simp [objP, h]

set_option maxHeartbeats 1000000 in
theorem verUp1_any (i : Nat) (B1 B2 : Nat) (a : Option Addr) (vs : List VerD) (cap : Nat) (id : Int) (w : World) (hi : i < vs.length) (c1 : w.cell? ⟨B1, 0, none⟩ = some (.slice a vs.length cap)) (c2 : w.cell? ⟨B2, 0, none⟩ = some (.int .i64 id)) (hv : VersIn w a vs) :
    Calls Try.prog 181 #[.int .i64 (i : Int), .pointer (some ⟨B1, 0, none⟩), .pointer (some ⟨B2, 0, none⟩)] w fun e w' => e = .returned (.bool (verP vs id i)) ∧ Below w.heap.size w w' := by
  rw [verP_at hi]
  rcases hv with hnil | ⟨b, off, rfl, hb, hc⟩
  · rw [hnil] at hi; simp at hi
  obtain ⟨d0, d1, d2⟩ := hc i hi
  have y0 := cell_regrown d0
  have y1 := cell_regrown d1
  have y2 := cell_regrown d2
  have x1 := cell_regrown c1
  have x2 := cell_regrown c2
  have m1 := meth_rank_ver vs[i].id vs[i].text vs[i].gone
  clear hc
  go_enter Try.func181, Try.ntmps181
  go_wp2_with fail
  refine wp_region_quiet_below (by kernel_rfl) (by kernel_rfl) ?_
  repeat (go_big_quiet_step ((go_at_call 233; exact Calls.regrown_of (verRank_any _ _ _ _))))
  refine wpQuiet_nil ?_
  intro _ hw'
  obtain ⟨⟨dq, osq⟩, hw''⟩ := hw'
  subst hw''
  go_wp2_with fail
  go_ret
  exact ⟨rfl, below_regrown _ _ _⟩

set_option maxHeartbeats 1000000 in
theorem verUpTo_any (a : Option Addr) (vs : List VerD) (cap : Nat) (id : Int) (w : World) (hv : VersIn w a vs) (hn : vs.length ≤ 1048576) :
    Calls Try.prog 148 #[.slice a vs.length cap, .int .i64 id] w (CutPost (verP vs id) vs.length w) := by
  have HV := Lib.hid hv
  clear hv
  go_enter Try.func148, Try.ntmps148
  go_wp2_with fail
  have hb0 : Below w.heap.size w ((w.alloc (.cells #[.slice a vs.length cap] 170)).alloc (.cells #[.int .i64 id] 3)) := ((Below.refl _ _).alloc (Nat.le_refl _) _).alloc (by simp) _
  refine (searchVer_any _ _ (verP vs id) vs.length _ hn ?hf).mono ?_
  case hf =>
    intro i hi u hu
    have e1 := hu.cell (p := ⟨w.heap.size, 0, none⟩) (by simp; omega)
    have e2 := hu.cell (p := ⟨w.heap.size + 1, 0, none⟩) (by simp)
    simp [go_sem] at e1 e2
    exact verUp1_any i _ _ a vs cap id u hi e1 e2 ((HV.out.below hb0).below hu)
  rintro e w2 ⟨r, rfl, hr, hb2⟩
  have HR := Lib.hid hr
  clear hr
  go_wp2_with fail
  go_ret
  exact ⟨r, rfl, HR.out, hb0.trans (hb2.mono (by simp; omega))⟩

set_option maxHeartbeats 1000000 in
theorem objUp1_any (i : Nat) (B1 B2 : Nat) (a : Option Addr) (os : List ObjD) (cap : Nat) (key : ByteArray) (w : World) (hi : i < os.length) (c1 : w.cell? ⟨B1, 0, none⟩ = some (.slice a os.length cap)) (c2 : w.cell? ⟨B2, 0, none⟩ = some (.string key)) (hv : ObjsIn w a os) :
    Calls Try.prog 194 #[.int .i64 (i : Int), .pointer (some ⟨B1, 0, none⟩), .pointer (some ⟨B2, 0, none⟩)] w fun e w' => e = .returned (.bool (objP os key i)) ∧ Below w.heap.size w w' := by
  rw [objP_at hi]
  have hle := Lib.hid (bytesLess_le os[i].key.toList key.toList)
  rcases hv with hnil | ⟨b, off, rfl, hb, hc⟩
  · rw [hnil] at hi; simp at hi
  obtain ⟨d0, d1, d2⟩ := hc i hi
  have y0 := cell_regrown d0
  have y1 := cell_regrown d1
  have x1 := cell_regrown c1
  have x2 := cell_regrown c2
  have m1 := meth_rank_obj os[i].key os[i].at_ os[i].vers.length os[i].cap
  clear hc d2
  go_enter Try.func194, Try.ntmps194
  go_wp2_with fail
  refine wp_region_quiet_below (by kernel_rfl) (by kernel_rfl) ?_
  repeat (go_big_quiet_step ((go_at_call 234; exact Calls.regrown_of (objRank_any _ _ _ _ _))))
  refine wpQuiet_nil ?_
  intro _ hw'
  obtain ⟨⟨dq, osq⟩, hw''⟩ := hw'
  subst hw''
  go_wp2_with fail
  go_ret
  exact ⟨ret_bool (by rw [← Bool.not_or, hle.out]; simp), below_regrown _ _ _⟩

set_option maxHeartbeats 1000000 in
theorem objUpTo_any (a : Option Addr) (os : List ObjD) (cap : Nat) (key : ByteArray) (w : World) (hv : ObjsIn w a os) (hn : os.length ≤ 1048576) :
    Calls Try.prog 177 #[.slice a os.length cap, .string key] w (CutPost (objP os key) os.length w) := by
  have HV := Lib.hid hv
  clear hv
  go_enter Try.func177, Try.ntmps177
  go_wp2_with fail
  have hb0 : Below w.heap.size w ((w.alloc (.cells #[.slice a os.length cap] 127)).alloc (.cells #[.string key] 9)) := ((Below.refl _ _).alloc (Nat.le_refl _) _).alloc (by simp) _
  refine (searchObj_any _ _ (objP os key) os.length _ hn ?hf).mono ?_
  case hf =>
    intro i hi u hu
    have e1 := hu.cell (p := ⟨w.heap.size, 0, none⟩) (by simp; omega)
    have e2 := hu.cell (p := ⟨w.heap.size + 1, 0, none⟩) (by simp)
    simp [go_sem] at e1 e2
    exact objUp1_any i _ _ a os cap key u hi e1 e2 ((HV.out.below hb0).below hu)
  rintro e w2 ⟨r, rfl, hr, hb2⟩
  have HR := Lib.hid hr
  clear hr
  go_wp2_with fail
  go_ret
  exact ⟨r, rfl, HR.out, hb0.trans (hb2.mono (by simp; omega))⟩
end Go.Proofs.Ytjijichgoodocaa
