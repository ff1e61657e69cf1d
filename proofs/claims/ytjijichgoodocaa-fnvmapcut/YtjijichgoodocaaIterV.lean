/- The program's ordered maps: ranks, whether they ascend, versions that are valid. -/
import Derived.Test.YtjijichgoodocaaVmOk
import Derived.Test.YtjijichgoodocaaRows
import Derived.WalkKit
import Derived.RangeFuncNested
import Derived.RangeFuncBound
import Derived.RangeFuncCalls
import Derived.RangeFuncLeaves
import Derived.Shelf.Abstract
import Derived.Shelf.RegionOpen
import Derived.OwnWalkIn
import Derived.TacticsInMore
import Derived.LoopNIn
import Derived.LoopIn
namespace Go.Proofs.Ytjijichgoodocaa
open Go.RowKit

set_option maxHeartbeats 400000 in
theorem verRank_any (i : Int) (s : ByteArray) (g : Bool) (w : World) :
    Calls Try.prog 233 #[.agg #[.int .i64 i, .string s, .bool g]] w fun e w' => e = .returned (.int .i64 i) ∧ Below w.heap.size w w' := by
  go_enter Try.func233, Try.ntmps233
  go_wp2
  go_ret
  exact ⟨rfl, (Below.refl _ _).alloc (Nat.le_refl _) _⟩

set_option maxHeartbeats 400000 in
theorem objRank_any (s : ByteArray) (a : Option Addr) (n c : Nat) (w : World) :
    Calls Try.prog 234 #[.agg #[.string s, .slice a n c]] w fun e w' => e = .returned (.string s) ∧ Below w.heap.size w w' := by
  go_enter Try.func234, Try.ntmps234
  go_wp2
  go_ret
  exact ⟨rfl, (Below.refl _ _).alloc (Nat.le_refl _) _⟩

theorem meth_rank_ver (i : Int) (s : ByteArray) (g : Bool) (w : World) : (method 374 27 (.agg #[.int .i64 i, .string s, .bool g]) "loop.example/cadastre/impl.rank").run Try.prog w = .ok (233, .agg #[.int .i64 i, .string s, .bool g]) w := by kernel_rfl
theorem meth_rank_obj (s : ByteArray) (a : Option Addr) (n c : Nat) (w : World) : (method 374 45 (.agg #[.string s, .slice a n c]) "loop.example/cadastre/impl.rank").run Try.prog w = .ok (234, .agg #[.string s, .slice a n c]) w := by kernel_rfl

set_option maxHeartbeats 400000 in
theorem idOk_any (i : Int) (w : World) :
    Calls Try.prog 175 #[.int .i64 i] w fun e w' => e = .returned (.bool (inB i 1 9999)) ∧ w = w' := by
  have hm : (i < 1 ∧ inB i 1 9999 = false) ∨ (1 ≤ i ∧ i ≤ 9999 ∧ inB i 1 9999 = true) ∨ (1 ≤ i ∧ 9999 < i ∧ inB i 1 9999 = false) := by
    by_cases h1 : i < 1
    · exact .inl ⟨h1, by simp [inB]; omega⟩
    · by_cases h2 : i ≤ 9999
      · exact .inr (.inl ⟨by omega, h2, by simp [inB]; omega⟩)
      · exact .inr (.inr ⟨by omega, by omega, by simp [inB]; omega⟩)
  rcases hm with ⟨h1, hI⟩ | ⟨h1, h2, hI⟩ | ⟨h1, h2, hI⟩
  all_goals
    have HI := Lib.hid hI
    clear hI
    go_enter Try.func175, Try.ntmps175
    go_wp2
    go_ret
    exact ⟨ret_bool (by simp [HI.out] <;> omega), rfl⟩

set_option maxHeartbeats 1000000 in
theorem verValid_any (i : Int) (s : ByteArray) (g : Bool) (w : World) (hs : s.size ≤ maxLen) :
    Calls Try.prog 135 #[.agg #[.int .i64 i, .string s, .bool g]] w fun e w' => e = .returned (.bool (verOkB i s g)) ∧ Below w.heap.size w w' := by
  cases hI : inB i 1 9999 <;> cases hT : okB textB 8 s <;> cases g <;> cases hz : s.toList.isEmpty
  all_goals
    go_enter Try.func135, Try.ntmps135
    go_wp2_with first
      | (go_at_call 175; refine (idOk_any _ _).mono ?_; rintro e w' ⟨rfl, rfl⟩; rw [hI])
      | (go_at_call 176; refine (textOk_any _ _ hs).mono ?_; rintro e w' ⟨rfl, rfl⟩; rw [hT])
    go_ret
    exact ⟨ret_bool (by simp [verOkB, hI, hT, hz]), (Below.refl _ _).alloc (Nat.le_refl _) _⟩

/-- The first k versions have ascending numbers. -/
def VersUp (vs : List VerD) (k : Nat) : Prop := ∀ i (h : i < vs.length), i < k → ∀ j (hj : j < vs.length), j + 1 = i → vs[j].id < vs[i].id
def BoolPost (P : Prop) (w : World) (e : Ending) (w' : World) : Prop := ∃ b : Bool, e = .returned (.bool b) ∧ (b = true ↔ P) ∧ Below w.heap.size w w'
theorem BoolPost.no {P : Prop} {w w' : World} (h : ¬ P) (hb : Below w.heap.size w w') : BoolPost P w (.returned (.bool false)) w' := ⟨false, rfl, by simpa using h, hb⟩
theorem BoolPost.yes {P : Prop} {w w' : World} (h : P) (hb : Below w.heap.size w w') : BoolPost P w (.returned (.bool true)) w' := ⟨true, rfl, by simpa using h, hb⟩

set_option maxHeartbeats 1000000 in
theorem verAscends_any (a : Option Addr) (vs : List VerD) (cap : Nat) (w : World) (hv : VersIn w a vs) (hn : vs.length ≤ maxLen) :
    Calls Try.prog 142 #[.slice a vs.length cap] w (BoolPost (VersUp vs vs.length) w) := by
  unfold maxLen at hn
  have HV := Lib.hid hv
  clear hv
  go_enter Try.func142, Try.ntmps142
  go_wp2_with fail
  go_loopw [3] (fun i wr => ∃ k : Nat, k ≤ vs.length ∧ i = .int .i64 (↑k + 1) ∧ Below w.heap.size w wr ∧ VersUp vs (k + 1)) (fun i _ => vs.length + 1 - (intOf i).toNat)
  case atStart => exact ⟨0, Nat.zero_le _, rfl, Below.refl _ _, fun i h hk j hj e => by omega⟩
  case round =>
    obtain ⟨k, hk, rfl, hB, hU⟩ := hrel
    have HW := Lib.hid hB
    have HU := Lib.hid hU
    clear hB hU
    by_cases hlt : k + 1 < vs.length
    · rcases HV.out.below HW.out with hnil | ⟨b1, o1, rfl, hb1, hc1⟩
      · rw [hnil] at hlt; simp at hlt
      obtain ⟨c0, c1, c2⟩ := hc1 (k + 1) hlt
      obtain ⟨d0, d1, d2⟩ := hc1 k (by omega)
      have y0 := cell_regrown c0
      have y1 := cell_regrown c1
      have y2 := cell_regrown c2
      have x0 := cell_regrown d0
      have x1 := cell_regrown d1
      have x2 := cell_regrown d2
      clear hc1
      have hwk : IntKind.i64.wrap (k : Int) = (k : Int) := by rw [IntKind.wrap_i64]; omega
      have m1 := meth_rank_ver vs[k + 1].id vs[k + 1].text vs[k + 1].gone
      have m2 := meth_rank_ver vs[k].id vs[k].text vs[k].gone
      by_cases hid : vs[k].id ≥ vs[k + 1].id
      all_goals
        go_wp2_with fail
        refine wp_region_quiet_below (by kernel_rfl) (by kernel_rfl) ?_
        repeat (go_big_quiet_step ((go_at_call 233; exact Calls.regrown_of (verRank_any _ _ _ _))))
        refine wpQuiet_nil ?_
        intro _ hw'
        obtain ⟨⟨dq, osq⟩, hw''⟩ := hw'
        subst hw''
        clear m1 m2
        go_wp2_with fail
      · go_ret
        exact ⟨false, rfl, by simp only [Bool.false_eq_true, false_iff]; intro h; have := h (k + 1) hlt hlt k (by omega) rfl; omega, HW.out.trans ((below_regrown _ _ _).mono HW.out.size)⟩
      · go_roundw
        case rel => exact ⟨k + 1, by omega, by go_num, HW.out.trans ((below_regrown _ _ _).mono HW.out.size), fun i h hik j hj e => by
          by_cases q : i = k + 1
          · subst q; obtain rfl : j = k := by omega
            omega
          · exact HU.out i h (by omega) j hj e⟩
        case measure => simp [intOf]; omega
    · go_wp2_with fail
      go_ret
      exact ⟨true, rfl, by simp only [true_iff]; exact fun i h hk' j hj e => HU.out i h (by omega) j hj e, HW.out⟩
end Go.Proofs.Ytjijichgoodocaa

/- The order of strings, byte by byte: it is List's own. -/
namespace Go.Proofs.Ytjijichgoodocaa
open Go.RowKit

theorem bytesLess_eq : ∀ (x y : List UInt8), Op.bytesLess x y = decide (x < y)
  | [], [] => by simp [Op.bytesLess]
  | _ :: _, [] => by simp [Op.bytesLess]
  | [], _ :: _ => by simp [Op.bytesLess]
  | a :: x, b :: y => by
    rw [Op.bytesLess, bytesLess_eq x y]
    simp only [List.cons_lt_cons_iff]
    by_cases h1 : a < b <;> by_cases h2 : a = b <;> by_cases h3 : x < y <;> simp [h1, h2, h3]

theorem bytesLess_le (x y : List UInt8) : (Op.bytesLess x y || x == y) = !(Op.bytesLess y x) := by
  rw [bytesLess_eq, bytesLess_eq, Bool.eq_iff_iff]
  simp only [Bool.or_eq_true, decide_eq_true_eq, beq_iff_eq, Bool.not_eq_true', decide_eq_false_iff_not]
  constructor
  · rintro (h | rfl)
    · exact List.lt_asymm h
    · exact List.lt_irrefl _
  · intro h
    by_cases e : x = y
    · exact .inr e
    · exact .inl (Decidable.byContradiction fun k => e (List.le_antisymm (List.not_lt.1 h) (List.not_lt.1 k)))
end Go.Proofs.Ytjijichgoodocaa

/- Whether the keys of objects ascend, as the program asks it. -/
namespace Go.Proofs.Ytjijichgoodocaa
open Go.RowKit

def ObjsUp (os : List ObjD) (k : Nat) : Prop := ∀ i (h : i < os.length), i < k → ∀ j (hj : j < os.length), j + 1 = i → (Op.bytesLess os[i].key.toList os[j].key.toList || os[i].key.toList == os[j].key.toList) = false

set_option maxHeartbeats 1000000 in
theorem objAscends_any (a : Option Addr) (os : List ObjD) (cap : Nat) (w : World) (hv : ObjsIn w a os) (hn : os.length ≤ maxLen) :
    Calls Try.prog 88 #[.slice a os.length cap] w (BoolPost (ObjsUp os os.length) w) := by
  unfold maxLen at hn
  have HV := Lib.hid hv
  clear hv
  go_enter Try.func88, Try.ntmps88
  go_wp2_with fail
  go_loopw [3] (fun i wr => ∃ k : Nat, k ≤ os.length ∧ i = .int .i64 (↑k + 1) ∧ Below w.heap.size w wr ∧ ObjsUp os (k + 1)) (fun i _ => os.length + 1 - (intOf i).toNat)
  case atStart => exact ⟨0, Nat.zero_le _, rfl, Below.refl _ _, fun i h hk j hj e => by omega⟩
  case round =>
    obtain ⟨k, hk, rfl, hB, hU⟩ := hrel
    have HW := Lib.hid hB
    have HU := Lib.hid hU
    clear hB hU
    by_cases hlt : k + 1 < os.length
    · rcases HV.out.below HW.out with hnil | ⟨b1, o1, rfl, hb1, hc1⟩
      · rw [hnil] at hlt; simp at hlt
      obtain ⟨c0, c1, c2⟩ := hc1 (k + 1) hlt
      obtain ⟨d0, d1, d2⟩ := hc1 k (by omega)
      have y0 := cell_regrown c0
      have y1 := cell_regrown c1
      have x0 := cell_regrown d0
      have x1 := cell_regrown d1
      clear hc1 c2 d2
      have hwk : IntKind.i64.wrap (k : Int) = (k : Int) := by rw [IntKind.wrap_i64]; omega
      have m1 := meth_rank_obj os[k + 1].key os[k + 1].at_ os[k + 1].vers.length os[k + 1].cap
      have m2 := meth_rank_obj os[k].key os[k].at_ os[k].vers.length os[k].cap
      have HO := Lib.hid (bytesLess_le os[k + 1].key.toList os[k].key.toList)
      cases hO : Op.bytesLess os[k].key.toList os[k + 1].key.toList
      all_goals
        go_wp2_with fail
        refine wp_region_quiet_below (by kernel_rfl) (by kernel_rfl) ?_
        repeat (go_big_quiet_step ((go_at_call 234; exact Calls.regrown_of (objRank_any _ _ _ _ _))))
        refine wpQuiet_nil ?_
        intro _ hw'
        obtain ⟨⟨dq, osq⟩, hw''⟩ := hw'
        subst hw''
        clear m1 m2
        go_wp2_with fail
      · go_ret
        exact ⟨false, rfl, by simp only [Bool.false_eq_true, false_iff]; intro h; have := h (k + 1) hlt hlt k (by omega) rfl; rw [HO.out, hO] at this; exact absurd this (by decide), HW.out.trans ((below_regrown _ _ _).mono HW.out.size)⟩
      · go_roundw
        case rel => exact ⟨k + 1, by omega, by go_num, HW.out.trans ((below_regrown _ _ _).mono HW.out.size), fun i h hik j hj e => by
          by_cases q : i = k + 1
          · subst q; obtain rfl : j = k := by omega
            rw [HO.out, hO]; rfl
          · exact HU.out i h (by omega) j hj e⟩
        case measure => simp [intOf]; omega
    · go_wp2_with fail
      go_ret
      exact ⟨true, rfl, by simp only [true_iff]; exact fun i h hk' j hj e => HU.out i h (by omega) j hj e, HW.out⟩
end Go.Proofs.Ytjijichgoodocaa

/- The iterators over an ordered map: contracts for every loop body. -/
namespace Go.Proofs.Ytjijichgoodocaa
open Go.RowKit Go.Shelf
attribute [local go_sem] Oper.semAt_some

theorem grown_of_below {W W' : World} (h : Below W.heap.size W W') : W.grownBy W' none := ⟨h.os, h.tape, h.output, h.size, fun k hk _ => h.block k hk⟩
theorem abides_below {β : Type} {B : Nat} {J : β → World → Prop} (h : AbidesFrom B J) {s : β} {W W' : World} (hs : J s W) (hb : Below W.heap.size W W') : J s W' :=
  h s W W' none hs (grown_of_below hb) (fun r e => by cases e)
theorem take_attach_succ {α : Type} (xs : List α) (k : Nat) (h : k < xs.length) : xs.attach.take (k + 1) = xs.attach.take k ++ [⟨xs[k], List.getElem_mem h⟩] := by
  rw [List.take_succ_eq_append_getElem (by simpa using h)]
  simp

set_option maxHeartbeats 400000 in
theorem objRank_is (s : ByteArray) (a : Option Addr) (n c : Nat) (w : World) :
    Calls Try.prog 234 #[.agg #[.string s, .slice a n c]] w fun e w' => e = .returned (.string s) ∧ w' = w.alloc (.cells #[.string s, .slice a n c] 45) := by
  go_enter Try.func234, Try.ntmps234
  go_wp2
  go_ret
  exact ⟨rfl, rfl⟩

/-- What a round says: it goes on, or it has said no more. -/
def Said {α : Type} (n₀ : Nat) (J Jx : List α → World → Prop) (xs : List α) (W : World) (b : Bool) (W' : World) : Prop := (b = true ∧ J xs W' ∧ Below n₀ W W') ∨ (b = false ∧ Jx xs W')
theorem said_of {α : Type} {n₀ : Nat} {J Jx : List α → World → Prop} {xs : List α} {W : World} {e : Ending} {W' : World} (h : (e = .returned (.bool true) ∧ J xs W' ∧ Below n₀ W W') ∨ (e = .returned (.bool false) ∧ Jx xs W')) : ∃ b, e = .returned (.bool b) ∧ Said n₀ J Jx xs W b W' := by
  rcases h with ⟨rfl, h⟩ | ⟨rfl, h⟩
  · exact ⟨true, rfl, .inl ⟨rfl, h⟩⟩
  · exact ⟨false, rfl, .inr ⟨rfl, h⟩⟩

def objArgs (o : ObjD) : Array Value := #[.string o.key, .agg #[.string o.key, .slice o.at_ o.vers.length o.cap]]

set_option maxHeartbeats 1000000 in
theorem objAll_any (a : Option Addr) (len cap : Nat) (w : World) :
    Calls Try.prog 86 #[.slice a len cap] w fun e w' => e = .returned (.func (.func 140) #[] #[.pointer (some ⟨w.heap.size, 0, none⟩)]) ∧ w' = w.alloc (.cells #[.slice a len cap] 127) := by
  go_enter Try.func86, Try.ntmps86
  go_wp2
  go_ret
  exact ⟨rfl, rfl⟩

set_option maxRecDepth 100000 in
set_option maxHeartbeats 2000000 in
theorem objAll1_in (n : Nat) (hn : 1 ≤ n) (l Bs : Nat) (a : Option Addr) (os : List ObjD) (cap : Nat) (u0 : World) (hO : ObjsIn u0 a os) (hlen : os.length ≤ maxLen) (J Jx : List {o // o ∈ os} → World → Prop)
    (hJ : ∀ s A B, J s A → Below A.heap.size A B → J s B)
    (hY : ∀ pre x W, J pre W → pre.length < os.length → YieldAt Fence.wide (n - 1) Try.prog l (objArgs x.1) W fun e W' =>
      (e = .returned (.bool true) ∧ J (pre ++ [x]) W' ∧ Below u0.heap.size W W') ∨ (e = .returned (.bool false) ∧ Jx (pre ++ [x]) W'))
    (W : World) (hBs : W.cell? ⟨Bs, 0, none⟩ = some (.slice a os.length cap)) (hW : Below u0.heap.size u0 W) (h0 : J [] W) :
    CallsIn Fence.wide n Try.prog 140 #[.func (.yield l) #[] #[], .pointer (some ⟨Bs, 0, none⟩)] W fun e W' => (∃ v, e = .returned v) ∧
      ((∃ ys, ys = os.attach ∧ J ys W') ∨ (∃ pre, pre <+: os.attach ∧ Jx pre W')) := by
  unfold maxLen at hlen
  have HO := Lib.hid hO
  have HW := Lib.hid hW
  have HJ := Lib.hid hJ
  have HY := Lib.hid hY
  clear hO hW hJ hY
  refine callsIn_of_wp Try.func140 rfl trivial ?_ rfl
  simp only [Try.ntmps140, List.size_toArray, List.length_cons, List.length_nil, Nat.reduceAdd, Nat.reduceSub, Array.replicate_succ, Array.replicate_zero, List.push_toArray, List.append_toArray, List.nil_append, List.cons_append]
  gi_wp2
  gi_loopw [7] (fun i wr => ∃ k : Nat, k ≤ os.length ∧ i = .int .i64 k ∧ J (os.attach.take k) wr ∧ Below u0.heap.size u0 wr)
    (fun i _ => os.length - (intOf i).toNat)
  case atStart => exact ⟨0, Nat.zero_le _, rfl, h0, HW.out⟩
  case round =>
    obtain ⟨k, hk, rfl, hJs, hnx⟩ := hrel
    have HN := Lib.hid hnx
    have HS := Lib.hid hJs
    clear hnx hJs
    by_cases hlt : k < os.length
    · rcases HO.out.below HN.out with hnil | ⟨b1, o1, rfl, hb1, hc1⟩
      · rw [hnil] at hlt; simp at hlt
      obtain ⟨c0, c1, c2⟩ := hc1 k hlt
      clear hc1 c2 hBs
      have m1 := meth_rank_obj os[k].key os[k].at_ os[k].vers.length os[k].cap
      gi_wp2
      have hJ2 : J (os.attach.take k) (((wr.alloc (.cells #[.string os[k].key, .slice os[k].at_ os[k].vers.length os[k].cap] 45)).alloc (.cells #[.string os[k].key, .slice os[k].at_ os[k].vers.length os[k].cap] 45)).drew) := HJ.out _ _ _ HS.out ((((Below.refl _ _).alloc (Nat.le_refl _) _).alloc (by simp) _).drew)
      obtain ⟨fn, tmps, assign, body, hy, hR⟩ := HY.out _ ⟨os[k], List.getElem_mem hlt⟩ _ hJ2 (by simp; omega)
      simp only [objArgs] at hy
      gi_region_with (first
        | (refine ⟨trivial, ?_⟩; gi_at_call 234; refine (callsIn_wide.2 (objRank_is _ _ _ _ _)).mono ?_; rintro e w2 ⟨rfl, rfl⟩)
        | (refine hR.mono ?_; intro e W3 hq; obtain ⟨b, rfl, hq3⟩ := said_of hq; have HQ := Lib.hid hq3; clear hq hq3))
      all_goals
        clear hy hR m1 hJ2
        cases b
        · gi_wp2
          refine bodyPost_ret (results_none rfl _ _ _) rfl ?_
          rcases HQ.out with ⟨h, _⟩ | ⟨_, h⟩
          · cases h
          · exact ⟨⟨_, rfl⟩, .inr ⟨_, by rw [← take_attach_succ os k hlt]; exact List.take_prefix _ _, h⟩⟩
        · gi_wp2
          go_roundw
          case rel =>
            rcases HQ.out with ⟨_, h, hb⟩ | ⟨h, _⟩
            · exact ⟨k + 1, by omega, by go_num, by rw [take_attach_succ os k hlt]; exact h, (HN.out.trans ((((Below.refl _ _).alloc HN.out.size _).alloc (by have := HN.out.size; simp; omega) _).drew)).trans hb⟩
            · cases h
          case measure => simp [intOf]; omega
    · obtain rfl : k = os.length := by omega
      gi_wp2
      go_end0
      exact ⟨⟨_, rfl⟩, .inl ⟨_, by rw [List.take_of_length_le (by simp)], HS.out⟩⟩

theorem objAll_stops (n : Nat) (hn : 1 ≤ n) (Bs : Nat) (a : Option Addr) (os : List ObjD) (cap : Nat) (u0 : World) (hO : ObjsIn u0 a os) (hlen : os.length ≤ maxLen) (w : World) (hBs : Bs < w.heap.size) (hu : Below u0.heap.size u0 w)
    (hc : w.cell? ⟨Bs, 0, none⟩ = some (.slice a os.length cap)) :
    SeqStopsK Fence.wide n Try.prog 140 #[.pointer (some ⟨Bs, 0, none⟩)] (fun x : {o // o ∈ os} => objArgs x.1) (Below u0.heap.size) (fun ys => ys = os.attach) (fun pre => pre <+: os.attach) os.length w := fun l J Jx W hW hJ _ hY h0 =>
  objAll1_in n hn l Bs a os cap u0 hO hlen J Jx (fun _ _ _ hs hb => abides_below hJ hs hb) hY W ((hW.cell (p := ⟨Bs, 0, none⟩) hBs).trans hc) (hu.trans (hW.mono hu.size)) h0
end Go.Proofs.Ytjijichgoodocaa

/- The iterator over versions: its contract for every loop body. -/
namespace Go.Proofs.Ytjijichgoodocaa
open Go.RowKit Go.Shelf
attribute [local go_sem] Oper.semAt_some

set_option maxHeartbeats 400000 in
theorem verRank_is (i : Int) (s : ByteArray) (g : Bool) (w : World) :
    Calls Try.prog 233 #[.agg #[.int .i64 i, .string s, .bool g]] w fun e w' => e = .returned (.int .i64 i) ∧ w' = w.alloc (.cells #[.int .i64 i, .string s, .bool g] 27) := by
  go_enter Try.func233, Try.ntmps233
  go_wp2
  go_ret
  exact ⟨rfl, rfl⟩

def verArgs (v : VerD) : Array Value := #[.int .i64 v.id, .agg #[.int .i64 v.id, .string v.text, .bool v.gone]]

set_option maxHeartbeats 1000000 in
theorem verAll_any (a : Option Addr) (len cap : Nat) (w : World) :
    Calls Try.prog 141 #[.slice a len cap] w fun e w' => e = .returned (.func (.func 179) #[] #[.pointer (some ⟨w.heap.size, 0, none⟩)]) ∧ w' = w.alloc (.cells #[.slice a len cap] 170) := by
  go_enter Try.func141, Try.ntmps141
  go_wp2
  go_ret
  exact ⟨rfl, rfl⟩

set_option maxRecDepth 100000 in
set_option maxHeartbeats 2000000 in
theorem verAll1_in (n : Nat) (hn : 1 ≤ n) (l Bs : Nat) (a : Option Addr) (os : List VerD) (cap : Nat) (u0 : World) (hO : VersIn u0 a os) (hlen : os.length ≤ maxLen) (J Jx : List {o // o ∈ os} → World → Prop)
    (hJ : ∀ s A B, J s A → Below A.heap.size A B → J s B)
    (hY : ∀ pre x W, J pre W → pre.length < os.length → YieldAt Fence.wide (n - 1) Try.prog l (verArgs x.1) W fun e W' =>
      (e = .returned (.bool true) ∧ J (pre ++ [x]) W' ∧ Below u0.heap.size W W') ∨ (e = .returned (.bool false) ∧ Jx (pre ++ [x]) W'))
    (W : World) (hBs : W.cell? ⟨Bs, 0, none⟩ = some (.slice a os.length cap)) (hW : Below u0.heap.size u0 W) (h0 : J [] W) :
    CallsIn Fence.wide n Try.prog 179 #[.func (.yield l) #[] #[], .pointer (some ⟨Bs, 0, none⟩)] W fun e W' => (∃ v, e = .returned v) ∧
      ((∃ ys, ys = os.attach ∧ J ys W') ∨ (∃ pre, pre <+: os.attach ∧ Jx pre W')) := by
  unfold maxLen at hlen
  have HO := Lib.hid hO
  have HW := Lib.hid hW
  have HJ := Lib.hid hJ
  have HY := Lib.hid hY
  clear hO hW hJ hY
  refine callsIn_of_wp Try.func179 rfl trivial ?_ rfl
  simp only [Try.ntmps179, List.size_toArray, List.length_cons, List.length_nil, Nat.reduceAdd, Nat.reduceSub, Array.replicate_succ, Array.replicate_zero, List.push_toArray, List.append_toArray, List.nil_append, List.cons_append]
  gi_wp2
  gi_loopw [7] (fun i wr => ∃ k : Nat, k ≤ os.length ∧ i = .int .i64 k ∧ J (os.attach.take k) wr ∧ Below u0.heap.size u0 wr)
    (fun i _ => os.length - (intOf i).toNat)
  case atStart => exact ⟨0, Nat.zero_le _, rfl, h0, HW.out⟩
  case round =>
    obtain ⟨k, hk, rfl, hJs, hnx⟩ := hrel
    have HN := Lib.hid hnx
    have HS := Lib.hid hJs
    clear hnx hJs
    by_cases hlt : k < os.length
    · rcases HO.out.below HN.out with hnil | ⟨b1, o1, rfl, hb1, hc1⟩
      · rw [hnil] at hlt; simp at hlt
      obtain ⟨c0, c1, c2⟩ := hc1 k hlt
      clear hc1 hBs
      have m1 := meth_rank_ver os[k].id os[k].text os[k].gone
      gi_wp2
      have hJ2 : J (os.attach.take k) (((wr.alloc (.cells #[.int .i64 os[k].id, .string os[k].text, .bool os[k].gone] 27)).alloc (.cells #[.int .i64 os[k].id, .string os[k].text, .bool os[k].gone] 27)).drew) := HJ.out _ _ _ HS.out ((((Below.refl _ _).alloc (Nat.le_refl _) _).alloc (by simp) _).drew)
      obtain ⟨fn, tmps, assign, body, hy, hR⟩ := HY.out _ ⟨os[k], List.getElem_mem hlt⟩ _ hJ2 (by simp; omega)
      simp only [verArgs] at hy
      gi_region_with (first
        | (refine ⟨trivial, ?_⟩; gi_at_call 233; refine (callsIn_wide.2 (verRank_is _ _ _ _)).mono ?_; rintro e w2 ⟨rfl, rfl⟩)
        | (refine hR.mono ?_; intro e W3 hq; obtain ⟨b, rfl, hq3⟩ := said_of hq; have HQ := Lib.hid hq3; clear hq hq3))
      all_goals
        clear hy hR m1 hJ2
        cases b
        · gi_wp2
          refine bodyPost_ret (results_none rfl _ _ _) rfl ?_
          rcases HQ.out with ⟨h, _⟩ | ⟨_, h⟩
          · cases h
          · exact ⟨⟨_, rfl⟩, .inr ⟨_, by rw [← take_attach_succ os k hlt]; exact List.take_prefix _ _, h⟩⟩
        · gi_wp2
          go_roundw
          case rel =>
            rcases HQ.out with ⟨_, h, hb⟩ | ⟨h, _⟩
            · exact ⟨k + 1, by omega, by go_num, by rw [take_attach_succ os k hlt]; exact h, (HN.out.trans ((((Below.refl _ _).alloc HN.out.size _).alloc (by have := HN.out.size; simp; omega) _).drew)).trans hb⟩
            · cases h
          case measure => simp [intOf]; omega
    · obtain rfl : k = os.length := by omega
      gi_wp2
      go_end0
      exact ⟨⟨_, rfl⟩, .inl ⟨_, by rw [List.take_of_length_le (by simp)], HS.out⟩⟩

theorem verAll_stops (n : Nat) (hn : 1 ≤ n) (Bs : Nat) (a : Option Addr) (os : List VerD) (cap : Nat) (u0 : World) (hO : VersIn u0 a os) (hlen : os.length ≤ maxLen) (w : World) (hBs : Bs < w.heap.size) (hu : Below u0.heap.size u0 w)
    (hc : w.cell? ⟨Bs, 0, none⟩ = some (.slice a os.length cap)) :
    SeqStopsK Fence.wide n Try.prog 179 #[.pointer (some ⟨Bs, 0, none⟩)] (fun x : {o // o ∈ os} => verArgs x.1) (Below u0.heap.size) (fun ys => ys = os.attach) (fun pre => pre <+: os.attach) os.length w := fun l J Jx W hW hJ _ hY h0 =>
  verAll1_in n hn l Bs a os cap u0 hO hlen J Jx (fun _ _ _ hs hb => abides_below hJ hs hb) hY W ((hW.cell (p := ⟨Bs, 0, none⟩) hBs).trans hc) (hu.trans (hW.mono hu.size)) h0
end Go.Proofs.Ytjijichgoodocaa
