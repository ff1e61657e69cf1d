/- The iterators over an ordered map: contracts for every loop body. -/
import Derived.RangeFuncNested
import Derived.RangeFuncBound
import Derived.RangeFuncCalls
import Derived.RangeFuncLeaves
import Derived.Shelf.Abstract
import Derived.Shelf.RegionOpen
import Derived.WalkKit
import Derived.OwnWalkIn
import Derived.TacticsInMore
import Derived.LoopNIn
import Derived.LoopIn
import Derived.Test.YtjijichgoodocaaOrdB
namespace Go.Proofs.Ytjijichgoodocaa
open Go.RowKit Go.Shelf
attribute [local go_sem] Oper.semAt_some

theorem grown_of_below {W W' : World} (h : Below W.heap.size W W') : W.grownBy W' none := ⟨h.os, h.tape, h.output, h.size, fun k hk _ => h.block k hk⟩
theorem abides_below {β : Type} {B : Nat} {J : β → World → Prop} (h : AbidesFrom B J) {s : β} {W W' : World} (hs : J s W) (hb : Below W.heap.size W W') : J s W' :=
  h s W W' none hs (grown_of_below hb) (fun r e => by cases e)
theorem take_attach_succ {α : Type} (xs : List α) (k : Nat) (h : k < xs.length) : xs.attach.take (k + 1) = xs.attach.take k ++ [⟨xs[k], List.getElem_mem h⟩] := by
  rw [List.take_succ_eq_append_getElem (by simpa using h)]
  simp

set_option maxHeartbeats 400000 in
theorem objRank_is (s : ByteArray) (a : Option Addr) (n c : Nat) (w : World) :
    Calls Try.prog 234 #[.agg #[.string s, .slice a n c]] w fun e w' => e = .returned (.string s) ∧ w' = w.alloc (.cells #[.string s, .slice a n c] 45) := by
  go_enter Try.func234, Try.ntmps234
  go_wp2
  go_ret
  exact ⟨rfl, rfl⟩

/-- What a round says: it goes on, or it has said no more. -/
def Said {α : Type} (n₀ : Nat) (J Jx : List α → World → Prop) (xs : List α) (W : World) (b : Bool) (W' : World) : Prop := (b = true ∧ J xs W' ∧ Below n₀ W W') ∨ (b = false ∧ Jx xs W')
theorem said_of {α : Type} {n₀ : Nat} {J Jx : List α → World → Prop} {xs : List α} {W : World} {e : Ending} {W' : World} (h : (e = .returned (.bool true) ∧ J xs W' ∧ Below n₀ W W') ∨ (e = .returned (.bool false) ∧ Jx xs W')) : ∃ b, e = .returned (.bool b) ∧ Said n₀ J Jx xs W b W' := by
  rcases h with ⟨rfl, h⟩ | ⟨rfl, h⟩
  · exact ⟨true, rfl, .inl ⟨rfl, h⟩⟩
  · exact ⟨false, rfl, .inr ⟨rfl, h⟩⟩

def objArgs (o : ObjD) : Array Value := #[.string o.key, .agg #[.string o.key, .slice o.at_ o.vers.length o.cap]]

set_option maxHeartbeats 1000000 in
theorem objAll_any (a : Option Addr) (len cap : Nat) (w : World) :
    Calls Try.prog 86 #[.slice a len cap] w fun e w' => e = .returned (.func (.func 140) #[] #[.pointer (some ⟨w.heap.size, 0, none⟩)]) ∧ w' = w.alloc (.cells #[.slice a len cap] 127) := by
  go_enter Try.func86, Try.ntmps86
  go_wp2
  go_ret
  exact ⟨rfl, rfl⟩

set_option maxRecDepth 100000 in
set_option maxHeartbeats 2000000 in
theorem objAll1_in (n : Nat) (hn : 1 ≤ n) (l Bs : Nat) (a : Option Addr) (os : List ObjD) (cap : Nat) (u0 : World) (hO : ObjsIn u0 a os) (hlen : os.length ≤ maxLen) (J Jx : List {o // o ∈ os} → World → Prop)
    (hJ : ∀ s A B, J s A → Below A.heap.size A B → J s B)
    (hY : ∀ pre x W, J pre W → pre.length < os.length → YieldAt Fence.wide (n - 1) Try.prog l (objArgs x.1) W fun e W' =>
      (e = .returned (.bool true) ∧ J (pre ++ [x]) W' ∧ Below u0.heap.size W W') ∨ (e = .returned (.bool false) ∧ Jx (pre ++ [x]) W'))
    (W : World) (hBs : W.cell? ⟨Bs, 0, none⟩ = some (.slice a os.length cap)) (hW : Below u0.heap.size u0 W) (h0 : J [] W) :
    CallsIn Fence.wide n Try.prog 140 #[.func (.yield l) #[] #[], .pointer (some ⟨Bs, 0, none⟩)] W fun e W' => (∃ v, e = .returned v) ∧
      ((∃ ys, ys = os.attach ∧ J ys W') ∨ (∃ pre, pre <+: os.attach ∧ Jx pre W')) := by
  unfold maxLen at hlen
  have HO := Lib.hid hO
  have HW := Lib.hid hW
  have HJ := Lib.hid hJ
  have HY := Lib.hid hY
  clear hO hW hJ hY
  refine callsIn_of_wp Try.func140 rfl trivial ?_ rfl
  simp only [Try.ntmps140, List.size_toArray, List.length_cons, List.length_nil, Nat.reduceAdd, Nat.reduceSub, Array.replicate_succ, Array.replicate_zero, List.push_toArray, List.append_toArray, List.nil_append, List.cons_append]
  gi_wp2
  gi_loopw [7] (fun i wr => ∃ k : Nat, k ≤ os.length ∧ i = .int .i64 k ∧ J (os.attach.take k) wr ∧ Below u0.heap.size u0 wr)
    (fun i _ => os.length - (intOf i).toNat)
  case atStart => exact ⟨0, Nat.zero_le _, rfl, h0, HW.out⟩
  case round =>
    obtain ⟨k, hk, rfl, hJs, hnx⟩ := hrel
    have HN := Lib.hid hnx
    have HS := Lib.hid hJs
    clear hnx hJs
    by_cases hlt : k < os.length
    · rcases HO.out.below HN.out with hnil | ⟨b1, o1, rfl, hb1, hc1⟩
      · rw [hnil] at hlt; simp at hlt
      obtain ⟨c0, c1, c2⟩ := hc1 k hlt
      clear hc1 c2 hBs
      have m1 := meth_rank_obj os[k].key os[k].at_ os[k].vers.length os[k].cap
      gi_wp2
      have hJ2 : J (os.attach.take k) (((wr.alloc (.cells #[.string os[k].key, .slice os[k].at_ os[k].vers.length os[k].cap] 45)).alloc (.cells #[.string os[k].key, .slice os[k].at_ os[k].vers.length os[k].cap] 45)).drew) := HJ.out _ _ _ HS.out ((((Below.refl _ _).alloc (Nat.le_refl _) _).alloc (by simp) _).drew)
      obtain ⟨fn, tmps, assign, body, hy, hR⟩ := HY.out _ ⟨os[k], List.getElem_mem hlt⟩ _ hJ2 (by simp; omega)
      simp only [objArgs] at hy
      gi_region_with (first
        | (refine ⟨trivial, ?_⟩; gi_at_call 234; refine (callsIn_wide.2 (objRank_is _ _ _ _ _)).mono ?_; rintro e w2 ⟨rfl, rfl⟩)
        | (refine hR.mono ?_; intro e W3 hq; obtain ⟨b, rfl, hq3⟩ := said_of hq; have HQ := Lib.hid hq3; clear hq hq3))
      all_goals
        clear hy hR m1 hJ2
        cases b
        · gi_wp2
          refine bodyPost_ret (results_none rfl _ _ _) rfl ?_
          rcases HQ.out with ⟨h, _⟩ | ⟨_, h⟩
          · cases h
          · exact ⟨⟨_, rfl⟩, .inr ⟨_, by rw [← take_attach_succ os k hlt]; exact List.take_prefix _ _, h⟩⟩
        · gi_wp2
          go_roundw
          case rel =>
            rcases HQ.out with ⟨_, h, hb⟩ | ⟨h, _⟩
            · exact ⟨k + 1, by omega, by go_num, by rw [take_attach_succ os k hlt]; exact h, (HN.out.trans ((((Below.refl _ _).alloc HN.out.size _).alloc (by have := HN.out.size; simp; omega) _).drew)).trans hb⟩
            · cases h
          case measure => simp [intOf]; omega
    · obtain rfl : k = os.length := by omega
      gi_wp2
      go_end0
      exact ⟨⟨_, rfl⟩, .inl ⟨_, by rw [List.take_of_length_le (by simp)], HS.out⟩⟩

theorem objAll_stops (n : Nat) (hn : 1 ≤ n) (Bs : Nat) (a : Option Addr) (os : List ObjD) (cap : Nat) (u0 : World) (hO : ObjsIn u0 a os) (hlen : os.length ≤ maxLen) (w : World) (hBs : Bs < w.heap.size) (hu : Below u0.heap.size u0 w)
    (hc : w.cell? ⟨Bs, 0, none⟩ = some (.slice a os.length cap)) :
    SeqStopsK Fence.wide n Try.prog 140 #[.pointer (some ⟨Bs, 0, none⟩)] (fun x : {o // o ∈ os} => objArgs x.1) (Below u0.heap.size) (fun ys => ys = os.attach) (fun pre => pre <+: os.attach) os.length w := fun l J Jx W hW hJ _ hY h0 =>
  objAll1_in n hn l Bs a os cap u0 hO hlen J Jx (fun _ _ _ hs hb => abides_below hJ hs hb) hY W ((hW.cell (p := ⟨Bs, 0, none⟩) hBs).trans hc) (hu.trans (hW.mono hu.size)) h0
end Go.Proofs.Ytjijichgoodocaa

/- The iterator over versions: its contract for every loop body. -/
namespace Go.Proofs.Ytjijichgoodocaa
open Go.RowKit Go.Shelf
attribute [local go_sem] Oper.semAt_some

set_option maxHeartbeats 400000 in
theorem verRank_is (i : Int) (s : ByteArray) (g : Bool) (w : World) :
    Calls Try.prog 233 #[.agg #[.int .i64 i, .string s, .bool g]] w fun e w' => e = .returned (.int .i64 i) ∧ w' = w.alloc (.cells #[.int .i64 i, .string s, .bool g] 27) := by
  go_enter Try.func233, Try.ntmps233
  go_wp2
  go_ret
  exact ⟨rfl, rfl⟩

def verArgs (v : VerD) : Array Value := #[.int .i64 v.id, .agg #[.int .i64 v.id, .string v.text, .bool v.gone]]

set_option maxHeartbeats 1000000 in
theorem verAll_any (a : Option Addr) (len cap : Nat) (w : World) :
    Calls Try.prog 141 #[.slice a len cap] w fun e w' => e = .returned (.func (.func 179) #[] #[.pointer (some ⟨w.heap.size, 0, none⟩)]) ∧ w' = w.alloc (.cells #[.slice a len cap] 170) := by
  go_enter Try.func141, Try.ntmps141
  go_wp2
  go_ret
  exact ⟨rfl, rfl⟩

set_option maxRecDepth 100000 in
set_option maxHeartbeats 2000000 in
theorem verAll1_in (n : Nat) (hn : 1 ≤ n) (l Bs : Nat) (a : Option Addr) (os : List VerD) (cap : Nat) (u0 : World) (hO : VersIn u0 a os) (hlen : os.length ≤ maxLen) (J Jx : List {o // o ∈ os} → World → Prop)
    (hJ : ∀ s A B, J s A → Below A.heap.size A B → J s B)
    (hY : ∀ pre x W, J pre W → pre.length < os.length → YieldAt Fence.wide (n - 1) Try.prog l (verArgs x.1) W fun e W' =>
      (e = .returned (.bool true) ∧ J (pre ++ [x]) W' ∧ Below u0.heap.size W W') ∨ (e = .returned (.bool false) ∧ Jx (pre ++ [x]) W'))
    (W : World) (hBs : W.cell? ⟨Bs, 0, none⟩ = some (.slice a os.length cap)) (hW : Below u0.heap.size u0 W) (h0 : J [] W) :
    CallsIn Fence.wide n Try.prog 179 #[.func (.yield l) #[] #[], .pointer (some ⟨Bs, 0, none⟩)] W fun e W' => (∃ v, e = .returned v) ∧
      ((∃ ys, ys = os.attach ∧ J ys W') ∨ (∃ pre, pre <+: os.attach ∧ Jx pre W')) := by
  unfold maxLen at hlen
  have HO := Lib.hid hO
  have HW := Lib.hid hW
  have HJ := Lib.hid hJ
  have HY := Lib.hid hY
  clear hO hW hJ hY
  refine callsIn_of_wp Try.func179 rfl trivial ?_ rfl
  simp only [Try.ntmps179, List.size_toArray, List.length_cons, List.length_nil, Nat.reduceAdd, Nat.reduceSub, Array.replicate_succ, Array.replicate_zero, List.push_toArray, List.append_toArray, List.nil_append, List.cons_append]
  gi_wp2
  gi_loopw [7] (fun i wr => ∃ k : Nat, k ≤ os.length ∧ i = .int .i64 k ∧ J (os.attach.take k) wr ∧ Below u0.heap.size u0 wr)
    (fun i _ => os.length - (intOf i).toNat)
  case atStart => exact ⟨0, Nat.zero_le _, rfl, h0, HW.out⟩
  case round =>
    obtain ⟨k, hk, rfl, hJs, hnx⟩ := hrel
    have HN := Lib.hid hnx
    have HS := Lib.hid hJs
    clear hnx hJs
    by_cases hlt : k < os.length
    · rcases HO.out.below HN.out with hnil | ⟨b1, o1, rfl, hb1, hc1⟩
      · rw [hnil] at hlt; simp at hlt
      obtain ⟨c0, c1, c2⟩ := hc1 k hlt
      clear hc1 hBs
      have m1 := meth_rank_ver os[k].id os[k].text os[k].gone
      gi_wp2
      have hJ2 : J (os.attach.take k) (((wr.alloc (.cells #[.int .i64 os[k].id, .string os[k].text, .bool os[k].gone] 27)).alloc (.cells #[.int .i64 os[k].id, .string os[k].text, .bool os[k].gone] 27)).drew) := HJ.out _ _ _ HS.out ((((Below.refl _ _).alloc (Nat.le_refl _) _).alloc (by simp) _).drew)
      obtain ⟨fn, tmps, assign, body, hy, hR⟩ := HY.out _ ⟨os[k], List.getElem_mem hlt⟩ _ hJ2 (by simp; omega)
      simp only [verArgs] at hy
      gi_region_with (first
        | (refine ⟨trivial, ?_⟩; gi_at_call 233; refine (callsIn_wide.2 (verRank_is _ _ _ _)).mono ?_; rintro e w2 ⟨rfl, rfl⟩)
        | (refine hR.mono ?_; intro e W3 hq; obtain ⟨b, rfl, hq3⟩ := said_of hq; have HQ := Lib.hid hq3; clear hq hq3))
      all_goals
        clear hy hR m1 hJ2
        cases b
        · gi_wp2
          refine bodyPost_ret (results_none rfl _ _ _) rfl ?_
          rcases HQ.out with ⟨h, _⟩ | ⟨_, h⟩
          · cases h
          · exact ⟨⟨_, rfl⟩, .inr ⟨_, by rw [← take_attach_succ os k hlt]; exact List.take_prefix _ _, h⟩⟩
        · gi_wp2
          go_roundw
          case rel =>
            rcases HQ.out with ⟨_, h, hb⟩ | ⟨h, _⟩
            · exact ⟨k + 1, by omega, by go_num, by rw [take_attach_succ os k hlt]; exact h, (HN.out.trans ((((Below.refl _ _).alloc HN.out.size _).alloc (by have := HN.out.size; simp; omega) _).drew)).trans hb⟩
            · cases h
          case measure => simp [intOf]; omega
    · obtain rfl : k = os.length := by omega
      gi_wp2
      go_end0
      exact ⟨⟨_, rfl⟩, .inl ⟨_, by rw [List.take_of_length_le (by simp)], HS.out⟩⟩

theorem verAll_stops (n : Nat) (hn : 1 ≤ n) (Bs : Nat) (a : Option Addr) (os : List VerD) (cap : Nat) (u0 : World) (hO : VersIn u0 a os) (hlen : os.length ≤ maxLen) (w : World) (hBs : Bs < w.heap.size) (hu : Below u0.heap.size u0 w)
    (hc : w.cell? ⟨Bs, 0, none⟩ = some (.slice a os.length cap)) :
    SeqStopsK Fence.wide n Try.prog 179 #[.pointer (some ⟨Bs, 0, none⟩)] (fun x : {o // o ∈ os} => verArgs x.1) (Below u0.heap.size) (fun ys => ys = os.attach) (fun pre => pre <+: os.attach) os.length w := fun l J Jx W hW hJ _ hY h0 =>
  verAll1_in n hn l Bs a os cap u0 hO hlen J Jx (fun _ _ _ hs hb => abides_below hJ hs hb) hY W ((hW.cell (p := ⟨Bs, 0, none⟩) hBs).trans hc) (hu.trans (hW.mono hu.size)) h0
end Go.Proofs.Ytjijichgoodocaa
