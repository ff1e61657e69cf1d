/- The iterator over versions: its contract for every loop body. -/
import Derived.RangeFuncNested
import Derived.RangeFuncBound
import Derived.RangeFuncCalls
import Derived.RangeFuncLeaves
import Derived.Shelf.Abstract
import Derived.Shelf.RegionOpen
import Derived.WalkKit
import Derived.OwnWalkIn
import Derived.TacticsInMore
import Derived.LoopNIn
import Derived.LoopIn
import Derived.Test.YtodpodgdhiadnaaIter
namespace Go.Proofs.Ytodpodgdhiadnaa
open Go.RowKit Go.Shelf
attribute [local go_sem] Oper.semAt_some

set_option maxHeartbeats 400000 in
theorem verRank_is (i : Int) (s : ByteArray) (g : Bool) (w : World) :
    Calls Try.prog 292 #[.agg #[.int .i64 i, .string s, .bool g]] w fun e w' => e = .returned (.int .i64 i) ∧ w' = w.alloc (.cells #[.int .i64 i, .string s, .bool g] 35) := by
  go_enter Try.func292, Try.ntmps292
  go_wp2
  go_ret
  exact ⟨rfl, rfl⟩

def verArgs (v : VerD) : Array Value := #[.int .i64 v.id, .agg #[.int .i64 v.id, .string v.text, .bool v.gone]]

set_option maxHeartbeats 1000000 in
theorem verAll_any (a : Option Addr) (len cap : Nat) (w : World) :
    Calls Try.prog 225 #[.slice a len cap] w fun e w' => e = .returned (.func (.func 248) #[] #[.pointer (some ⟨w.heap.size, 0, none⟩)]) ∧ w' = w.alloc (.cells #[.slice a len cap] 220) := by
  go_enter Try.func225, Try.ntmps225
  go_wp2
  go_ret
  exact ⟨rfl, rfl⟩

set_option maxRecDepth 100000 in
set_option maxHeartbeats 2000000 in
theorem verAll1_in (n : Nat) (hn : 1 ≤ n) (l Bs : Nat) (a : Option Addr) (os : List VerD) (cap : Nat) (u0 : World) (hO : VersIn u0 a os) (hlen : os.length ≤ maxLen) (J Jx : List {o // o ∈ os} → World → Prop)
    (hJ : ∀ s A B, J s A → Below A.heap.size A B → J s B)
    (hY : ∀ pre x W, J pre W → pre.length < os.length → YieldAt Fence.wide (n - 1) Try.prog l (verArgs x.1) W fun e W' =>
      (e = .returned (.bool true) ∧ J (pre ++ [x]) W' ∧ Below u0.heap.size W W') ∨ (e = .returned (.bool false) ∧ Jx (pre ++ [x]) W'))
    (W : World) (hBs : W.cell? ⟨Bs, 0, none⟩ = some (.slice a os.length cap)) (hW : Below u0.heap.size u0 W) (h0 : J [] W) :
    CallsIn Fence.wide n Try.prog 248 #[.func (.yield l) #[] #[], .pointer (some ⟨Bs, 0, none⟩)] W fun e W' => (∃ v, e = .returned v) ∧
      ((∃ ys, ys = os.attach ∧ J ys W') ∨ (∃ pre, pre <+: os.attach ∧ Jx pre W')) := by
  unfold maxLen at hlen
  have HO := Lib.hid hO
  have HW := Lib.hid hW
  have HJ := Lib.hid hJ
  have HY := Lib.hid hY
  clear hO hW hJ hY
  refine callsIn_of_wp Try.func248 rfl trivial ?_ rfl
  simp only [Try.ntmps248, List.size_toArray, List.length_cons, List.length_nil, Nat.reduceAdd, Nat.reduceSub, Array.replicate_succ, Array.replicate_zero, List.push_toArray, List.append_toArray, List.nil_append, List.cons_append]
  gi_wp2
  gi_loopw [7] (fun i wr => ∃ k : Nat, k ≤ os.length ∧ i = .int .i64 k ∧ J (os.attach.take k) wr ∧ Below u0.heap.size u0 wr)
    (fun i _ => os.length - (intOf i).toNat)
  case atStart => exact ⟨0, Nat.zero_le _, rfl, h0, HW.out⟩
  case round =>
    obtain ⟨k, hk, rfl, hJs, hnx⟩ := hrel
    have HN := Lib.hid hnx
    have HS := Lib.hid hJs
    clear hnx hJs
    by_cases hlt : k < os.length
    · rcases HO.out.below HN.out with hnil | ⟨b1, o1, rfl, hb1, hc1⟩
      · rw [hnil] at hlt; simp at hlt
      obtain ⟨c0, c1, c2⟩ := hc1 k hlt
      clear hc1 hBs
      have m1 := meth_rank_ver os[k].id os[k].text os[k].gone
      gi_wp2
      have hJ2 : J (os.attach.take k) (((wr.alloc (.cells #[.int .i64 os[k].id, .string os[k].text, .bool os[k].gone] 35)).alloc (.cells #[.int .i64 os[k].id, .string os[k].text, .bool os[k].gone] 35)).drew) := HJ.out _ _ _ HS.out ((((Below.refl _ _).alloc (Nat.le_refl _) _).alloc (by simp) _).drew)
      obtain ⟨fn, tmps, assign, body, hy, hR⟩ := HY.out _ ⟨os[k], List.getElem_mem hlt⟩ _ hJ2 (by simp; omega)
      simp only [verArgs] at hy
      gi_region_with (first
        | (refine ⟨trivial, ?_⟩; gi_at_call 292; refine (callsIn_wide.2 (verRank_is _ _ _ _)).mono ?_; rintro e w2 ⟨rfl, rfl⟩)
        | (refine hR.mono ?_; intro e W3 hq; obtain ⟨b, rfl, hq3⟩ := said_of hq; have HQ := Lib.hid hq3; clear hq hq3))
      all_goals
        clear hy hR m1 hJ2
        cases b
        · gi_wp2
          refine bodyPost_ret (results_none rfl _ _ _) rfl ?_
          rcases HQ.out with ⟨h, _⟩ | ⟨_, h⟩
          · cases h
          · exact ⟨⟨_, rfl⟩, .inr ⟨_, by rw [← take_attach_succ os k hlt]; exact List.take_prefix _ _, h⟩⟩
        · gi_wp2
          go_roundw
          case rel =>
            rcases HQ.out with ⟨_, h, hb⟩ | ⟨h, _⟩
            · exact ⟨k + 1, by omega, by go_num, by rw [take_attach_succ os k hlt]; exact h, (HN.out.trans ((((Below.refl _ _).alloc HN.out.size _).alloc (by have := HN.out.size; simp; omega) _).drew)).trans hb⟩
            · cases h
          case measure => simp [intOf]; omega
    · obtain rfl : k = os.length := by omega
      gi_wp2
      go_end0
      exact ⟨⟨_, rfl⟩, .inl ⟨_, by rw [List.take_of_length_le (by simp)], HS.out⟩⟩

theorem verAll_stops (n : Nat) (hn : 1 ≤ n) (Bs : Nat) (a : Option Addr) (os : List VerD) (cap : Nat) (u0 : World) (hO : VersIn u0 a os) (hlen : os.length ≤ maxLen) (w : World) (hBs : Bs < w.heap.size) (hu : Below u0.heap.size u0 w)
    (hc : w.cell? ⟨Bs, 0, none⟩ = some (.slice a os.length cap)) :
    SeqStopsK Fence.wide n Try.prog 248 #[.pointer (some ⟨Bs, 0, none⟩)] (fun x : {o // o ∈ os} => verArgs x.1) (Below u0.heap.size) (fun ys => ys = os.attach) (fun pre => pre <+: os.attach) os.length w := fun l J Jx W hW hJ _ hY h0 =>
  verAll1_in n hn l Bs a os cap u0 hO hlen J Jx (fun _ _ _ hs hb => abides_below hJ hs hb) hY W ((hW.cell (p := ⟨Bs, 0, none⟩) hBs).trans hc) (hu.trans (hW.mono hu.size)) h0
end Go.Proofs.Ytodpodgdhiadnaa
