/- The keys of a list, as the program gathers them. -/
import Derived.Test.YthjikcfpoomioaaKwI
import Derived.Test.YthjikcfpoomioaaKeyL
namespace Go.Proofs.Ythjikcfpoomioaa
open Go.RowKit

theorem infoStr1 : (Try.prog.info? 9).map (fun i => (i.zero, i.size, i.bytes)) = some (some (.string ⟨#[]⟩), 1, 16) := by kernel_rfl
theorem news1 (w : World) (x : Value) (t : TypeId) (g : Nat) (hg : w.heap.size = g) : ∀ j u, [x][j]? = some u → (w.alloc (.cells #[x] t)).cell? ((⟨g, 0, none⟩ : Addr).add j) = some u := by
  subst hg
  exact World.news_of_block (heap_alloc_new w _)

def wantKeys (vs : List WantD) (k : Nat) : List Value := (vs.take k).map fun v => .string v.f0
theorem wantKeys_succ {vs : List WantD} {k : Nat} (hk : k < vs.length) : wantKeys vs (k + 1) = wantKeys vs k ++ [.string vs[k].f0] := by
  unfold wantKeys; rw [List.take_succ_eq_append_getElem hk, List.map_append]; rfl
def writeKeys (vs : List WriteD) (k : Nat) : List Value := (vs.take k).map fun v => .string v.f0
theorem writeKeys_succ {vs : List WriteD} {k : Nat} (hk : k < vs.length) : writeKeys vs (k + 1) = writeKeys vs k ++ [.string vs[k].f0] := by
  unfold writeKeys; rw [List.take_succ_eq_append_getElem hk, List.map_append]; rfl

set_option maxRecDepth 100000 in
set_option maxHeartbeats 1000000 in
theorem keysOfWant_any (a : Option Addr) (vs : List WantD) (cap : Nat) (w : World) (hv : WantsIn w a vs) (hn : vs.length ≤ 1048576) :
    Calls Try.prog 169 #[.slice a vs.length cap] w fun e w' => ∃ v, e = .returned v ∧ w'.ownsRow w.heap.size 9 1 v vs.length (wantKeys vs vs.length) ∧ Below w.heap.size w w' := by
  have HV := Lib.hid hv
  clear hv
  obtain ⟨i0, hi0, hz0, hz1, hz2⟩ := info_parts infoStr1
  go_enter Try.func169, Try.ntmps169
  go_wp2_with fail
  go_loopw [3, 8] (fun v i wr => ∃ k : Nat, k ≤ vs.length ∧ i = .int .i64 (k : Int) ∧ Below w.heap.size w wr ∧ wr.ownsRow w.heap.size 9 1 v k (wantKeys vs k)) (fun _ i _ => vs.length - (intOf i).toNat)
  case atStart => exact ⟨0, Nat.zero_le _, rfl, Below.refl _ _, World.ownsRow_nil _ _ _ _⟩
  case round =>
    obtain ⟨k, hk, rfl, hB, hO⟩ := hrel
    have HB := Lib.hid hB
    have HO := Lib.hid hO
    have hsz : w.heap.size ≤ wr.heap.size := hB.size
    clear hB hO
    by_cases hlt : k < vs.length
    · rcases HV.out.below HB.out with hnil | ⟨b1, o1, rfl, hb1, hc1⟩
      · rw [hnil] at hlt; simp at hlt
      obtain ⟨c0, c1⟩ := hc1 k hlt
      clear hc1
      have mk := meth_want_key vs[k]
      obtain ⟨W1, hW1⟩ : ∃ W1, wr.alloc (.cells #[.string vs[k].f0, .int .i64 vs[k].f1] 221) = W1 := ⟨_, rfl⟩
      have B1 : Below wr.heap.size wr W1 := by rw [← hW1]; exact (Below.refl _ _).alloc (Nat.le_refl _) _
      have z1 : wr.heap.size < W1.heap.size := by rw [← hW1]; simp
      have d0 : W1.cell? ⟨wr.heap.size, 0, none⟩ = some (.string vs[k].f0) := by rw [← hW1]; simp [go_sem]
      have d1 : W1.cell? ⟨wr.heap.size, 1, none⟩ = some (.int .i64 vs[k].f1) := by rw [← hW1]; simp [go_sem]
      have HB1 := Lib.hid B1
      clear B1
      go_wp2_with (first
        | (go_at_call 241; refine (wantKey_any vs[k] _).mono ?_; rintro e w2 ⟨rfl, hb2⟩; have z2 : wr.heap.size < w2.heap.size := Nat.lt_of_lt_of_le z1 hb2.size; have B2 := Lib.hid (HB1.out.trans (hb2.mono (Nat.le_of_lt z1))); clear hb2 d0 d1 hW1; have HO2 := Lib.hid (Go.Proofs.Ythjikcfpoomioaa.ownsRow_of_below HO.out B2.out))
        | (at_builtin; refine wpList_append_lies _ rfl _ _ 88 rfl w.heap.size 9 i0 (.string ⟨#[]⟩) 1 16 Try.underlying88 hi0 hz0 hz1 hz2 rfl (by decide) _ k _ rfl (HO2.out.alloc _) ⟨w2.heap.size, 0, none⟩ 1 1 [.string vs[k].f0] rfl rfl (news1 _ _ _ _ rfl) (fun u hu => by simp at hu; rcases hu with rfl; rfl) (by omega) (by unfold maxLen; omega) (by omega) (by simp; omega) _ rfl ?_; intro g cp w4 hown hgrow hat hlt2; have X := Lib.hid (And.intro hown hgrow); clear hown hgrow hat hlt2))
      go_roundw
      case rel => exact ⟨k + 1, by omega, by go_num, Below.grown ((HB.out.trans (B2.out.mono hsz)).alloc (by omega) _) X.out.2 (by simp; omega) (fun j hj => (HO2.out.lt j hj).1), by rw [wantKeys_succ hlt]; exact X.out.1⟩
      case measure => simp [intOf]; omega
    · obtain rfl : k = vs.length := by omega
      go_wp2_with fail
      go_ret
      exact ⟨_, rfl, HO.out, HB.out⟩

set_option maxRecDepth 100000 in
set_option maxHeartbeats 1000000 in
theorem keysOfWrite_any (a : Option Addr) (vs : List WriteD) (cap : Nat) (w : World) (hv : WritesIn w a vs) (hn : vs.length ≤ 1048576) :
    Calls Try.prog 170 #[.slice a vs.length cap] w fun e w' => ∃ v, e = .returned v ∧ w'.ownsRow w.heap.size 9 1 v vs.length (writeKeys vs vs.length) ∧ Below w.heap.size w w' := by
  have HV := Lib.hid hv
  clear hv
  obtain ⟨i0, hi0, hz0, hz1, hz2⟩ := info_parts infoStr1
  go_enter Try.func170, Try.ntmps170
  go_wp2_with fail
  go_loopw [3, 8] (fun v i wr => ∃ k : Nat, k ≤ vs.length ∧ i = .int .i64 (k : Int) ∧ Below w.heap.size w wr ∧ wr.ownsRow w.heap.size 9 1 v k (writeKeys vs k)) (fun _ i _ => vs.length - (intOf i).toNat)
  case atStart => exact ⟨0, Nat.zero_le _, rfl, Below.refl _ _, World.ownsRow_nil _ _ _ _⟩
  case round =>
    obtain ⟨k, hk, rfl, hB, hO⟩ := hrel
    have HB := Lib.hid hB
    have HO := Lib.hid hO
    have hsz : w.heap.size ≤ wr.heap.size := hB.size
    clear hB hO
    by_cases hlt : k < vs.length
    · rcases HV.out.below HB.out with hnil | ⟨b1, o1, rfl, hb1, hc1⟩
      · rw [hnil] at hlt; simp at hlt
      obtain ⟨c0, c1, c2⟩ := hc1 k hlt
      clear hc1
      have mk := meth_write_key vs[k]
      obtain ⟨W1, hW1⟩ : ∃ W1, wr.alloc (.cells #[.string vs[k].f0, .string vs[k].f1, .bool vs[k].f2] 220) = W1 := ⟨_, rfl⟩
      have B1 : Below wr.heap.size wr W1 := by rw [← hW1]; exact (Below.refl _ _).alloc (Nat.le_refl _) _
      have z1 : wr.heap.size < W1.heap.size := by rw [← hW1]; simp
      have d0 : W1.cell? ⟨wr.heap.size, 0, none⟩ = some (.string vs[k].f0) := by rw [← hW1]; simp [go_sem]
      have d1 : W1.cell? ⟨wr.heap.size, 1, none⟩ = some (.string vs[k].f1) := by rw [← hW1]; simp [go_sem]
      have d2 : W1.cell? ⟨wr.heap.size, 2, none⟩ = some (.bool vs[k].f2) := by rw [← hW1]; simp [go_sem]
      have HB1 := Lib.hid B1
      clear B1
      go_wp2_with (first
        | (go_at_call 237; refine (writeKey_any vs[k] _).mono ?_; rintro e w2 ⟨rfl, hb2⟩; have z2 : wr.heap.size < w2.heap.size := Nat.lt_of_lt_of_le z1 hb2.size; have B2 := Lib.hid (HB1.out.trans (hb2.mono (Nat.le_of_lt z1))); clear hb2 d0 d1 d2 hW1; have HO2 := Lib.hid (Go.Proofs.Ythjikcfpoomioaa.ownsRow_of_below HO.out B2.out))
        | (at_builtin; refine wpList_append_lies _ rfl _ _ 88 rfl w.heap.size 9 i0 (.string ⟨#[]⟩) 1 16 Try.underlying88 hi0 hz0 hz1 hz2 rfl (by decide) _ k _ rfl (HO2.out.alloc _) ⟨w2.heap.size, 0, none⟩ 1 1 [.string vs[k].f0] rfl rfl (news1 _ _ _ _ rfl) (fun u hu => by simp at hu; rcases hu with rfl; rfl) (by omega) (by unfold maxLen; omega) (by omega) (by simp; omega) _ rfl ?_; intro g cp w4 hown hgrow hat hlt2; have X := Lib.hid (And.intro hown hgrow); clear hown hgrow hat hlt2))
      go_roundw
      case rel => exact ⟨k + 1, by omega, by go_num, Below.grown ((HB.out.trans (B2.out.mono hsz)).alloc (by omega) _) X.out.2 (by simp; omega) (fun j hj => (HO2.out.lt j hj).1), by rw [writeKeys_succ hlt]; exact X.out.1⟩
      case measure => simp [intOf]; omega
    · obtain rfl : k = vs.length := by omega
      go_wp2_with fail
      go_ret
      exact ⟨_, rfl, HO.out, HB.out⟩
end Go.Proofs.Ythjikcfpoomioaa
