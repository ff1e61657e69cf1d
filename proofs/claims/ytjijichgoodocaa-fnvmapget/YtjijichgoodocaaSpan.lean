/- Contracts of the functions on spans: each returns just what the plain Lean function of the same bytes says, and turns nothing that was in memory. -/
import Derived.Test.YtjijichgoodocaaAsk
import Derived.Test.YtjijichgoodocaaOrdB
import Derived.Deep.RegionWith
import Derived.Deep.RegionHeld3
import Derived.Deep.QuietTactic
import Derived.BigQuiet
namespace Go.Proofs.Ytjijichgoodocaa
open Go.RowKit

def spanOkB (lo hi : ByteArray) : Bool := okB keyB 6 lo && okB keyB 6 hi && (hi.toList.isEmpty || Op.bytesLess lo.toList hi.toList)
def hasB (lo hi key : ByteArray) : Bool := !(Op.bytesLess key.toList lo.toList) && (hi.toList.isEmpty || Op.bytesLess key.toList hi.toList)

set_option maxHeartbeats 400000 in
theorem l1SpanOk_any (lo hi : ByteArray) (w : World) (hlo : lo.size ≤ maxLen) (hhi : hi.size ≤ maxLen) :
    Calls Try.prog 94 #[.agg #[.string lo, .string hi]] w fun e w' => e = .returned (.bool (spanOkB lo hi)) ∧ Below w.heap.size w w' := by
  cases h1 : okB keyB 6 lo
  · go_enter Try.func94, Try.ntmps94
    go_wp2_with (go_at_call 137; refine (l1Part_any _ _ (by assumption)).mono ?_; rintro e w' ⟨rfl, rfl⟩)
    go_ret
    exact ⟨ret_bool (by simp [spanOkB, h1]), (Below.refl _ _).alloc (Nat.le_refl _) _⟩
  · cases h2 : okB keyB 6 hi
    · go_enter Try.func94, Try.ntmps94
      go_wp2_with (go_at_call 137; refine (l1Part_any _ _ (by assumption)).mono ?_; rintro e w' ⟨rfl, rfl⟩)
      go_ret
      exact ⟨ret_bool (by simp [spanOkB, h1, h2]), (Below.refl _ _).alloc (Nat.le_refl _) _⟩
    · cases h3 : hi.toList.isEmpty
      all_goals
        go_enter Try.func94, Try.ntmps94
        go_wp2_with (go_at_call 137; refine (l1Part_any _ _ (by assumption)).mono ?_; rintro e w' ⟨rfl, rfl⟩)
        go_ret
        exact ⟨ret_bool (by simp [spanOkB, h1, h2, h3]), (Below.refl _ _).alloc (Nat.le_refl _) _⟩

set_option maxHeartbeats 400000 in
theorem l1Has_any (lo hi key : ByteArray) (w : World) :
    Calls Try.prog 117 #[.agg #[.string lo, .string hi], .string key] w fun e w' => e = .returned (.bool (hasB lo hi key)) ∧ Below w.heap.size w w' := by
  cases h1 : Op.bytesLess key.toList lo.toList
  · cases h3 : hi.toList.isEmpty
    all_goals
      go_enter Try.func117, Try.ntmps117
      go_wp2
      go_ret
      exact ⟨ret_bool (by simp [hasB, h1, h3]), (Below.refl _ _).alloc (Nat.le_refl _) _⟩
  · go_enter Try.func117, Try.ntmps117
    go_wp2
    go_ret
    exact ⟨ret_bool (by simp [hasB, h1]), (Below.refl _ _).alloc (Nat.le_refl _) _⟩

set_option maxHeartbeats 400000 in
theorem end_open (lo hi : ByteArray) (w : World) (h : hi.toList.isEmpty = true) :
    Calls Try.prog 97 #[.agg #[.string lo, .string hi]] w fun e w' => e = .returned (.iface 182 (.agg #[])) ∧ Below w.heap.size w w' := by
  go_enter Try.func97, Try.ntmps97
  go_wp2
  go_ret
  exact ⟨rfl, (Below.refl _ _).alloc (Nat.le_refl _) _⟩

set_option maxHeartbeats 400000 in
theorem end_key (lo hi : ByteArray) (w : World) (h : hi.toList.isEmpty = false) :
    Calls Try.prog 97 #[.agg #[.string lo, .string hi]] w fun e w' => e = .returned (.iface 183 (.string hi)) ∧ Below w.heap.size w w' := by
  go_enter Try.func97, Try.ntmps97
  go_wp2
  go_ret
  exact ⟨rfl, (Below.refl _ _).alloc (Nat.le_refl _) _⟩

set_option maxHeartbeats 400000 in
theorem open_behind (key : ByteArray) (w : World) :
    Calls Try.prog 246 #[.agg #[], .string key] w fun e w' => e = .returned (.bool true) ∧ Below w.heap.size w w' := by
  go_enter Try.func246, Try.ntmps246
  go_wp2
  go_ret
  exact ⟨rfl, (Below.refl _ _).alloc (Nat.le_refl _) _⟩

set_option maxHeartbeats 400000 in
theorem key_behind (e1 key : ByteArray) (w : World) :
    Calls Try.prog 249 #[.string e1, .string key] w fun e w' => e = .returned (.bool (Op.bytesLess key.toList e1.toList)) ∧ w = w' := by
  go_enter Try.func249, Try.ntmps249
  go_wp2
  go_ret
  exact ⟨rfl, rfl⟩

theorem meth_behind_key (e1 : ByteArray) (w : World) : (method 374 183 (.string e1) "loop.example/cadastre/impl.behind").run Try.prog w = .ok (249, .string e1) w := by kernel_rfl
theorem meth_behind_open (w : World) : (method 374 182 (.agg #[]) "loop.example/cadastre/impl.behind").run Try.prog w = .ok (246, .agg #[]) w := by kernel_rfl

set_option maxHeartbeats 400000 in
theorem has_any (lo hi key : ByteArray) (w : World) :
    Calls Try.prog 98 #[.agg #[.string lo, .string hi], .string key] w fun e w' => e = .returned (.bool (hasB lo hi key)) ∧ Below w.heap.size w w' := by
  have hle := bytesLess_le lo.toList key.toList
  cases h1 : Op.bytesLess key.toList lo.toList
  · cases h3 : hi.toList.isEmpty
    · have hfin : Hid (hasB lo hi key = Op.bytesLess key.toList hi.toList) := by show _ = _; simp [hasB, h1, h3]
      have mk := meth_behind_key hi
      rw [h1] at hle
      clear h1
      go_enter Try.func98, Try.ntmps98
      go_wp2_with (first | (go_at_call 97; refine (end_key _ _ _ h3).mono ?_; rintro e w' ⟨rfl, hb⟩) | (go_at_call 249; refine (key_behind _ _ _).mono ?_; rintro e w' ⟨rfl, rfl⟩))
      go_ret
      exact ⟨ret_bool (by rw [hfin.out]), ((Below.refl _ _).alloc (Nat.le_refl _) _).trans (hb.mono (by simp))⟩
    · have hfin : Hid (hasB lo hi key = true) := by show _ = _; simp [hasB, h1, h3]
      have mk := meth_behind_open
      rw [h1] at hle
      clear h1
      go_enter Try.func98, Try.ntmps98
      go_wp2_with (first | (go_at_call 97; refine (end_open _ _ _ h3).mono ?_; rintro e w' ⟨rfl, hb⟩) | (go_at_call 246; refine (open_behind _ _).mono ?_; rintro e w'' ⟨rfl, hb2⟩))
      go_ret
      exact ⟨ret_bool (by rw [hfin.out]), (((Below.refl _ _).alloc (Nat.le_refl _) _).trans (hb.mono (by simp))).trans (hb2.mono (by have := hb.size; simp at this; omega))⟩
  · have hfin : Hid (hasB lo hi key = false) := by show _ = _; simp [hasB, h1]
    rw [h1] at hle
    clear h1
    go_enter Try.func98, Try.ntmps98
    go_wp2_with fail
    go_ret
    exact ⟨ret_bool (by rw [hfin.out]), (Below.refl _ _).alloc (Nat.le_refl _) _⟩

theorem prefixOk_is {s : ByteArray} {b : Bool} (h : okB keyB 6 s = b) (hs : s.size ≤ maxLen) (w : World) :
    Calls Try.prog 96 #[.string s] w fun e w' => e = .returned (.bool b) ∧ w = w' := by rw [← h]; exact prefixOk_any s w hs

theorem prefixOk_q {s : ByteArray} {b : Bool} (h : okB keyB 6 s = b) (hs : s.size ≤ maxLen) (w : World) :
    Calls Try.prog 96 #[.string s] w fun e w' => e = .returned (.bool b) ∧ w' = w := (prefixOk_is h hs w).mono fun _ _ ⟨a, b⟩ => ⟨a, b.symm⟩

set_option maxHeartbeats 1000000 in
theorem spanOk_any (lo hi : ByteArray) (w : World) (hlo : lo.size ≤ maxLen) (hhi : hi.size ≤ maxLen) :
    Calls Try.prog 30 #[.agg #[.string lo, .string hi]] w fun e w' => e = .returned (.bool (spanOkB lo hi)) ∧ Below w.heap.size w w' := by
  cases h1 : okB keyB 6 lo
  · have hfin : Hid (spanOkB lo hi = false) := by show _ = _; simp [spanOkB, h1]
    go_enter Try.func30, Try.ntmps30
    go_wp2_with fail
    go_quiet ((go_at_call 96; exact Calls.quiet_of_same (prefixOk_q h1 hlo _)))
    go_wp2_with fail
    go_ret
    exact ⟨ret_bool (by rw [hfin.out]), below_drewN ((Below.refl _ _).alloc (Nat.le_refl _) _) _⟩
  · cases h2 : okB keyB 6 hi
    · have hfin : Hid (spanOkB lo hi = false) := by show _ = _; simp [spanOkB, h2]
      go_enter Try.func30, Try.ntmps30
      go_wp2_with fail
      go_quiet ((go_at_call 96; (first | (with_reducible exact Calls.quiet_of_same (prefixOk_q h1 hlo _)) | (with_reducible exact Calls.quiet_of_same (prefixOk_q h2 hhi _)))))
      go_wp2_with fail
      go_ret
      exact ⟨ret_bool (by rw [hfin.out]), below_drewN ((Below.refl _ _).alloc (Nat.le_refl _) _) _⟩
    · cases h3 : hi.toList.isEmpty
      · have hfin : Hid (spanOkB lo hi = Op.bytesLess lo.toList hi.toList) := by show _ = _; simp [spanOkB, h1, h2, h3]
        have mk := meth_behind_key hi
        go_enter Try.func30, Try.ntmps30
        go_wp2_with fail
        go_region_with (first
          | (go_at_call 96; (first | (with_reducible refine (prefixOk_is h1 hlo _).mono ?_) | (with_reducible refine (prefixOk_is h2 hhi _).mono ?_)); rintro e w' ⟨rfl, rfl⟩)
          | (go_at_call 97; refine (end_key _ _ _ h3).mono ?_; rintro e w' ⟨rfl, hb⟩; obtain ⟨hc, hf⟩ := bcell hb)
          | (go_at_call 249; refine (key_behind _ _ _).mono ?_; rintro e w' ⟨rfl, rfl⟩))
        all_goals
          go_wp2_with fail
          go_ret
          exact ⟨ret_bool (by rw [hfin.out]), (((Below.refl _ _).alloc (Nat.le_refl _) _).drew).trans (hb.mono (by simp))⟩
      · have hfin : Hid (spanOkB lo hi = true) := by show _ = _; simp [spanOkB, h1, h2, h3]
        have mk := meth_behind_open
        go_enter Try.func30, Try.ntmps30
        go_wp2_with fail
        go_region_with (first
          | (go_at_call 96; (first | (with_reducible refine (prefixOk_is h1 hlo _).mono ?_) | (with_reducible refine (prefixOk_is h2 hhi _).mono ?_)); rintro e w' ⟨rfl, rfl⟩)
          | (go_at_call 97; refine (end_open _ _ _ h3).mono ?_; rintro e w' ⟨rfl, hb⟩; obtain ⟨hc, hf⟩ := bcell hb)
          | (go_at_call 246; refine (open_behind _ _).mono ?_; rintro e w'' ⟨rfl, hb2⟩))
        all_goals
          go_wp2_with fail
          go_ret
          exact ⟨ret_bool (by rw [hfin.out]), ((((Below.refl _ _).alloc (Nat.le_refl _) _).drew).trans (hb.mono (by simp))).trans (hb2.mono (by have := hb.size; simp at this; omega))⟩
end Go.Proofs.Ytjijichgoodocaa
