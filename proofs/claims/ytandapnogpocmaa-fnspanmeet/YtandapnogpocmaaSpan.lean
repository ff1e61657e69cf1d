/- Contracts of the functions on spans: each returns just what the plain Lean function of the same bytes says, and turns nothing that was in memory. -/
import Derived.Test.YtandapnogpocmaaText
import Derived.Deep.RegionWith
import Derived.Deep.RegionHeld3
import Derived.Deep.QuietTactic
import Derived.BigQuiet
namespace Go.Proofs.Ytandapnogpocmaa
open Go.RowKit

theorem bcell {W w1 : World} (hb : Below W.heap.size W w1) : (∀ b o, b < W.heap.size → w1.cell? ⟨b, o, none⟩ = W.cell? ⟨b, o, none⟩) ∧ (∀ b o, b < W.heap.size → w1.frozen? ⟨b, o, none⟩ = W.frozen? ⟨b, o, none⟩) :=
  ⟨fun b o h => hb.cell (p := ⟨b, o, none⟩) h, fun b o h => hb.frozen (p := ⟨b, o, none⟩) h⟩

def spanOkB (lo hi : ByteArray) : Bool := okB keyB 6 lo && okB keyB 6 hi && (hi.toList.isEmpty || Op.bytesLess lo.toList hi.toList)
def hasB (lo hi key : ByteArray) : Bool := !(Op.bytesLess key.toList lo.toList) && (hi.toList.isEmpty || Op.bytesLess key.toList hi.toList)

set_option maxHeartbeats 400000 in
theorem l1SpanOk_any (lo hi : ByteArray) (w : World) (hlo : lo.size ≤ maxLen) (hhi : hi.size ≤ maxLen) :
    Calls Try.prog 39 #[.agg #[.string lo, .string hi]] w fun e w' => e = .returned (.bool (spanOkB lo hi)) ∧ Below w.heap.size w w' := by
  cases h1 : okB keyB 6 lo
  · go_enter Try.func39, Try.ntmps39
    go_wp2_with (go_at_call 51; refine (l1Part_any _ _ (by assumption)).mono ?_; rintro e w' ⟨rfl, rfl⟩)
    go_ret
    exact ⟨ret_bool (by simp [spanOkB, h1]), (Below.refl _ _).alloc (Nat.le_refl _) _⟩
  · cases h2 : okB keyB 6 hi
    · go_enter Try.func39, Try.ntmps39
      go_wp2_with (go_at_call 51; refine (l1Part_any _ _ (by assumption)).mono ?_; rintro e w' ⟨rfl, rfl⟩)
      go_ret
      exact ⟨ret_bool (by simp [spanOkB, h1, h2]), (Below.refl _ _).alloc (Nat.le_refl _) _⟩
    · cases h3 : hi.toList.isEmpty
      all_goals
        go_enter Try.func39, Try.ntmps39
        go_wp2_with (go_at_call 51; refine (l1Part_any _ _ (by assumption)).mono ?_; rintro e w' ⟨rfl, rfl⟩)
        go_ret
        exact ⟨ret_bool (by simp [spanOkB, h1, h2, h3]), (Below.refl _ _).alloc (Nat.le_refl _) _⟩

set_option maxHeartbeats 400000 in
theorem specSpanOk_any (lo hi : ByteArray) (w : World) (hlo : lo.size ≤ maxLen) (hhi : hi.size ≤ maxLen) :
    Calls Try.prog 18 #[.agg #[.string lo, .string hi]] w fun e w' => e = .returned (.bool (spanOkB lo hi)) ∧ Below w.heap.size w w' := by
  go_enter Try.func18, Try.ntmps18
  go_wp2_with (go_at_call 39; refine (l1SpanOk_any _ _ _ hlo hhi).mono ?_; rintro e w' ⟨rfl, hb⟩)
  go_ret
  exact ⟨rfl, ((Below.refl _ _).alloc (Nat.le_refl _) _).trans (hb.mono (by simp))⟩

set_option maxHeartbeats 400000 in
theorem l1Has_any (lo hi key : ByteArray) (w : World) :
    Calls Try.prog 41 #[.agg #[.string lo, .string hi], .string key] w fun e w' => e = .returned (.bool (hasB lo hi key)) ∧ Below w.heap.size w w' := by
  cases h1 : Op.bytesLess key.toList lo.toList
  · cases h3 : hi.toList.isEmpty
    all_goals
      go_enter Try.func41, Try.ntmps41
      go_wp2
      go_ret
      exact ⟨ret_bool (by simp [hasB, h1, h3]), (Below.refl _ _).alloc (Nat.le_refl _) _⟩
  · go_enter Try.func41, Try.ntmps41
    go_wp2
    go_ret
    exact ⟨ret_bool (by simp [hasB, h1]), (Below.refl _ _).alloc (Nat.le_refl _) _⟩

set_option maxHeartbeats 400000 in
theorem end_open (lo hi : ByteArray) (w : World) (h : hi.toList.isEmpty = true) :
    Calls Try.prog 43 #[.agg #[.string lo, .string hi]] w fun e w' => e = .returned (.iface 62 (.agg #[])) ∧ Below w.heap.size w w' := by
  go_enter Try.func43, Try.ntmps43
  go_wp2
  go_ret
  exact ⟨rfl, (Below.refl _ _).alloc (Nat.le_refl _) _⟩

set_option maxHeartbeats 400000 in
theorem end_key (lo hi : ByteArray) (w : World) (h : hi.toList.isEmpty = false) :
    Calls Try.prog 43 #[.agg #[.string lo, .string hi]] w fun e w' => e = .returned (.iface 63 (.string hi)) ∧ Below w.heap.size w w' := by
  go_enter Try.func43, Try.ntmps43
  go_wp2
  go_ret
  exact ⟨rfl, (Below.refl _ _).alloc (Nat.le_refl _) _⟩

set_option maxHeartbeats 400000 in
theorem open_behind (key : ByteArray) (w : World) :
    Calls Try.prog 68 #[.agg #[], .string key] w fun e w' => e = .returned (.bool true) ∧ Below w.heap.size w w' := by
  go_enter Try.func68, Try.ntmps68
  go_wp2
  go_ret
  exact ⟨rfl, (Below.refl _ _).alloc (Nat.le_refl _) _⟩

set_option maxHeartbeats 400000 in
theorem key_behind (e1 key : ByteArray) (w : World) :
    Calls Try.prog 71 #[.string e1, .string key] w fun e w' => e = .returned (.bool (Op.bytesLess key.toList e1.toList)) ∧ w = w' := by
  go_enter Try.func71, Try.ntmps71
  go_wp2
  go_ret
  exact ⟨rfl, rfl⟩

theorem meth_behind_key (e1 : ByteArray) (w : World) : (method 180 63 (.string e1) "loop.example/cadastre/impl.behind").run Try.prog w = .ok (71, .string e1) w := by kernel_rfl
theorem meth_behind_open (w : World) : (method 180 62 (.agg #[]) "loop.example/cadastre/impl.behind").run Try.prog w = .ok (68, .agg #[]) w := by kernel_rfl

theorem bytesLess_eq : ∀ (x y : List UInt8), Op.bytesLess x y = decide (x < y)
  | [], [] => by simp [Op.bytesLess]
  | _ :: _, [] => by simp [Op.bytesLess]
  | [], _ :: _ => by simp [Op.bytesLess]
  | a :: x, b :: y => by
    rw [Op.bytesLess, bytesLess_eq x y]
    simp only [List.cons_lt_cons_iff]
    by_cases h1 : a < b <;> by_cases h2 : a = b <;> by_cases h3 : x < y <;> simp [h1, h2, h3]

theorem bytesLess_le (x y : List UInt8) : (Op.bytesLess x y || x == y) = !(Op.bytesLess y x) := by
  rw [bytesLess_eq, bytesLess_eq, Bool.eq_iff_iff]
  simp only [Bool.or_eq_true, decide_eq_true_eq, beq_iff_eq, Bool.not_eq_true', decide_eq_false_iff_not]
  constructor
  · rintro (h | rfl)
    · exact List.lt_asymm h
    · exact List.lt_irrefl _
  · intro h
    by_cases e : x = y
    · exact .inr e
    · exact .inl (Decidable.byContradiction fun k => e (List.le_antisymm (List.not_lt.1 h) (List.not_lt.1 k)))

set_option maxHeartbeats 400000 in
theorem has_any (lo hi key : ByteArray) (w : World) :
    Calls Try.prog 38 #[.agg #[.string lo, .string hi], .string key] w fun e w' => e = .returned (.bool (hasB lo hi key)) ∧ Below w.heap.size w w' := by
  have hle := bytesLess_le lo.toList key.toList
  cases h1 : Op.bytesLess key.toList lo.toList
  · cases h3 : hi.toList.isEmpty
    · have hfin : Hid (hasB lo hi key = Op.bytesLess key.toList hi.toList) := by show _ = _; simp [hasB, h1, h3]
      have mk := meth_behind_key hi
      rw [h1] at hle
      clear h1
      go_enter Try.func38, Try.ntmps38
      go_wp2_with (first | (go_at_call 43; refine (end_key _ _ _ h3).mono ?_; rintro e w' ⟨rfl, hb⟩) | (go_at_call 71; refine (key_behind _ _ _).mono ?_; rintro e w' ⟨rfl, rfl⟩))
      go_ret
      exact ⟨ret_bool (by rw [hfin.out]), ((Below.refl _ _).alloc (Nat.le_refl _) _).trans (hb.mono (by simp))⟩
    · have hfin : Hid (hasB lo hi key = true) := by show _ = _; simp [hasB, h1, h3]
      have mk := meth_behind_open
      rw [h1] at hle
      clear h1
      go_enter Try.func38, Try.ntmps38
      go_wp2_with (first | (go_at_call 43; refine (end_open _ _ _ h3).mono ?_; rintro e w' ⟨rfl, hb⟩) | (go_at_call 68; refine (open_behind _ _).mono ?_; rintro e w'' ⟨rfl, hb2⟩))
      go_ret
      exact ⟨ret_bool (by rw [hfin.out]), (((Below.refl _ _).alloc (Nat.le_refl _) _).trans (hb.mono (by simp))).trans (hb2.mono (by have := hb.size; simp at this; omega))⟩
  · have hfin : Hid (hasB lo hi key = false) := by show _ = _; simp [hasB, h1]
    rw [h1] at hle
    clear h1
    go_enter Try.func38, Try.ntmps38
    go_wp2_with fail
    go_ret
    exact ⟨ret_bool (by rw [hfin.out]), (Below.refl _ _).alloc (Nat.le_refl _) _⟩

theorem prefixOk_is {s : ByteArray} {b : Bool} (h : okB keyB 6 s = b) (hs : s.size ≤ maxLen) (w : World) :
    Calls Try.prog 42 #[.string s] w fun e w' => e = .returned (.bool b) ∧ w = w' := by rw [← h]; exact prefixOk_any s w hs

theorem prefixOk_q {s : ByteArray} {b : Bool} (h : okB keyB 6 s = b) (hs : s.size ≤ maxLen) (w : World) :
    Calls Try.prog 42 #[.string s] w fun e w' => e = .returned (.bool b) ∧ w' = w := (prefixOk_is h hs w).mono fun _ _ ⟨a, b⟩ => ⟨a, b.symm⟩

set_option maxHeartbeats 1000000 in
theorem spanOk_any (lo hi : ByteArray) (w : World) (hlo : lo.size ≤ maxLen) (hhi : hi.size ≤ maxLen) :
    Calls Try.prog 17 #[.agg #[.string lo, .string hi]] w fun e w' => e = .returned (.bool (spanOkB lo hi)) ∧ Below w.heap.size w w' := by
  cases h1 : okB keyB 6 lo
  · have hfin : Hid (spanOkB lo hi = false) := by show _ = _; simp [spanOkB, h1]
    go_enter Try.func17, Try.ntmps17
    go_wp2_with fail
    go_quiet ((go_at_call 42; exact Calls.quiet_of_same (prefixOk_q h1 hlo _)))
    go_wp2_with fail
    go_ret
    exact ⟨ret_bool (by rw [hfin.out]), below_drewN ((Below.refl _ _).alloc (Nat.le_refl _) _) _⟩
  · cases h2 : okB keyB 6 hi
    · have hfin : Hid (spanOkB lo hi = false) := by show _ = _; simp [spanOkB, h2]
      go_enter Try.func17, Try.ntmps17
      go_wp2_with fail
      go_quiet ((go_at_call 42; (first | (with_reducible exact Calls.quiet_of_same (prefixOk_q h1 hlo _)) | (with_reducible exact Calls.quiet_of_same (prefixOk_q h2 hhi _)))))
      go_wp2_with fail
      go_ret
      exact ⟨ret_bool (by rw [hfin.out]), below_drewN ((Below.refl _ _).alloc (Nat.le_refl _) _) _⟩
    · cases h3 : hi.toList.isEmpty
      · have hfin : Hid (spanOkB lo hi = Op.bytesLess lo.toList hi.toList) := by show _ = _; simp [spanOkB, h1, h2, h3]
        have mk := meth_behind_key hi
        go_enter Try.func17, Try.ntmps17
        go_wp2_with fail
        go_region_with (first
          | (go_at_call 42; (first | (with_reducible refine (prefixOk_is h1 hlo _).mono ?_) | (with_reducible refine (prefixOk_is h2 hhi _).mono ?_)); rintro e w' ⟨rfl, rfl⟩)
          | (go_at_call 43; refine (end_key _ _ _ h3).mono ?_; rintro e w' ⟨rfl, hb⟩; obtain ⟨hc, hf⟩ := bcell hb)
          | (go_at_call 71; refine (key_behind _ _ _).mono ?_; rintro e w' ⟨rfl, rfl⟩))
        all_goals
          go_wp2_with fail
          go_ret
          exact ⟨ret_bool (by rw [hfin.out]), (((Below.refl _ _).alloc (Nat.le_refl _) _).drew).trans (hb.mono (by simp))⟩
      · have hfin : Hid (spanOkB lo hi = true) := by show _ = _; simp [spanOkB, h1, h2, h3]
        have mk := meth_behind_open
        go_enter Try.func17, Try.ntmps17
        go_wp2_with fail
        go_region_with (first
          | (go_at_call 42; (first | (with_reducible refine (prefixOk_is h1 hlo _).mono ?_) | (with_reducible refine (prefixOk_is h2 hhi _).mono ?_)); rintro e w' ⟨rfl, rfl⟩)
          | (go_at_call 43; refine (end_open _ _ _ h3).mono ?_; rintro e w' ⟨rfl, hb⟩; obtain ⟨hc, hf⟩ := bcell hb)
          | (go_at_call 68; refine (open_behind _ _).mono ?_; rintro e w'' ⟨rfl, hb2⟩))
        all_goals
          go_wp2_with fail
          go_ret
          exact ⟨ret_bool (by rw [hfin.out]), ((((Below.refl _ _).alloc (Nat.le_refl _) _).drew).trans (hb.mono (by simp))).trans (hb2.mono (by have := hb.size; simp at this; omega))⟩
end Go.Proofs.Ytandapnogpocmaa
