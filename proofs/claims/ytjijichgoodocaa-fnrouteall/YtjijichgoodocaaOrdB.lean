/- When a question of a listing is ok: the model and the program say the same; its size and its copy. -/
import Derived.Test.YtjijichgoodocaaVmSpec
import Derived.Test.YtjijichgoodocaaRows
import Derived.WalkKit
import Derived.Deep.RegionWith
import Derived.Deep.RegionHeld3
import Derived.Deep.QuietTactic
import Derived.BigQuiet
import Derived.Test.YtjijichgoodocaaVmOk
namespace Go.Proofs.Ytjijichgoodocaa
open Go.RowKit

theorem bcell {W w1 : World} (hb : Below W.heap.size W w1) : (∀ b o, b < W.heap.size → w1.cell? ⟨b, o, none⟩ = W.cell? ⟨b, o, none⟩) ∧ (∀ b o, b < W.heap.size → w1.frozen? ⟨b, o, none⟩ = W.frozen? ⟨b, o, none⟩) :=
  ⟨fun b o h => hb.cell (p := ⟨b, o, none⟩) h, fun b o h => hb.frozen (p := ⟨b, o, none⟩) h⟩
def askOkB (h a : ByteArray) (m : Int) : Bool := okB keyB 6 h && (okB keyB 6 a && inB m 1 5)
end Go.Proofs.Ytjijichgoodocaa

/- The order of strings, byte by byte: it is List's own. -/
namespace Go.Proofs.Ytjijichgoodocaa
open Go.RowKit

theorem bytesLess_eq : ∀ (x y : List UInt8), Op.bytesLess x y = decide (x < y)
  | [], [] => by simp [Op.bytesLess]
  | _ :: _, [] => by simp [Op.bytesLess]
  | [], _ :: _ => by simp [Op.bytesLess]
  | a :: x, b :: y => by
    rw [Op.bytesLess, bytesLess_eq x y]
    simp only [List.cons_lt_cons_iff]
    by_cases h1 : a < b <;> by_cases h2 : a = b <;> by_cases h3 : x < y <;> simp [h1, h2, h3]

theorem bytesLess_le (x y : List UInt8) : (Op.bytesLess x y || x == y) = !(Op.bytesLess y x) := by
  rw [bytesLess_eq, bytesLess_eq, Bool.eq_iff_iff]
  simp only [Bool.or_eq_true, decide_eq_true_eq, beq_iff_eq, Bool.not_eq_true', decide_eq_false_iff_not]
  constructor
  · rintro (h | rfl)
    · exact List.lt_asymm h
    · exact List.lt_irrefl _
  · intro h
    by_cases e : x = y
    · exact .inr e
    · exact .inl (Decidable.byContradiction fun k => e (List.le_antisymm (List.not_lt.1 h) (List.not_lt.1 k)))
end Go.Proofs.Ytjijichgoodocaa

/- Contracts of the functions on spans: each returns just what the plain Lean function of the same bytes says, and turns nothing that was in memory. -/
namespace Go.Proofs.Ytjijichgoodocaa
open Go.RowKit

def spanOkB (lo hi : ByteArray) : Bool := okB keyB 6 lo && okB keyB 6 hi && (hi.toList.isEmpty || Op.bytesLess lo.toList hi.toList)
def hasB (lo hi key : ByteArray) : Bool := !(Op.bytesLess key.toList lo.toList) && (hi.toList.isEmpty || Op.bytesLess key.toList hi.toList)

set_option maxHeartbeats 400000 in
theorem l1SpanOk_any (lo hi : ByteArray) (w : World) (hlo : lo.size ≤ maxLen) (hhi : hi.size ≤ maxLen) :
    Calls Try.prog 94 #[.agg #[.string lo, .string hi]] w fun e w' => e = .returned (.bool (spanOkB lo hi)) ∧ Below w.heap.size w w' := by
  cases h1 : okB keyB 6 lo
  · go_enter Try.func94, Try.ntmps94
    go_wp2_with (go_at_call 137; refine (l1Part_any _ _ (by assumption)).mono ?_; rintro e w' ⟨rfl, rfl⟩)
    go_ret
    exact ⟨ret_bool (by simp [spanOkB, h1]), (Below.refl _ _).alloc (Nat.le_refl _) _⟩
  · cases h2 : okB keyB 6 hi
    · go_enter Try.func94, Try.ntmps94
      go_wp2_with (go_at_call 137; refine (l1Part_any _ _ (by assumption)).mono ?_; rintro e w' ⟨rfl, rfl⟩)
      go_ret
      exact ⟨ret_bool (by simp [spanOkB, h1, h2]), (Below.refl _ _).alloc (Nat.le_refl _) _⟩
    · cases h3 : hi.toList.isEmpty
      all_goals
        go_enter Try.func94, Try.ntmps94
        go_wp2_with (go_at_call 137; refine (l1Part_any _ _ (by assumption)).mono ?_; rintro e w' ⟨rfl, rfl⟩)
        go_ret
        exact ⟨ret_bool (by simp [spanOkB, h1, h2, h3]), (Below.refl _ _).alloc (Nat.le_refl _) _⟩

set_option maxHeartbeats 400000 in
theorem l1Has_any (lo hi key : ByteArray) (w : World) :
    Calls Try.prog 117 #[.agg #[.string lo, .string hi], .string key] w fun e w' => e = .returned (.bool (hasB lo hi key)) ∧ Below w.heap.size w w' := by
  cases h1 : Op.bytesLess key.toList lo.toList
  · cases h3 : hi.toList.isEmpty
    all_goals
      go_enter Try.func117, Try.ntmps117
      go_wp2
      go_ret
      exact ⟨ret_bool (by simp [hasB, h1, h3]), (Below.refl _ _).alloc (Nat.le_refl _) _⟩
  · go_enter Try.func117, Try.ntmps117
    go_wp2
    go_ret
    exact ⟨ret_bool (by simp [hasB, h1]), (Below.refl _ _).alloc (Nat.le_refl _) _⟩

set_option maxHeartbeats 400000 in
theorem end_open (lo hi : ByteArray) (w : World) (h : hi.toList.isEmpty = true) :
    Calls Try.prog 97 #[.agg #[.string lo, .string hi]] w fun e w' => e = .returned (.iface 182 (.agg #[])) ∧ Below w.heap.size w w' := by
  go_enter Try.func97, Try.ntmps97
  go_wp2
  go_ret
  exact ⟨rfl, (Below.refl _ _).alloc (Nat.le_refl _) _⟩

set_option maxHeartbeats 400000 in
theorem end_key (lo hi : ByteArray) (w : World) (h : hi.toList.isEmpty = false) :
    Calls Try.prog 97 #[.agg #[.string lo, .string hi]] w fun e w' => e = .returned (.iface 183 (.string hi)) ∧ Below w.heap.size w w' := by
  go_enter Try.func97, Try.ntmps97
  go_wp2
  go_ret
  exact ⟨rfl, (Below.refl _ _).alloc (Nat.le_refl _) _⟩

set_option maxHeartbeats 400000 in
theorem open_behind (key : ByteArray) (w : World) :
    Calls Try.prog 246 #[.agg #[], .string key] w fun e w' => e = .returned (.bool true) ∧ Below w.heap.size w w' := by
  go_enter Try.func246, Try.ntmps246
  go_wp2
  go_ret
  exact ⟨rfl, (Below.refl _ _).alloc (Nat.le_refl _) _⟩

set_option maxHeartbeats 400000 in
theorem key_behind (e1 key : ByteArray) (w : World) :
    Calls Try.prog 249 #[.string e1, .string key] w fun e w' => e = .returned (.bool (Op.bytesLess key.toList e1.toList)) ∧ w = w' := by
  go_enter Try.func249, Try.ntmps249
  go_wp2
  go_ret
  exact ⟨rfl, rfl⟩

theorem meth_behind_key (e1 : ByteArray) (w : World) : (method 374 183 (.string e1) "loop.example/cadastre/impl.behind").run Try.prog w = .ok (249, .string e1) w := by kernel_rfl
theorem meth_behind_open (w : World) : (method 374 182 (.agg #[]) "loop.example/cadastre/impl.behind").run Try.prog w = .ok (246, .agg #[]) w := by kernel_rfl

set_option maxHeartbeats 400000 in
theorem has_any (lo hi key : ByteArray) (w : World) :
    Calls Try.prog 98 #[.agg #[.string lo, .string hi], .string key] w fun e w' => e = .returned (.bool (hasB lo hi key)) ∧ Below w.heap.size w w' := by
  have hle := bytesLess_le lo.toList key.toList
  cases h1 : Op.bytesLess key.toList lo.toList
  · cases h3 : hi.toList.isEmpty
    · have hfin : Hid (hasB lo hi key = Op.bytesLess key.toList hi.toList) := by show _ = _; simp [hasB, h1, h3]
      have mk := meth_behind_key hi
      rw [h1] at hle
      clear h1
      go_enter Try.func98, Try.ntmps98
      go_wp2_with (first | (go_at_call 97; refine (end_key _ _ _ h3).mono ?_; rintro e w' ⟨rfl, hb⟩) | (go_at_call 249; refine (key_behind _ _ _).mono ?_; rintro e w' ⟨rfl, rfl⟩))
      go_ret
      exact ⟨ret_bool (by rw [hfin.out]), ((Below.refl _ _).alloc (Nat.le_refl _) _).trans (hb.mono (by simp))⟩
    · have hfin : Hid (hasB lo hi key = true) := by show _ = _; simp [hasB, h1, h3]
      have mk := meth_behind_open
      rw [h1] at hle
      clear h1
      go_enter Try.func98, Try.ntmps98
      go_wp2_with (first | (go_at_call 97; refine (end_open _ _ _ h3).mono ?_; rintro e w' ⟨rfl, hb⟩) | (go_at_call 246; refine (open_behind _ _).mono ?_; rintro e w'' ⟨rfl, hb2⟩))
      go_ret
      exact ⟨ret_bool (by rw [hfin.out]), (((Below.refl _ _).alloc (Nat.le_refl _) _).trans (hb.mono (by simp))).trans (hb2.mono (by have := hb.size; simp at this; omega))⟩
  · have hfin : Hid (hasB lo hi key = false) := by show _ = _; simp [hasB, h1]
    rw [h1] at hle
    clear h1
    go_enter Try.func98, Try.ntmps98
    go_wp2_with fail
    go_ret
    exact ⟨ret_bool (by rw [hfin.out]), (Below.refl _ _).alloc (Nat.le_refl _) _⟩

theorem prefixOk_is {s : ByteArray} {b : Bool} (h : okB keyB 6 s = b) (hs : s.size ≤ maxLen) (w : World) :
    Calls Try.prog 96 #[.string s] w fun e w' => e = .returned (.bool b) ∧ w = w' := by rw [← h]; exact prefixOk_any s w hs

theorem prefixOk_q {s : ByteArray} {b : Bool} (h : okB keyB 6 s = b) (hs : s.size ≤ maxLen) (w : World) :
    Calls Try.prog 96 #[.string s] w fun e w' => e = .returned (.bool b) ∧ w' = w := (prefixOk_is h hs w).mono fun _ _ ⟨a, b⟩ => ⟨a, b.symm⟩

set_option maxHeartbeats 1000000 in
theorem spanOk_any (lo hi : ByteArray) (w : World) (hlo : lo.size ≤ maxLen) (hhi : hi.size ≤ maxLen) :
    Calls Try.prog 30 #[.agg #[.string lo, .string hi]] w fun e w' => e = .returned (.bool (spanOkB lo hi)) ∧ Below w.heap.size w w' := by
  cases h1 : okB keyB 6 lo
  · have hfin : Hid (spanOkB lo hi = false) := by show _ = _; simp [spanOkB, h1]
    go_enter Try.func30, Try.ntmps30
    go_wp2_with fail
    go_quiet ((go_at_call 96; exact Calls.quiet_of_same (prefixOk_q h1 hlo _)))
    go_wp2_with fail
    go_ret
    exact ⟨ret_bool (by rw [hfin.out]), below_drewN ((Below.refl _ _).alloc (Nat.le_refl _) _) _⟩
  · cases h2 : okB keyB 6 hi
    · have hfin : Hid (spanOkB lo hi = false) := by show _ = _; simp [spanOkB, h2]
      go_enter Try.func30, Try.ntmps30
      go_wp2_with fail
      go_quiet ((go_at_call 96; (first | (with_reducible exact Calls.quiet_of_same (prefixOk_q h1 hlo _)) | (with_reducible exact Calls.quiet_of_same (prefixOk_q h2 hhi _)))))
      go_wp2_with fail
      go_ret
      exact ⟨ret_bool (by rw [hfin.out]), below_drewN ((Below.refl _ _).alloc (Nat.le_refl _) _) _⟩
    · cases h3 : hi.toList.isEmpty
      · have hfin : Hid (spanOkB lo hi = Op.bytesLess lo.toList hi.toList) := by show _ = _; simp [spanOkB, h1, h2, h3]
        have mk := meth_behind_key hi
        go_enter Try.func30, Try.ntmps30
        go_wp2_with fail
        go_region_with (first
          | (go_at_call 96; (first | (with_reducible refine (prefixOk_is h1 hlo _).mono ?_) | (with_reducible refine (prefixOk_is h2 hhi _).mono ?_)); rintro e w' ⟨rfl, rfl⟩)
          | (go_at_call 97; refine (end_key _ _ _ h3).mono ?_; rintro e w' ⟨rfl, hb⟩; obtain ⟨hc, hf⟩ := bcell hb)
          | (go_at_call 249; refine (key_behind _ _ _).mono ?_; rintro e w' ⟨rfl, rfl⟩))
        all_goals
          go_wp2_with fail
          go_ret
          exact ⟨ret_bool (by rw [hfin.out]), (((Below.refl _ _).alloc (Nat.le_refl _) _).drew).trans (hb.mono (by simp))⟩
      · have hfin : Hid (spanOkB lo hi = true) := by show _ = _; simp [spanOkB, h1, h2, h3]
        have mk := meth_behind_open
        go_enter Try.func30, Try.ntmps30
        go_wp2_with fail
        go_region_with (first
          | (go_at_call 96; (first | (with_reducible refine (prefixOk_is h1 hlo _).mono ?_) | (with_reducible refine (prefixOk_is h2 hhi _).mono ?_)); rintro e w' ⟨rfl, rfl⟩)
          | (go_at_call 97; refine (end_open _ _ _ h3).mono ?_; rintro e w' ⟨rfl, hb⟩; obtain ⟨hc, hf⟩ := bcell hb)
          | (go_at_call 246; refine (open_behind _ _).mono ?_; rintro e w'' ⟨rfl, hb2⟩))
        all_goals
          go_wp2_with fail
          go_ret
          exact ⟨ret_bool (by rw [hfin.out]), ((((Below.refl _ _).alloc (Nat.le_refl _) _).drew).trans (hb.mono (by simp))).trans (hb2.mono (by have := hb.size; simp at this; omega))⟩
end Go.Proofs.Ytjijichgoodocaa

/- The program's ordered maps: ranks, whether they ascend, versions that are valid. -/
namespace Go.Proofs.Ytjijichgoodocaa
open Go.RowKit

set_option maxHeartbeats 400000 in
theorem verRank_any (i : Int) (s : ByteArray) (g : Bool) (w : World) :
    Calls Try.prog 233 #[.agg #[.int .i64 i, .string s, .bool g]] w fun e w' => e = .returned (.int .i64 i) ∧ Below w.heap.size w w' := by
  go_enter Try.func233, Try.ntmps233
  go_wp2
  go_ret
  exact ⟨rfl, (Below.refl _ _).alloc (Nat.le_refl _) _⟩

set_option maxHeartbeats 400000 in
theorem objRank_any (s : ByteArray) (a : Option Addr) (n c : Nat) (w : World) :
    Calls Try.prog 234 #[.agg #[.string s, .slice a n c]] w fun e w' => e = .returned (.string s) ∧ Below w.heap.size w w' := by
  go_enter Try.func234, Try.ntmps234
  go_wp2
  go_ret
  exact ⟨rfl, (Below.refl _ _).alloc (Nat.le_refl _) _⟩

theorem meth_rank_ver (i : Int) (s : ByteArray) (g : Bool) (w : World) : (method 374 27 (.agg #[.int .i64 i, .string s, .bool g]) "loop.example/cadastre/impl.rank").run Try.prog w = .ok (233, .agg #[.int .i64 i, .string s, .bool g]) w := by kernel_rfl
theorem meth_rank_obj (s : ByteArray) (a : Option Addr) (n c : Nat) (w : World) : (method 374 45 (.agg #[.string s, .slice a n c]) "loop.example/cadastre/impl.rank").run Try.prog w = .ok (234, .agg #[.string s, .slice a n c]) w := by kernel_rfl

set_option maxHeartbeats 400000 in
theorem idOk_any (i : Int) (w : World) :
    Calls Try.prog 175 #[.int .i64 i] w fun e w' => e = .returned (.bool (inB i 1 9999)) ∧ w = w' := by
  have hm : (i < 1 ∧ inB i 1 9999 = false) ∨ (1 ≤ i ∧ i ≤ 9999 ∧ inB i 1 9999 = true) ∨ (1 ≤ i ∧ 9999 < i ∧ inB i 1 9999 = false) := by
    by_cases h1 : i < 1
    · exact .inl ⟨h1, by simp [inB]; omega⟩
    · by_cases h2 : i ≤ 9999
      · exact .inr (.inl ⟨by omega, h2, by simp [inB]; omega⟩)
      · exact .inr (.inr ⟨by omega, by omega, by simp [inB]; omega⟩)
  rcases hm with ⟨h1, hI⟩ | ⟨h1, h2, hI⟩ | ⟨h1, h2, hI⟩
  all_goals
    have HI := Lib.hid hI
    clear hI
    go_enter Try.func175, Try.ntmps175
    go_wp2
    go_ret
    exact ⟨ret_bool (by simp [HI.out] <;> omega), rfl⟩

set_option maxHeartbeats 1000000 in
theorem verValid_any (i : Int) (s : ByteArray) (g : Bool) (w : World) (hs : s.size ≤ maxLen) :
    Calls Try.prog 135 #[.agg #[.int .i64 i, .string s, .bool g]] w fun e w' => e = .returned (.bool (verOkB i s g)) ∧ Below w.heap.size w w' := by
  cases hI : inB i 1 9999 <;> cases hT : okB textB 8 s <;> cases g <;> cases hz : s.toList.isEmpty
  all_goals
    go_enter Try.func135, Try.ntmps135
    go_wp2_with first
      | (go_at_call 175; refine (idOk_any _ _).mono ?_; rintro e w' ⟨rfl, rfl⟩; rw [hI])
      | (go_at_call 176; refine (textOk_any _ _ hs).mono ?_; rintro e w' ⟨rfl, rfl⟩; rw [hT])
    go_ret
    exact ⟨ret_bool (by simp [verOkB, hI, hT, hz]), (Below.refl _ _).alloc (Nat.le_refl _) _⟩

/-- The first k versions have ascending numbers. -/
def VersUp (vs : List VerD) (k : Nat) : Prop := ∀ i (h : i < vs.length), i < k → ∀ j (hj : j < vs.length), j + 1 = i → vs[j].id < vs[i].id
def BoolPost (P : Prop) (w : World) (e : Ending) (w' : World) : Prop := ∃ b : Bool, e = .returned (.bool b) ∧ (b = true ↔ P) ∧ Below w.heap.size w w'
theorem BoolPost.no {P : Prop} {w w' : World} (h : ¬ P) (hb : Below w.heap.size w w') : BoolPost P w (.returned (.bool false)) w' := ⟨false, rfl, by simpa using h, hb⟩
theorem BoolPost.yes {P : Prop} {w w' : World} (h : P) (hb : Below w.heap.size w w') : BoolPost P w (.returned (.bool true)) w' := ⟨true, rfl, by simpa using h, hb⟩

set_option maxHeartbeats 1000000 in
theorem verAscends_any (a : Option Addr) (vs : List VerD) (cap : Nat) (w : World) (hv : VersIn w a vs) (hn : vs.length ≤ maxLen) :
    Calls Try.prog 142 #[.slice a vs.length cap] w (BoolPost (VersUp vs vs.length) w) := by
  unfold maxLen at hn
  have HV := Lib.hid hv
  clear hv
  go_enter Try.func142, Try.ntmps142
  go_wp2_with fail
  go_loopw [3] (fun i wr => ∃ k : Nat, k ≤ vs.length ∧ i = .int .i64 (↑k + 1) ∧ Below w.heap.size w wr ∧ VersUp vs (k + 1)) (fun i _ => vs.length + 1 - (intOf i).toNat)
  case atStart => exact ⟨0, Nat.zero_le _, rfl, Below.refl _ _, fun i h hk j hj e => by omega⟩
  case round =>
    obtain ⟨k, hk, rfl, hB, hU⟩ := hrel
    have HW := Lib.hid hB
    have HU := Lib.hid hU
    clear hB hU
    by_cases hlt : k + 1 < vs.length
    · rcases HV.out.below HW.out with hnil | ⟨b1, o1, rfl, hb1, hc1⟩
      · rw [hnil] at hlt; simp at hlt
      obtain ⟨c0, c1, c2⟩ := hc1 (k + 1) hlt
      obtain ⟨d0, d1, d2⟩ := hc1 k (by omega)
      have y0 := cell_regrown c0
      have y1 := cell_regrown c1
      have y2 := cell_regrown c2
      have x0 := cell_regrown d0
      have x1 := cell_regrown d1
      have x2 := cell_regrown d2
      clear hc1
      have hwk : IntKind.i64.wrap (k : Int) = (k : Int) := by rw [IntKind.wrap_i64]; omega
      have m1 := meth_rank_ver vs[k + 1].id vs[k + 1].text vs[k + 1].gone
      have m2 := meth_rank_ver vs[k].id vs[k].text vs[k].gone
      by_cases hid : vs[k].id ≥ vs[k + 1].id
      all_goals
        go_wp2_with fail
        refine wp_region_quiet_below (by kernel_rfl) (by kernel_rfl) ?_
        repeat (go_big_quiet_step ((go_at_call 233; exact Calls.regrown_of (verRank_any _ _ _ _))))
        refine wpQuiet_nil ?_
        intro _ hw'
        obtain ⟨⟨dq, osq⟩, hw''⟩ := hw'
        subst hw''
        clear m1 m2
        go_wp2_with fail
      · go_ret
        exact ⟨false, rfl, by simp only [Bool.false_eq_true, false_iff]; intro h; have := h (k + 1) hlt hlt k (by omega) rfl; omega, HW.out.trans ((below_regrown _ _ _).mono HW.out.size)⟩
      · go_roundw
        case rel => exact ⟨k + 1, by omega, by go_num, HW.out.trans ((below_regrown _ _ _).mono HW.out.size), fun i h hik j hj e => by
          by_cases q : i = k + 1
          · subst q; obtain rfl : j = k := by omega
            omega
          · exact HU.out i h (by omega) j hj e⟩
        case measure => simp [intOf]; omega
    · go_wp2_with fail
      go_ret
      exact ⟨true, rfl, by simp only [true_iff]; exact fun i h hk' j hj e => HU.out i h (by omega) j hj e, HW.out⟩
end Go.Proofs.Ytjijichgoodocaa

/- Whether the keys of objects ascend, as the program asks it. -/
namespace Go.Proofs.Ytjijichgoodocaa
open Go.RowKit

def ObjsUp (os : List ObjD) (k : Nat) : Prop := ∀ i (h : i < os.length), i < k → ∀ j (hj : j < os.length), j + 1 = i → (Op.bytesLess os[i].key.toList os[j].key.toList || os[i].key.toList == os[j].key.toList) = false

set_option maxHeartbeats 1000000 in
theorem objAscends_any (a : Option Addr) (os : List ObjD) (cap : Nat) (w : World) (hv : ObjsIn w a os) (hn : os.length ≤ maxLen) :
    Calls Try.prog 88 #[.slice a os.length cap] w (BoolPost (ObjsUp os os.length) w) := by
  unfold maxLen at hn
  have HV := Lib.hid hv
  clear hv
  go_enter Try.func88, Try.ntmps88
  go_wp2_with fail
  go_loopw [3] (fun i wr => ∃ k : Nat, k ≤ os.length ∧ i = .int .i64 (↑k + 1) ∧ Below w.heap.size w wr ∧ ObjsUp os (k + 1)) (fun i _ => os.length + 1 - (intOf i).toNat)
  case atStart => exact ⟨0, Nat.zero_le _, rfl, Below.refl _ _, fun i h hk j hj e => by omega⟩
  case round =>
    obtain ⟨k, hk, rfl, hB, hU⟩ := hrel
    have HW := Lib.hid hB
    have HU := Lib.hid hU
    clear hB hU
    by_cases hlt : k + 1 < os.length
    · rcases HV.out.below HW.out with hnil | ⟨b1, o1, rfl, hb1, hc1⟩
      · rw [hnil] at hlt; simp at hlt
      obtain ⟨c0, c1, c2⟩ := hc1 (k + 1) hlt
      obtain ⟨d0, d1, d2⟩ := hc1 k (by omega)
      have y0 := cell_regrown c0
      have y1 := cell_regrown c1
      have x0 := cell_regrown d0
      have x1 := cell_regrown d1
      clear hc1 c2 d2
      have hwk : IntKind.i64.wrap (k : Int) = (k : Int) := by rw [IntKind.wrap_i64]; omega
      have m1 := meth_rank_obj os[k + 1].key os[k + 1].at_ os[k + 1].vers.length os[k + 1].cap
      have m2 := meth_rank_obj os[k].key os[k].at_ os[k].vers.length os[k].cap
      have HO := Lib.hid (bytesLess_le os[k + 1].key.toList os[k].key.toList)
      cases hO : Op.bytesLess os[k].key.toList os[k + 1].key.toList
      all_goals
        go_wp2_with fail
        refine wp_region_quiet_below (by kernel_rfl) (by kernel_rfl) ?_
        repeat (go_big_quiet_step ((go_at_call 234; exact Calls.regrown_of (objRank_any _ _ _ _ _))))
        refine wpQuiet_nil ?_
        intro _ hw'
        obtain ⟨⟨dq, osq⟩, hw''⟩ := hw'
        subst hw''
        clear m1 m2
        go_wp2_with fail
      · go_ret
        exact ⟨false, rfl, by simp only [Bool.false_eq_true, false_iff]; intro h; have := h (k + 1) hlt hlt k (by omega) rfl; rw [HO.out, hO] at this; exact absurd this (by decide), HW.out.trans ((below_regrown _ _ _).mono HW.out.size)⟩
      · go_roundw
        case rel => exact ⟨k + 1, by omega, by go_num, HW.out.trans ((below_regrown _ _ _).mono HW.out.size), fun i h hik j hj e => by
          by_cases q : i = k + 1
          · subst q; obtain rfl : j = k := by omega
            rw [HO.out, hO]; rfl
          · exact HU.out i h (by omega) j hj e⟩
        case measure => simp [intOf]; omega
    · go_wp2_with fail
      go_ret
      exact ⟨true, rfl, by simp only [true_iff]; exact fun i h hk' j hj e => HU.out i h (by omega) j hj e, HW.out⟩
end Go.Proofs.Ytjijichgoodocaa
