/- What is seen of a key as of a number: the plain answer, and that a search in order finds it. -/
import Derived.Test.YtjijichgoodocaaAt
import Derived.Test.YtjijichgoodocaaVmSpec
import Derived.Test.YtjijichgoodocaaIterV
import Derived.Deep.RegionWith
import Derived.Deep.RegionHeld3
import Derived.Deep.QuietTactic
import Derived.BigQuiet
namespace Go.Proofs.Ytjijichgoodocaa
open Go.RowKit

theorem VersUp.lt {vs : List VerD} (h : VersUp vs vs.length) : ∀ (d i : Nat) (hi : i < vs.length) (hj : i + d + 1 < vs.length), vs[i].id < vs[i + d + 1].id
  | 0, i, hi, hj => h (i + 1) hj hj i hi rfl
  | d + 1, i, hi, hj => by
    have h1 := VersUp.lt h d i hi (by omega)
    have h2 := h (i + (d + 1) + 1) hj hj (i + d + 1) (by omega) (by omega)
    omega
theorem VersUp.mono {vs : List VerD} (h : VersUp vs vs.length) {i j : Nat} (hi : i < vs.length) (hj : j < vs.length) (hij : i < j) : vs[i].id < vs[j].id := by
  obtain ⟨d, rfl⟩ : ∃ d, j = i + d + 1 := ⟨j - i - 1, by omega⟩
  exact h.lt d i hi hj
theorem less_iff (x y : List UInt8) : Op.bytesLess x y = true ↔ x < y := by rw [bytesLess_eq]; simp
theorem ObjsUp.next {os : List ObjD} (h : ObjsUp os os.length) {i : Nat} (hi : i + 1 < os.length) : os[i].key.toList < os[i + 1].key.toList := by
  have := h (i + 1) hi hi i (by omega) rfl
  rw [bytesLess_le] at this
  rw [← less_iff]
  simpa using this
theorem ObjsUp.lt {os : List ObjD} (h : ObjsUp os os.length) : ∀ (d i : Nat) (hi : i < os.length) (hj : i + d + 1 < os.length), os[i].key.toList < os[i + d + 1].key.toList
  | 0, i, hi, hj => h.next hj
  | d + 1, i, hi, hj => List.lt_trans (ObjsUp.lt h d i hi (by omega)) (h.next (i := i + d + 1) (by omega))
theorem ObjsUp.mono {os : List ObjD} (h : ObjsUp os os.length) {i j : Nat} (hi : i < os.length) (hj : j < os.length) (hij : i < j) : os[i].key.toList < os[j].key.toList := by
  obtain ⟨d, rfl⟩ : ∃ d, j = i + d + 1 := ⟨j - i - 1, by omega⟩
  exact h.lt d i hi hj

/-- The newest version that is no later. -/
def upF (vs : List VerD) (id : Int) : Option VerD := (vs.filter fun v => decide (v.id ≤ id)).getLast?
def seenF (vs : List VerD) (id : Int) : Option VerD := (upF vs id).bind fun v => if v.gone then none else some v
def keyF (os : List ObjD) (key : ByteArray) : Option ObjD := os.find? fun o => o.key.toList == key.toList
def atF (os : List ObjD) (key : ByteArray) (id : Int) : Option VerD := (keyF os key).bind fun o => seenF o.vers id

theorem filter_take (vs : List VerD) (p : VerD → Bool) (r : Nat) (h1 : ∀ i (h : i < vs.length), i < r → p vs[i] = true) (h2 : ∀ i (h : i < vs.length), r ≤ i → p vs[i] = false) : vs.filter p = vs.take r := by
  have e : vs = vs.take r ++ vs.drop r := (List.take_append_drop r vs).symm
  conv => lhs; rw [e]
  rw [List.filter_append]
  have f1 : (vs.take r).filter p = vs.take r := by
    rw [List.filter_eq_self]
    intro x hx
    obtain ⟨i, hi, rfl⟩ := List.getElem_of_mem hx
    have hi' : i < vs.length ∧ i < r := by simp at hi; omega
    rw [List.getElem_take]
    exact h1 i hi'.1 hi'.2
  have f2 : (vs.drop r).filter p = [] := by
    rw [List.filter_eq_nil_iff]
    intro x hx
    obtain ⟨i, hi, rfl⟩ := List.getElem_of_mem hx
    have hi' : r + i < vs.length := by simp at hi; omega
    rw [List.getElem_drop, h2 (r + i) hi' (by omega)]
    decide
  rw [f1, f2, List.append_nil]
theorem last_take {α : Type} (xs : List α) (r : Nat) (h : r ≤ xs.length) : (xs.take r).getLast? = lastAt xs r := by
  cases r with
  | zero => rfl
  | succ q =>
    rw [lastAt_succ xs q (by omega), List.take_succ_eq_append_getElem (by omega), List.getLast?_append]
    simp
theorem cut_up {vs : List VerD} {id : Int} {r : Nat} (hu : VersUp vs vs.length) (hc : Cut (verP vs id) vs.length r) : lastAt vs r = upF vs id := by
  obtain ⟨hr, h0, h1⟩ := hc
  rw [upF, filter_take vs _ r, last_take vs r hr]
  · intro i hi hir
    have hk : r - 1 < vs.length := by omega
    have := h0 (r - 1) (by omega)
    rw [verP_at hk] at this
    have hle : vs[i].id ≤ vs[r - 1].id := by
      by_cases e : i = r - 1
      · subst e; exact Int.le_refl _
      · exact Int.le_of_lt (hu.mono hi hk (by omega))
    simp at this ⊢
    omega
  · intro i hi hir
    have hk : r < vs.length := by omega
    have := h1 hk
    rw [verP_at hk] at this
    have hle : vs[r].id ≤ vs[i].id := by
      by_cases e : i = r
      · subst e; exact Int.le_refl _
      · exact Int.le_of_lt (hu.mono hk hi (by omega))
    simp at this ⊢
    omega
theorem cut_seen {vs : List VerD} {id : Int} {r : Nat} (hu : VersUp vs vs.length) (hc : Cut (verP vs id) vs.length r) : seenAt vs r = seenF vs id := by
  rw [seenAt, seenF, cut_up hu hc]

theorem keyF_at {os : List ObjD} {key : ByteArray} (hu : ObjsUp os os.length) {k : Nat} (hk : k < os.length) (he : (os[k].key.toList == key.toList) = true) : keyF os key = some os[k] := by
  rw [keyF, List.find?_eq_some_iff_getElem]
  refine ⟨he, k, hk, rfl, fun j hj => ?_⟩
  have := hu.mono (i := j) (j := k) (by omega) hk hj
  have e : os[k].key.toList = key.toList := by simpa using he
  rw [e] at this
  simp only [Bool.not_eq_true']
  rw [beq_eq_false_iff_ne]
  intro e2
  rw [e2] at this
  exact List.lt_irrefl _ this
theorem keyF_none {os : List ObjD} {key : ByteArray} (h : ∀ i (hi : i < os.length), (os[i].key.toList == key.toList) = false) : keyF os key = none := by
  rw [keyF, List.find?_eq_none]
  intro o ho
  obtain ⟨i, hi, rfl⟩ := List.getElem_of_mem ho
  rw [h i hi]
  decide
theorem cut_found {os : List ObjD} {key : ByteArray} {r : Nat} (hu : ObjsUp os os.length) (hc : Cut (objP os key) os.length r) : foundAt os key r = keyF os key := by
  obtain ⟨hr, h0, h1⟩ := hc
  have ne_of_lt : ∀ {x y : List UInt8}, x < y → (x == y) = false := fun h => by
    rw [beq_eq_false_iff_ne]; intro e; rw [e] at h; exact List.lt_irrefl _ h
  have hi1 : ∀ i (hi : i < os.length), r ≤ i → (os[i].key.toList == key.toList) = false := by
    intro i hi hir
    have hk : r < os.length := by omega
    have := h1 hk
    rw [objP_at hk, less_iff] at this
    have hlt : key.toList < os[i].key.toList := by
      by_cases e : i = r
      · subst e; exact this
      · exact List.lt_trans this (hu.mono hk hi (by omega))
    rw [beq_eq_false_iff_ne]; intro e; rw [e] at hlt; exact List.lt_irrefl _ hlt
  cases r with
  | zero =>
    rw [keyF_none fun i hi => hi1 i hi (Nat.zero_le _)]
    rfl
  | succ q =>
    have hq : q < os.length := by omega
    cases he : (os[q].key.toList == key.toList)
    · rw [found_no hq he, keyF_none]
      intro i hi
      by_cases hiq : q < i
      · exact hi1 i hi (by omega)
      · by_cases e : i = q
        · subst e; exact he
        · have a1 := hu.mono hi hq (by omega)
          have a2 := h0 q rfl
          rw [objP_at hq] at a2
          have a3 : ¬ key.toList < os[q].key.toList := by rw [← less_iff, a2]; decide
          rw [beq_eq_false_iff_ne]
          intro e2
          rw [e2] at a1
          exact a3 a1
    · rw [found_yes hq he, keyF_at hu hq he]
end Go.Proofs.Ytjijichgoodocaa

/- When a question of a listing is ok: the model and the program say the same; its size and its copy. -/
namespace Go.Proofs.Ytjijichgoodocaa
open Go.RowKit

theorem bcell {W w1 : World} (hb : Below W.heap.size W w1) : (∀ b o, b < W.heap.size → w1.cell? ⟨b, o, none⟩ = W.cell? ⟨b, o, none⟩) ∧ (∀ b o, b < W.heap.size → w1.frozen? ⟨b, o, none⟩ = W.frozen? ⟨b, o, none⟩) :=
  ⟨fun b o h => hb.cell (p := ⟨b, o, none⟩) h, fun b o h => hb.frozen (p := ⟨b, o, none⟩) h⟩
def askOkB (h a : ByteArray) (m : Int) : Bool := okB keyB 6 h && (okB keyB 6 a && inB m 1 5)
end Go.Proofs.Ytjijichgoodocaa

/- Contracts of the functions on spans: each returns just what the plain Lean function of the same bytes says, and turns nothing that was in memory. -/
namespace Go.Proofs.Ytjijichgoodocaa
open Go.RowKit

def spanOkB (lo hi : ByteArray) : Bool := okB keyB 6 lo && okB keyB 6 hi && (hi.toList.isEmpty || Op.bytesLess lo.toList hi.toList)
def hasB (lo hi key : ByteArray) : Bool := !(Op.bytesLess key.toList lo.toList) && (hi.toList.isEmpty || Op.bytesLess key.toList hi.toList)

set_option maxHeartbeats 400000 in
theorem l1SpanOk_any (lo hi : ByteArray) (w : World) (hlo : lo.size ≤ maxLen) (hhi : hi.size ≤ maxLen) :
    Calls Try.prog 94 #[.agg #[.string lo, .string hi]] w fun e w' => e = .returned (.bool (spanOkB lo hi)) ∧ Below w.heap.size w w' := by
  cases h1 : okB keyB 6 lo
  · go_enter Try.func94, Try.ntmps94
    go_wp2_with (go_at_call 137; refine (l1Part_any _ _ (by assumption)).mono ?_; rintro e w' ⟨rfl, rfl⟩)
    go_ret
    exact ⟨ret_bool (by simp [spanOkB, h1]), (Below.refl _ _).alloc (Nat.le_refl _) _⟩
  · cases h2 : okB keyB 6 hi
    · go_enter Try.func94, Try.ntmps94
      go_wp2_with (go_at_call 137; refine (l1Part_any _ _ (by assumption)).mono ?_; rintro e w' ⟨rfl, rfl⟩)
      go_ret
      exact ⟨ret_bool (by simp [spanOkB, h1, h2]), (Below.refl _ _).alloc (Nat.le_refl _) _⟩
    · cases h3 : hi.toList.isEmpty
      all_goals
        go_enter Try.func94, Try.ntmps94
        go_wp2_with (go_at_call 137; refine (l1Part_any _ _ (by assumption)).mono ?_; rintro e w' ⟨rfl, rfl⟩)
        go_ret
        exact ⟨ret_bool (by simp [spanOkB, h1, h2, h3]), (Below.refl _ _).alloc (Nat.le_refl _) _⟩

set_option maxHeartbeats 400000 in
theorem l1Has_any (lo hi key : ByteArray) (w : World) :
    Calls Try.prog 117 #[.agg #[.string lo, .string hi], .string key] w fun e w' => e = .returned (.bool (hasB lo hi key)) ∧ Below w.heap.size w w' := by
  cases h1 : Op.bytesLess key.toList lo.toList
  · cases h3 : hi.toList.isEmpty
    all_goals
      go_enter Try.func117, Try.ntmps117
      go_wp2
      go_ret
      exact ⟨ret_bool (by simp [hasB, h1, h3]), (Below.refl _ _).alloc (Nat.le_refl _) _⟩
  · go_enter Try.func117, Try.ntmps117
    go_wp2
    go_ret
    exact ⟨ret_bool (by simp [hasB, h1]), (Below.refl _ _).alloc (Nat.le_refl _) _⟩

set_option maxHeartbeats 400000 in
theorem end_open (lo hi : ByteArray) (w : World) (h : hi.toList.isEmpty = true) :
    Calls Try.prog 97 #[.agg #[.string lo, .string hi]] w fun e w' => e = .returned (.iface 182 (.agg #[])) ∧ Below w.heap.size w w' := by
  go_enter Try.func97, Try.ntmps97
  go_wp2
  go_ret
  exact ⟨rfl, (Below.refl _ _).alloc (Nat.le_refl _) _⟩

set_option maxHeartbeats 400000 in
theorem end_key (lo hi : ByteArray) (w : World) (h : hi.toList.isEmpty = false) :
    Calls Try.prog 97 #[.agg #[.string lo, .string hi]] w fun e w' => e = .returned (.iface 183 (.string hi)) ∧ Below w.heap.size w w' := by
  go_enter Try.func97, Try.ntmps97
  go_wp2
  go_ret
  exact ⟨rfl, (Below.refl _ _).alloc (Nat.le_refl _) _⟩

set_option maxHeartbeats 400000 in
theorem open_behind (key : ByteArray) (w : World) :
    Calls Try.prog 246 #[.agg #[], .string key] w fun e w' => e = .returned (.bool true) ∧ Below w.heap.size w w' := by
  go_enter Try.func246, Try.ntmps246
  go_wp2
  go_ret
  exact ⟨rfl, (Below.refl _ _).alloc (Nat.le_refl _) _⟩

set_option maxHeartbeats 400000 in
theorem key_behind (e1 key : ByteArray) (w : World) :
    Calls Try.prog 249 #[.string e1, .string key] w fun e w' => e = .returned (.bool (Op.bytesLess key.toList e1.toList)) ∧ w = w' := by
  go_enter Try.func249, Try.ntmps249
  go_wp2
  go_ret
  exact ⟨rfl, rfl⟩

theorem meth_behind_key (e1 : ByteArray) (w : World) : (method 374 183 (.string e1) "loop.example/cadastre/impl.behind").run Try.prog w = .ok (249, .string e1) w := by kernel_rfl
theorem meth_behind_open (w : World) : (method 374 182 (.agg #[]) "loop.example/cadastre/impl.behind").run Try.prog w = .ok (246, .agg #[]) w := by kernel_rfl

set_option maxHeartbeats 400000 in
theorem has_any (lo hi key : ByteArray) (w : World) :
    Calls Try.prog 98 #[.agg #[.string lo, .string hi], .string key] w fun e w' => e = .returned (.bool (hasB lo hi key)) ∧ Below w.heap.size w w' := by
  have hle := bytesLess_le lo.toList key.toList
  cases h1 : Op.bytesLess key.toList lo.toList
  · cases h3 : hi.toList.isEmpty
    · have hfin : Hid (hasB lo hi key = Op.bytesLess key.toList hi.toList) := by show _ = _; simp [hasB, h1, h3]
      have mk := meth_behind_key hi
      rw [h1] at hle
      clear h1
      go_enter Try.func98, Try.ntmps98
      go_wp2_with (first | (go_at_call 97; refine (end_key _ _ _ h3).mono ?_; rintro e w' ⟨rfl, hb⟩) | (go_at_call 249; refine (key_behind _ _ _).mono ?_; rintro e w' ⟨rfl, rfl⟩))
      go_ret
      exact ⟨ret_bool (by rw [hfin.out]), ((Below.refl _ _).alloc (Nat.le_refl _) _).trans (hb.mono (by simp))⟩
    · have hfin : Hid (hasB lo hi key = true) := by show _ = _; simp [hasB, h1, h3]
      have mk := meth_behind_open
      rw [h1] at hle
      clear h1
      go_enter Try.func98, Try.ntmps98
      go_wp2_with (first | (go_at_call 97; refine (end_open _ _ _ h3).mono ?_; rintro e w' ⟨rfl, hb⟩) | (go_at_call 246; refine (open_behind _ _).mono ?_; rintro e w'' ⟨rfl, hb2⟩))
      go_ret
      exact ⟨ret_bool (by rw [hfin.out]), (((Below.refl _ _).alloc (Nat.le_refl _) _).trans (hb.mono (by simp))).trans (hb2.mono (by have := hb.size; simp at this; omega))⟩
  · have hfin : Hid (hasB lo hi key = false) := by show _ = _; simp [hasB, h1]
    rw [h1] at hle
    clear h1
    go_enter Try.func98, Try.ntmps98
    go_wp2_with fail
    go_ret
    exact ⟨ret_bool (by rw [hfin.out]), (Below.refl _ _).alloc (Nat.le_refl _) _⟩

theorem prefixOk_is {s : ByteArray} {b : Bool} (h : okB keyB 6 s = b) (hs : s.size ≤ maxLen) (w : World) :
    Calls Try.prog 96 #[.string s] w fun e w' => e = .returned (.bool b) ∧ w = w' := by rw [← h]; exact prefixOk_any s w hs

theorem prefixOk_q {s : ByteArray} {b : Bool} (h : okB keyB 6 s = b) (hs : s.size ≤ maxLen) (w : World) :
    Calls Try.prog 96 #[.string s] w fun e w' => e = .returned (.bool b) ∧ w' = w := (prefixOk_is h hs w).mono fun _ _ ⟨a, b⟩ => ⟨a, b.symm⟩

set_option maxHeartbeats 1000000 in
theorem spanOk_any (lo hi : ByteArray) (w : World) (hlo : lo.size ≤ maxLen) (hhi : hi.size ≤ maxLen) :
    Calls Try.prog 30 #[.agg #[.string lo, .string hi]] w fun e w' => e = .returned (.bool (spanOkB lo hi)) ∧ Below w.heap.size w w' := by
  cases h1 : okB keyB 6 lo
  · have hfin : Hid (spanOkB lo hi = false) := by show _ = _; simp [spanOkB, h1]
    go_enter Try.func30, Try.ntmps30
    go_wp2_with fail
    go_quiet ((go_at_call 96; exact Calls.quiet_of_same (prefixOk_q h1 hlo _)))
    go_wp2_with fail
    go_ret
    exact ⟨ret_bool (by rw [hfin.out]), below_drewN ((Below.refl _ _).alloc (Nat.le_refl _) _) _⟩
  · cases h2 : okB keyB 6 hi
    · have hfin : Hid (spanOkB lo hi = false) := by show _ = _; simp [spanOkB, h2]
      go_enter Try.func30, Try.ntmps30
      go_wp2_with fail
      go_quiet ((go_at_call 96; (first | (with_reducible exact Calls.quiet_of_same (prefixOk_q h1 hlo _)) | (with_reducible exact Calls.quiet_of_same (prefixOk_q h2 hhi _)))))
      go_wp2_with fail
      go_ret
      exact ⟨ret_bool (by rw [hfin.out]), below_drewN ((Below.refl _ _).alloc (Nat.le_refl _) _) _⟩
    · cases h3 : hi.toList.isEmpty
      · have hfin : Hid (spanOkB lo hi = Op.bytesLess lo.toList hi.toList) := by show _ = _; simp [spanOkB, h1, h2, h3]
        have mk := meth_behind_key hi
        go_enter Try.func30, Try.ntmps30
        go_wp2_with fail
        go_region_with (first
          | (go_at_call 96; (first | (with_reducible refine (prefixOk_is h1 hlo _).mono ?_) | (with_reducible refine (prefixOk_is h2 hhi _).mono ?_)); rintro e w' ⟨rfl, rfl⟩)
          | (go_at_call 97; refine (end_key _ _ _ h3).mono ?_; rintro e w' ⟨rfl, hb⟩; obtain ⟨hc, hf⟩ := bcell hb)
          | (go_at_call 249; refine (key_behind _ _ _).mono ?_; rintro e w' ⟨rfl, rfl⟩))
        all_goals
          go_wp2_with fail
          go_ret
          exact ⟨ret_bool (by rw [hfin.out]), (((Below.refl _ _).alloc (Nat.le_refl _) _).drew).trans (hb.mono (by simp))⟩
      · have hfin : Hid (spanOkB lo hi = true) := by show _ = _; simp [spanOkB, h1, h2, h3]
        have mk := meth_behind_open
        go_enter Try.func30, Try.ntmps30
        go_wp2_with fail
        go_region_with (first
          | (go_at_call 96; (first | (with_reducible refine (prefixOk_is h1 hlo _).mono ?_) | (with_reducible refine (prefixOk_is h2 hhi _).mono ?_)); rintro e w' ⟨rfl, rfl⟩)
          | (go_at_call 97; refine (end_open _ _ _ h3).mono ?_; rintro e w' ⟨rfl, hb⟩; obtain ⟨hc, hf⟩ := bcell hb)
          | (go_at_call 246; refine (open_behind _ _).mono ?_; rintro e w'' ⟨rfl, hb2⟩))
        all_goals
          go_wp2_with fail
          go_ret
          exact ⟨ret_bool (by rw [hfin.out]), ((((Below.refl _ _).alloc (Nat.le_refl _) _).drew).trans (hb.mono (by simp))).trans (hb2.mono (by have := hb.size; simp at this; omega))⟩
end Go.Proofs.Ytjijichgoodocaa
