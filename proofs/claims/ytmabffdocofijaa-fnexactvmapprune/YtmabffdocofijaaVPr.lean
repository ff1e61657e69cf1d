/- Maps without old versions, the model's function. -/
import Derived.Test.YtmabffdocofijaaCpV
import Derived.Test.YtmabffdocofijaaVmF
namespace Go.Proofs.Ytmabffdocofijaa
open Go.RowKit Go.Sort

theorem step_append_verM {w : World} {ops : Array Oper} {o : Oper} {a : Act} {K : Act → World → Prop} {Q : Exit → Act → World → Prop} {E : Prop} (hgd : o.guard = none) (s x : Operand) (t : TypeId)
    (ho : o.op = .call { callee := .builtin .append, args := #[s, x], argTypes := #[t, t] }) (ht : Try.prog.underlying t = some (.slice 48))
    (base : Nat) (v : Value) (n : Nat) (xs : List Value) (hs : a.eval s = v) (hown : w.ownsRow base 48 3 v n xs)
    (p : Option Addr) (vs : List VerD) (m c : Nat) (hx : a.eval x = .slice p m c) (hm : vs.length = m) (hp : (∃ b off, p = some ⟨b, off, none⟩) ∨ p = none ∧ vs = [] ∧ c = 0) (hvs : VersIn w p vs) (hnm : n + m ≤ 2097152) (hbase : base ≤ w.heap.size) (hv : v ≠ .slice none 0 0)
    (h : ∀ g cap w', w'.ownsRow base 48 3 (.slice (some ⟨g, 0, none⟩) (n + m) cap) (n + m) (xs ++ vs.flatMap verCells) → w.grownBy w' v.ownBlock → K (a.put o.dst (.slice (some ⟨g, 0, none⟩) (n + m) cap)) w') :
    if Region.wanted o (yielded ops a.tmps) = true then Oper.wp Try.prog o a w K Q else E := by
  subst hm
  exact step_append_ver hgd s x t ho ht base v n xs hs hown p vs c hx hp hvs hnm hbase hv h
def verLe (vs : List VerD) (id : Int) (i : Nat) : Prop := ∃ h : i < vs.length, vs[i].id ≤ id
def fromN (id : Int) (vs : List VerD) : Nat → Nat
  | 0 => 0
  | j + 1 => if h : j < vs.length then (if vs[j].id ≤ id then j else fromN id vs j) else fromN id vs j
theorem fromN_yes {id : Int} {vs : List VerD} {j : Nat} (h : j < vs.length) (hp : vs[j].id ≤ id) : fromN id vs (j + 1) = j := by rw [fromN, dif_pos h, if_pos hp]
theorem fromN_no {id : Int} {vs : List VerD} {j : Nat} (h : j < vs.length) (hp : ¬ vs[j].id ≤ id) : fromN id vs (j + 1) = fromN id vs j := by rw [fromN, dif_pos h, if_neg hp]
theorem fromN_le (id : Int) (vs : List VerD) : ∀ j, fromN id vs j ≤ j
  | 0 => Nat.le_refl _
  | j + 1 => by
    have := fromN_le id vs j
    rw [fromN]
    split
    · split <;> omega
    · omega
theorem fromN_lt (id : Int) (vs : List VerD) (h0 : 0 < vs.length) : ∀ j, j ≤ vs.length → fromN id vs j < vs.length
  | 0, _ => by simpa [fromN] using h0
  | j + 1, hj => by
    have := fromN_lt id vs h0 j (by omega)
    rw [fromN]
    split
    · split
      · omega
      · exact this
    · exact this
theorem exists_cut {vs : List VerD} (hu : VersUp vs vs.length) (id : Int) : ∀ m, m ≤ vs.length → ∃ r, r ≤ m ∧ (∀ i (h : i < vs.length), i < r → vs[i].id ≤ id) ∧ (∀ i (h : i < vs.length), r ≤ i → i < m → ¬ vs[i].id ≤ id)
  | 0, _ => ⟨0, Nat.le_refl _, fun i _ h => absurd h (by omega), fun i _ _ h => absurd h (by omega)⟩
  | m + 1, hm => by
    obtain ⟨r, hr, h1, h2⟩ := exists_cut hu id m (by omega)
    by_cases hp : (vs[m]'(by omega)).id ≤ id
    · have hrm : r = m := by
        rcases Nat.lt_or_ge r m with q | q
        · have := hu.mono (i := r) (j := m) (by omega) (by omega) q
          exact absurd (show vs[r].id ≤ id by omega) (h2 r (by omega) (Nat.le_refl _) q)
        · omega
      subst hrm
      refine ⟨r + 1, Nat.le_refl _, fun i h hi => ?_, fun i h h3 h4 => by omega⟩
      by_cases e : i = r
      · subst e; exact hp
      · exact h1 i h (by omega)
    · refine ⟨r, by omega, h1, fun i h h3 h4 => ?_⟩
      by_cases e : i = m
      · subst e; exact hp
      · exact h2 i h h3 (by omega)
theorem from_unread {vs : List VerD} {id : Int} (hu : VersUp vs vs.length) (h0 : 0 < vs.length) (hlt : fromN id vs vs.length < vs.length) :
    (if vs[fromN id vs vs.length].id ≤ id ∧ vs[fromN id vs vs.length].gone = true then fromN id vs vs.length + 1 else fromN id vs vs.length) = unreadN id vs := by
  obtain ⟨r, hr, h1, h2⟩ := exists_cut hu id vs.length (Nat.le_refl _)
  have hc : Cut (verP vs id) vs.length r := by
    refine ⟨hr, fun k hk => ?_, fun hlt => ?_⟩
    · rw [verP_at (by omega : k < vs.length)]
      have := h1 k (by omega) (by omega)
      simp; omega
    · rw [verP_at hlt]
      have := h2 r hlt (Nat.le_refl _) hlt
      simp; omega
  have hf : ∀ j, j ≤ vs.length → fromN id vs j = min r j - 1 := by
    intro j
    induction j with
    | zero => intro _; simp [fromN]
    | succ j ih =>
      intro hj
      by_cases q : j < r
      · rw [fromN_yes (by omega) (h1 j (by omega) q)]; omega
      · rw [fromN_no (by omega) (h2 j (by omega) (by omega) (by omega)), ih (by omega)]; omega
  have hfn := hf vs.length (Nat.le_refl _)
  have hup := cut_upN hu hc
  have hla := cut_up hu hc
  unfold unreadN
  rw [← hla, ← hup]
  have hq : fromN id vs vs.length = r - 1 := by rw [hfn]; omega
  by_cases q : r = 0
  · subst q
    rw [lastAt_zero]
    have e : fromN id vs vs.length = 0 := by omega
    have hn := h2 0 h0 (Nat.le_refl _) h0
    simp only [e]
    rw [if_neg (fun h => hn h.1)]
  · obtain ⟨t, rfl⟩ : ∃ t, r = t + 1 := ⟨r - 1, by omega⟩
    have e : fromN id vs vs.length = t := by omega
    rw [lastAt_succ vs t (by omega)]
    have hp := h1 t (by omega) (by omega)
    simp only [e]
    by_cases g : vs[t].gone = true
    · rw [if_pos ⟨hp, g⟩, if_pos g]
    · rw [if_neg (fun h => g h.2), if_neg g]; omega
theorem from_unread2 {vs : List VerD} {id : Int} {F : Nat} (hu : VersUp vs vs.length) (h0 : 0 < vs.length) (hF : fromN id vs vs.length = F) (hlt : F < vs.length) :
    (if vs[F].id ≤ id ∧ vs[F].gone = true then F + 1 else F) = unreadN id vs := by
  subst hF; exact from_unread hu h0 hlt
def pruneIn (id : Int) (os : List ObjD) : List Kv := (os.map ObjD.kv).filterMap (pruneOne id)
theorem pruneIn_yes {id : Int} {pre : List ObjD} {o : ObjD} (h : unreadN id o.vers < o.vers.length) : pruneIn id (pre ++ [o]) = pruneIn id pre ++ [(o.key, o.vers.drop (unreadN id o.vers))] := by
  simp [pruneIn, pruneOne, ObjD.kv, h]
theorem pruneIn_no {id : Int} {pre : List ObjD} {o : ObjD} (h : ¬ unreadN id o.vers < o.vers.length) : pruneIn id (pre ++ [o]) = pruneIn id pre := by
  simp [pruneIn, pruneOne, ObjD.kv, h]
theorem pruneIn_len (id : Int) (os : List ObjD) : (pruneIn id os).length ≤ os.length := by
  have := List.length_filterMap_le (pruneOne id) (os.map ObjD.kv)
  simpa [pruneIn] using this

theorem keepV1 {c d : Nat} {o00 o10 : Nat} {x00 x10 : Value} {u v : World} (hb : Below u.heap.size u v) (h : u.cell? ⟨c, o00, none⟩ = some x00 ∧ u.cell? ⟨d, o10, none⟩ = some x10 ∧ c < u.heap.size ∧ d < u.heap.size) : v.cell? ⟨c, o00, none⟩ = some x00 ∧ v.cell? ⟨d, o10, none⟩ = some x10 ∧ c < v.heap.size ∧ d < v.heap.size := by
  obtain ⟨h0, h1, lc, ld⟩ := h
  exact ⟨(hb.cell (p := ⟨c, o00, none⟩) lc).trans h0, (hb.cell (p := ⟨d, o10, none⟩) ld).trans h1, Nat.lt_of_lt_of_le lc hb.size, Nat.lt_of_lt_of_le ld hb.size⟩
theorem keepV1_alloc {c d : Nat} {o00 o10 : Nat} {x00 x10 : Value} {u : World} {o : Obj} (h : u.cell? ⟨c, o00, none⟩ = some x00 ∧ u.cell? ⟨d, o10, none⟩ = some x10 ∧ c < u.heap.size ∧ d < u.heap.size) : (u.alloc o).cell? ⟨c, o00, none⟩ = some x00 ∧ (u.alloc o).cell? ⟨d, o10, none⟩ = some x10 ∧ c < (u.alloc o).heap.size ∧ d < (u.alloc o).heap.size := keepV1 ((Below.refl _ _).alloc (Nat.le_refl _) _) h
theorem keepV1_allocD {c d : Nat} {o00 o10 : Nat} {x00 x10 : Value} {u : World} {o : Obj} (h : u.drew.cell? ⟨c, o00, none⟩ = some x00 ∧ u.drew.cell? ⟨d, o10, none⟩ = some x10 ∧ c < u.drew.heap.size ∧ d < u.drew.heap.size) : (u.alloc o).drew.cell? ⟨c, o00, none⟩ = some x00 ∧ (u.alloc o).drew.cell? ⟨d, o10, none⟩ = some x10 ∧ c < (u.alloc o).drew.heap.size ∧ d < (u.alloc o).drew.heap.size := keepV1_alloc (u := u) h
theorem keepV1_far {c d : Nat} {o00 o10 : Nat} {x00 x10 : Value} {u v : World} {row : Option Nat} (hg : u.grownBy v row) (nc : some c ≠ row) (nd : some d ≠ row) (h : u.cell? ⟨c, o00, none⟩ = some x00 ∧ u.cell? ⟨d, o10, none⟩ = some x10 ∧ c < u.heap.size ∧ d < u.heap.size) : v.cell? ⟨c, o00, none⟩ = some x00 ∧ v.cell? ⟨d, o10, none⟩ = some x10 ∧ c < v.heap.size ∧ d < v.heap.size := by
  obtain ⟨h0, h1, lc, ld⟩ := h
  exact ⟨(hg.cell_far ⟨c, o00, none⟩ lc nc).trans h0, (hg.cell_far ⟨d, o10, none⟩ ld nd).trans h1, Nat.lt_of_lt_of_le lc hg.size, Nat.lt_of_lt_of_le ld hg.size⟩
theorem keepV1_set {c d g : Nat} {o00 o10 : Nat} {x00 x10 y : Value} {u : World} (nc : c ≠ g) (nd : d ≠ g) (h : u.cell? ⟨c, o00, none⟩ = some x00 ∧ u.cell? ⟨d, o10, none⟩ = some x10 ∧ c < u.heap.size ∧ d < u.heap.size) : (u.setCell ⟨g, 0, none⟩ y).cell? ⟨c, o00, none⟩ = some x00 ∧ (u.setCell ⟨g, 0, none⟩ y).cell? ⟨d, o10, none⟩ = some x10 ∧ c < (u.setCell ⟨g, 0, none⟩ y).heap.size ∧ d < (u.setCell ⟨g, 0, none⟩ y).heap.size := by
  obtain ⟨h0, h1, lc, ld⟩ := h
  have e : ∀ k, k ≠ g → ∀ o, (u.setCell ⟨g, 0, none⟩ y).cell? ⟨k, o, none⟩ = u.cell? ⟨k, o, none⟩ := fun k hk o => World.cell?_of_block (w := u) (a := ⟨k, o, none⟩) (Below.heap_setCell u ⟨g, 0, none⟩ y k hk)
  exact ⟨(e c nc _).trans h0, (e d nd _).trans h1, by simpa using lc, by simpa using ld⟩
end Go.Proofs.Ytmabffdocofijaa
