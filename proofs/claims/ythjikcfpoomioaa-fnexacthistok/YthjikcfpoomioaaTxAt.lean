/- Transactions in memory that belong to a call: where they lie, copies, equality, marks. -/
import Derived.Test.YthjikcfpoomioaaTx
import Derived.Test.YthjikcfpoomioaaMkWant
import Derived.Test.YthjikcfpoomioaaMkWrite
import Derived.Test.YthjikcfpoomioaaLie
namespace Go.Proofs.Ythjikcfpoomioaa
open Go.RowKit

structure TxAt (w : World) (lo hi : Nat) (a1 a2 : Option Addr) (ws : List WantD) (us : List WriteD) : Prop where
  in1 : WantsIn w a1 ws
  in2 : WritesIn w a2 us
  fr1 : Free w a1 (ws.length * 2)
  fr2 : Free w a2 (us.length * 3)
  l1 : Lies lo hi a1
  l2 : Lies lo hi a2
  ap : Apart a1 a2
  le : hi ≤ w.heap.size

theorem TxAt.below {w w' : World} {lo hi : Nat} {a1 a2 : Option Addr} {ws : List WantD} {us : List WriteD} (h : TxAt w lo hi a1 a2 ws us) (hb : Below w.heap.size w w') : TxAt w' lo hi a1 a2 ws us :=
  ⟨h.in1.below hb, h.in2.below hb, h.fr1.below hb, h.fr2.below hb, h.l1, h.l2, h.ap, Nat.le_trans h.le hb.size⟩
theorem TxAt.turned {S : Nat → Prop} {w w' : World} {lo hi : Nat} {a1 a2 : Option Addr} {ws : List WantD} {us : List WriteD} (h : TxAt w lo hi a1 a2 ws us) (hS : ∀ b, lo ≤ b → b < hi → ¬ S b) (ht : Turned S w w') : TxAt w' lo hi a1 a2 ws us :=
  ⟨h.in1.turned (h.l1.off hS) ht, h.in2.turned (h.l2.off hS) ht, h.fr1.turned (h.l1.off hS) ht, h.fr2.turned (h.l2.off hS) ht, h.l1, h.l2, h.ap, Nat.le_trans h.le ht.size⟩
theorem TxAt.drewAt {w : World} {lo hi : Nat} {a1 a2 : Option Addr} {ws : List WantD} {us : List WriteD} (h : TxAt w lo hi a1 a2 ws us) : TxAt w.drew lo hi a1 a2 ws us := ⟨h.in1, h.in2, h.fr1, h.fr2, h.l1, h.l2, h.ap, h.le⟩

/-- A call hands back a transaction of its own. -/
def TxOut (id : Int) (ws : List WantD) (us : List WriteD) (w : World) (e : Ending) (w' : World) : Prop :=
  ∃ a1 a2 c1 c2, e = .returned (.agg #[.int .i64 id, .slice a1 ws.length c1, .slice a2 us.length c2]) ∧ TxAt w' w.heap.size w'.heap.size a1 a2 ws us ∧ Below w.heap.size w w'

theorem toTxn_at (id : Int) (a1 a2 : Option Addr) (ws : List WantD) (us : List WriteD) (k1 k2 : Nat) (w : World) (hv : WantsIn w a1 ws) (hu : WritesIn w a2 us) (hn : ws.length ≤ 1048576) (hm : us.length ≤ 1048576) :
    Calls Try.prog 58 #[.agg #[.int .i64 id, .slice a1 ws.length k1, .slice a2 us.length k2]] w (TxOut id ws us w) :=
  (toTxn_any id a1 a2 ws us k1 k2 w hv hu hn hm).mono fun e w' ⟨g1, g2, h1, h2, h12, he, i1, i2, f1, f2, hb, hlt⟩ =>
    ⟨_, _, _, _, he, ⟨i1, i2, f1, f2, (fun b off e => by cases e; exact ⟨h1, by omega⟩), (fun b off e => by cases e; exact ⟨h2, hlt⟩), (fun x o y p e1 e2 => by cases e1; cases e2; omega), Nat.le_refl _⟩, hb⟩

theorem eqTxn_at (id : Int) {a1 a2 b1 b2 : Option Addr} {ws : List WantD} {us : List WriteD} {k1 k2 l1 l2 lo hi lo' hi' : Nat} {w : World} (ha : TxAt w lo hi a1 a2 ws us) (hb : TxAt w lo' hi' b1 b2 ws us) (hn : ws.length ≤ maxLen) (hm : us.length ≤ maxLen) :
    Calls Try.prog 61 #[.agg #[.int .i64 id, .slice a1 ws.length k1, .slice a2 us.length k2], .agg #[.int .i64 id, .slice b1 ws.length l1, .slice b2 us.length l2]] w fun e w' => e = .returned (.bool true) ∧ Below w.heap.size w w' :=
  eqTxn_same id a1 a2 b1 b2 ws us k1 k2 l1 l2 _ _ w rfl rfl ha.in1 hb.in1 ha.in2 hb.in2 hn hm

/-- The call has marked a transaction. -/
def TxMarked (lo hi : Nat) (a1 a2 : Option Addr) (k n m : Nat) (w : World) (e : Ending) (w' : World) : Prop :=
  e = .returned (.int .i64 ((k + n * 2 + m * 3 : Nat) : Int)) ∧ TxAt w' lo hi a1 a2 (Wantmarks k n) (Writemarks (k + n * 2) m) ∧ Turned (fun b => lo ≤ b ∧ b < hi) w w'

set_option maxHeartbeats 1000000 in
theorem markTxn_at (id : Int) {a1 a2 : Option Addr} {ws : List WantD} {us : List WriteD} {n m c1 c2 lo hi k : Nat} {w : World} (h1 : ws.length = n) (h2 : us.length = m) (h : TxAt w lo hi a1 a2 ws us) (hk : 1 ≤ k) (hkn : k + n * 2 + m * 3 ≤ 100000000) :
    Calls Try.prog 62 #[.agg #[.int .i64 id, .slice a1 n c1, .slice a2 m c2], .int .i64 (k : Int)] w (TxMarked lo hi a1 a2 k n m w) := by
  subst h1 h2
  obtain ⟨i1, i2, f1, f2, l1, l2, ap, hle⟩ := h
  have F1 := Lib.hid f1
  have F2 := Lib.hid f2
  have L1 := Lib.hid l1
  have L2 := Lib.hid l2
  have AP := Lib.hid ap
  clear i1 i2 f1 f2 l1 l2 ap
  have hb0 : Below w.heap.size w (w.alloc (.cells #[.int .i64 id, .slice a1 ws.length c1, .slice a2 us.length c2] 93)) := (Below.refl _ _).alloc (Nat.le_refl _) _
  go_enter Try.func62, Try.ntmps62
  go_wp2_with fail
  refine (markWantS_any (fun b => ∃ off, a1 = some ⟨b, off, none⟩) a1 ws.length c1 k _ (F1.out.below hb0) (fun b off e => ⟨off, e⟩) hk (by omega)).mono ?_
  rintro e w2 ⟨rfl, h1, h2, h3⟩
  have x2 := h3.cell (p := ⟨w.heap.size, 2, none⟩) (by simp) (fun ⟨off, e⟩ => by have := (L1.out _ _ e).2; simp at this; omega)
  simp [go_sem] at x2
  have H1 := Lib.hid h1
  have H2 := Lib.hid h2
  have H3 := Lib.hid h3
  have G2 := Lib.hid ((F2.out.below hb0).turned (fun b off e ⟨o, e'⟩ => AP.out _ _ _ _ e' e rfl) h3)
  clear h1 h2 h3
  go_wp2_with fail
  refine (markWriteS_any (fun b => ∃ off, a2 = some ⟨b, off, none⟩) a2 us.length c2 (k + ws.length * 2) _ G2.out (fun b off e => ⟨off, e⟩) (by omega) (by omega)).mono ?_
  rintro e w3 ⟨rfl, h4, h5, h6⟩
  have H4 := Lib.hid h4
  have H5 := Lib.hid h5
  have H6 := Lib.hid h6
  clear h4 h5 h6
  go_wp2_with fail
  go_ret
  have off1 : OffS (fun b => ∃ off, a2 = some ⟨b, off, none⟩) a1 := fun b off e ⟨o, e'⟩ => AP.out _ _ _ _ e e' rfl
  refine ⟨rfl, ⟨H1.out.turned off1 H6.out, H4.out, ?_, ?_, L1.out, L2.out, AP.out, Nat.le_trans hle (Nat.le_trans hb0.size (Nat.le_trans H3.out.size H6.out.size))⟩, ?_⟩
  · rw [Wantmarks_length]; exact H2.out.turned off1 H6.out
  · rw [Writemarks_length]; exact H5.out
  · exact ((Turned.of_below hb0).trans (H3.out.mono fun b _ ⟨o, e⟩ => L1.out _ _ e)).trans (H6.out.mono fun b _ ⟨o, e⟩ => L2.out _ _ e)

def wantCells (v : WantD) : List Value := [.string v.f0, .int .i64 v.f1]
def writeCells (v : WriteD) : List Value := [.string v.f0, .string v.f1, .bool v.f2]
theorem own_wants {w : World} {base : Nat} {v : Value} {vs : List WantD} (h : w.ownsRow base 221 2 v vs.length (vs.flatMap wantCells)) :
    ∃ a cap, v = .slice a vs.length cap ∧ WantsIn w a vs ∧ Free w a (vs.length * 2) ∧ Lies base w.heap.size a ∧ ∀ b off, a = some ⟨b, off, none⟩ → v.ownBlock = some b := by
  rcases Joins.ownsRow_forms h with ⟨rfl, h0⟩ | ⟨g, cap, rfl⟩
  · have : vs = [] := List.eq_nil_of_length_eq_zero h0
    subst this
    exact ⟨none, 0, rfl, .inl rfl, .inl rfl, (fun b off e => by cases e), (fun b off e => by cases e)⟩
  · have hg := h.lt g rfl
    refine ⟨some ⟨g, 0, none⟩, cap, rfl, .inr ⟨g, 0, rfl, hg.2, fun i hi => ?_⟩, own_free h, (fun b off e => by cases e; exact hg), (fun b off e => by cases e; rfl)⟩
    have e0 := h.cellAt (i * 2) (by omega)
    have e1 := h.cellAt (i * 2 + 1) (by omega)
    have f0 := flat_at wantCells 2 (fun _ => rfl) vs i 0 hi (by omega)
    have f1 := flat_at wantCells 2 (fun _ => rfl) vs i 1 hi (by omega)
    rw [Nat.add_zero] at f0
    simp only [Nat.zero_add]
    exact ⟨e0.trans f0, e1.trans f1⟩
theorem own_writes {w : World} {base : Nat} {v : Value} {vs : List WriteD} (h : w.ownsRow base 220 3 v vs.length (vs.flatMap writeCells)) :
    ∃ a cap, v = .slice a vs.length cap ∧ WritesIn w a vs ∧ Free w a (vs.length * 3) ∧ Lies base w.heap.size a ∧ ∀ b off, a = some ⟨b, off, none⟩ → v.ownBlock = some b := by
  rcases Joins.ownsRow_forms h with ⟨rfl, h0⟩ | ⟨g, cap, rfl⟩
  · have : vs = [] := List.eq_nil_of_length_eq_zero h0
    subst this
    exact ⟨none, 0, rfl, .inl rfl, .inl rfl, (fun b off e => by cases e), (fun b off e => by cases e)⟩
  · have hg := h.lt g rfl
    refine ⟨some ⟨g, 0, none⟩, cap, rfl, .inr ⟨g, 0, rfl, hg.2, fun i hi => ?_⟩, own_free h, (fun b off e => by cases e; exact hg), (fun b off e => by cases e; rfl)⟩
    have e0 := h.cellAt (i * 3) (by omega)
    have e1 := h.cellAt (i * 3 + 1) (by omega)
    have e2 := h.cellAt (i * 3 + 2) (by omega)
    have f0 := flat_at writeCells 3 (fun _ => rfl) vs i 0 hi (by omega)
    have f1 := flat_at writeCells 3 (fun _ => rfl) vs i 1 hi (by omega)
    have f2 := flat_at writeCells 3 (fun _ => rfl) vs i 2 hi (by omega)
    rw [Nat.add_zero] at f0
    simp only [Nat.zero_add]
    exact ⟨e0.trans f0, e1.trans f1, e2.trans f2⟩
end Go.Proofs.Ythjikcfpoomioaa
