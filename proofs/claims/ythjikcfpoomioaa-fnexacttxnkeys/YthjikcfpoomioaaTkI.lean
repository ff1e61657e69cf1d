/- TxnKeys, as the program and as the model have it. -/
import Derived.Test.YthjikcfpoomioaaKeyS
import Derived.Test.YthjikcfpoomioaaAtStrs
import Derived.Test.YthjikcfpoomioaaTxOk
namespace Go.Proofs.Ythjikcfpoomioaa
open Go.RowKit Go.Sort

def TxnKeysRel (id : Int) (ws : List WantD) (us : List WriteD) (ks : List ByteArray) : Prop :=
  (TxnOkP id ws us ∧ ∃ R, KeysRel (txKeys ws us) R ∧ ks = R.map baOf) ∨ (¬ TxnOkP id ws us ∧ ks = [])
theorem TxnKeysRel.unique {id : Int} {ws : List WantD} {us : List WriteD} {ks ks' : List ByteArray} (h : TxnKeysRel id ws us ks) (g : TxnKeysRel id ws us ks') : ks = ks' := by
  rcases h with ⟨h1, R, h2, rfl⟩ | ⟨h1, rfl⟩ <;> rcases g with ⟨g1, R', g2, rfl⟩ | ⟨g1, rfl⟩
  · rw [h2.unique g2]
  · exact absurd h1 g1
  · exact absurd g1 h1
  · rfl
theorem nodup_len : ∀ (R all : List (List UInt8)), R.Pairwise (· < ·) → (∀ x ∈ R, x ∈ all) → R.length ≤ all.length
  | [], all, _, _ => by simp
  | r :: R, all, hp, hm => by
    rw [List.pairwise_cons] at hp
    have hr := hm r (by simp)
    have := nodup_len R (all.erase r) hp.2 fun x hx => by
      rw [List.mem_erase_of_ne]
      · exact hm x (by simp [hx])
      · intro e; subst e; exact absurd (hp.1 x hx) (List.lt_irrefl _)
    rw [List.length_erase_of_mem hr] at this
    have h0 : 0 < all.length := List.length_pos_of_mem hr
    rw [List.length_cons]
    omega
theorem TxnKeysRel.len {id : Int} {ws : List WantD} {us : List WriteD} {ks : List ByteArray} (h : TxnKeysRel id ws us ks) (hn : ws.length ≤ 1048576) (hm : us.length ≤ 1048576) : ks.length ≤ 2097152 := by
  rcases h with ⟨_, R, ⟨h1, h2⟩, rfl⟩ | ⟨_, rfl⟩
  · have := nodup_len R (txKeys ws us) h1 (fun x hx => (h2 x).1 hx)
    rw [txKeys_len] at this
    rw [List.length_map]; omega
  · simp
def TxnKeysPost (id : Int) (ws : List WantD) (us : List WriteD) (w : World) (e : Ending) (w' : World) : Prop := ∃ ks, TxnKeysRel id ws us ks ∧ StringsOut ks w e w'
theorem keysOut_post {id : Int} {ws : List WantD} {us : List WriteD} {w u w' : World} {e : Ending} (h : KeysOut (txKeys ws us) u e w') (ho : TxnOkP id ws us) (hB : Below w.heap.size w u) : TxnKeysPost id ws us w e w' := by
  obtain ⟨R, a, c, h1, h2, h3, h4, h5, h6⟩ := h
  exact ⟨R.map baOf, .inl ⟨ho, R, h1, rfl⟩, a, c, by rw [List.length_map]; exact h2, ⟨h3, by rw [List.length_map]; exact h4, h5.mono hB.size (Nat.le_refl _), Nat.le_refl _⟩, hB.trans (h6.mono hB.size)⟩

set_option maxRecDepth 100000 in
set_option maxHeartbeats 1000000 in
theorem txnKeys_any (id : Int) (a1 a2 : Option Addr) (ws : List WantD) (us : List WriteD) (k1 k2 : Nat) (w : World) (hv : WantsIn w a1 ws) (hu : WritesIn w a2 us) (hf : ∀ v ∈ ws, v.fits) (hg : ∀ v ∈ us, v.fits) (hn : ws.length ≤ 1048576) (hm : us.length ≤ 1048576) :
    Calls Try.prog 59 #[.agg #[.int .i64 id, .slice a1 ws.length k1, .slice a2 us.length k2]] w (TxnKeysPost id ws us w) := by
  have HV := Lib.hid hv
  have HU := Lib.hid hu
  have HF := Lib.hid hf
  have HG := Lib.hid hg
  clear hv hu hf hg
  obtain ⟨W1, hW1⟩ : ∃ W1, w.alloc (.cells #[.int .i64 id, .slice a1 ws.length k1, .slice a2 us.length k2] 93) = W1 := ⟨_, rfl⟩
  have B1 : Below w.heap.size w W1 := by rw [← hW1]; exact (Below.refl _ _).alloc (Nat.le_refl _) _
  have z1 : w.heap.size < W1.heap.size := by rw [← hW1]; simp
  have c0 : W1.cell? ⟨w.heap.size, 0, none⟩ = some (.int .i64 id) := by rw [← hW1]; simp [go_sem]
  have c1 : W1.cell? ⟨w.heap.size, 1, none⟩ = some (.slice a1 ws.length k1) := by rw [← hW1]; simp [go_sem]
  have c2 : W1.cell? ⟨w.heap.size, 2, none⟩ = some (.slice a2 us.length k2) := by rw [← hW1]; simp [go_sem]
  have HB := Lib.hid B1
  clear B1
  go_enter Try.func59, Try.ntmps59
  go_wp2_with fail
  clear hW1
  refine (txnOk_any id a1 a2 ws us k1 k2 _ (HV.out.below HB.out) (HU.out.below HB.out) HF.out HG.out hn hm).mono ?_
  rintro e w2 ⟨b, rfl, hb, hb2⟩
  have HI := Lib.hid hb
  replace c0 := (hb2.cell (p := ⟨w.heap.size, 0, none⟩) z1).trans c0
  replace c1 := (hb2.cell (p := ⟨w.heap.size, 1, none⟩) z1).trans c1
  replace c2 := (hb2.cell (p := ⟨w.heap.size, 2, none⟩) z1).trans c2
  have HB2 := Lib.hid (HB.out.trans (hb2.mono HB.out.size))
  clear hb hb2
  cases b
  · go_wp2_with fail
    go_ret
    exact ⟨[], .inr ⟨fun h => absurd (HI.out.2 h) (by decide), rfl⟩, none, 0, rfl, (StringsAt.nil w2).lower HB2.out.size, HB2.out⟩
  · have HY := Lib.hid (HI.out.1 (by simp))
    go_wp2_with fail
    refine (txKeys_any id a1 a2 ws us k1 k2 _ (HV.out.below HB2.out) (HU.out.below HB2.out) hn hm).mono ?_
    rintro e w3 hK
    have HK := Lib.hid (keysOut_post hK HY.out HB2.out)
    obtain ⟨R, a, c, -, rfl, -⟩ := hK
    go_wp2_with fail
    go_ret
    exact HK.out

set_option maxRecDepth 100000 in
set_option maxHeartbeats 1000000 in
theorem specTxnKeys_any (id : Int) (a1 a2 : Option Addr) (ws : List WantD) (us : List WriteD) (k1 k2 : Nat) (w : World) (hv : WantsIn w a1 ws) (hu : WritesIn w a2 us) (hf : ∀ v ∈ ws, v.fits) (hg : ∀ v ∈ us, v.fits) (hn : ws.length ≤ 1048576) (hm : us.length ≤ 1048576) :
    Calls Try.prog 57 #[.agg #[.int .i64 id, .slice a1 ws.length k1, .slice a2 us.length k2]] w (TxnKeysPost id ws us w) := by
  have HV := Lib.hid hv
  have HU := Lib.hid hu
  have HF := Lib.hid hf
  have HG := Lib.hid hg
  clear hv hu hf hg
  obtain ⟨W1, hW1⟩ : ∃ W1, w.alloc (.cells #[.int .i64 id, .slice a1 ws.length k1, .slice a2 us.length k2] 93) = W1 := ⟨_, rfl⟩
  have B1 : Below w.heap.size w W1 := by rw [← hW1]; exact (Below.refl _ _).alloc (Nat.le_refl _) _
  have z1 : w.heap.size < W1.heap.size := by rw [← hW1]; simp
  have c0 : W1.cell? ⟨w.heap.size, 0, none⟩ = some (.int .i64 id) := by rw [← hW1]; simp [go_sem]
  have c1 : W1.cell? ⟨w.heap.size, 1, none⟩ = some (.slice a1 ws.length k1) := by rw [← hW1]; simp [go_sem]
  have c2 : W1.cell? ⟨w.heap.size, 2, none⟩ = some (.slice a2 us.length k2) := by rw [← hW1]; simp [go_sem]
  have HB := Lib.hid B1
  clear B1
  go_enter Try.func57, Try.ntmps57
  go_wp2_with fail
  clear hW1
  refine (l4TxnOk_any id a1 a2 ws us k1 k2 _ (HV.out.below HB.out) (HU.out.below HB.out) HF.out HG.out hn hm).mono ?_
  rintro e w2 ⟨b, rfl, hb, hb2⟩
  have HI := Lib.hid hb
  replace c0 := (hb2.cell (p := ⟨w.heap.size, 0, none⟩) z1).trans c0
  replace c1 := (hb2.cell (p := ⟨w.heap.size, 1, none⟩) z1).trans c1
  replace c2 := (hb2.cell (p := ⟨w.heap.size, 2, none⟩) z1).trans c2
  have HB2 := Lib.hid (HB.out.trans (hb2.mono HB.out.size))
  clear hb hb2
  cases b
  · go_wp2_with fail
    go_ret
    exact ⟨[], .inr ⟨fun h => absurd (HI.out.2 h) (by decide), rfl⟩, none, 0, rfl, (StringsAt.nil w2).lower HB2.out.size, HB2.out⟩
  · have HY := Lib.hid (HI.out.1 (by simp))
    go_wp2_with fail
    refine (l4Keys_any id a1 a2 ws us k1 k2 _ (HV.out.below HB2.out) (HU.out.below HB2.out) hn hm).mono ?_
    rintro e w3 hK
    have HK := Lib.hid (keysOut_post hK HY.out HB2.out)
    obtain ⟨R, a, c, -, rfl, -⟩ := hK
    go_wp2_with fail
    go_ret
    exact HK.out
end Go.Proofs.Ythjikcfpoomioaa
