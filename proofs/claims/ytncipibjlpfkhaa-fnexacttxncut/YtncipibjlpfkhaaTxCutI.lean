/- What a transaction asks and writes in a span: the program's TxnCut. -/
import Derived.Test.YtncipibjlpfkhaaKwI
import Derived.Test.YtncipibjlpfkhaaSpanB
import Derived.Test.YtncipibjlpfkhaaTxOk
namespace Go.Proofs.Ytncipibjlpfkhaa
open Go.RowKit

theorem cell_drew {u : World} {a : Addr} {v : Option Value} (h : u.cell? a = v) : u.drew.cell? a = v := h
theorem far1 {u : World} {m g i j : Nat} {x : Value} (hn : m ≠ g) : (u.setCell ⟨g, j, none⟩ x).cell? ⟨m, i, none⟩ = u.cell? ⟨m, i, none⟩ := World.cell?_setCell_other _ _ _ _ (by intro h; cases h; exact hn rfl)
theorem far3 {u : World} {m g i : Nat} {x y z : Value} (hn : m ≠ g) : (((u.setCell ⟨g, 0, none⟩ x).setCell ⟨g, 1, none⟩ y).setCell ⟨g, 2, none⟩ z).cell? ⟨m, i, none⟩ = u.cell? ⟨m, i, none⟩ := ((far1 hn).trans (far1 hn)).trans (far1 hn)
theorem txAt_two {w2 : World} {B1 B2 lo : Nat} {v1 v2 : Value} {ws : List WantD} {us : List WriteD} (h1 : w2.ownsRow B1 101 2 v1 ws.length (ws.flatMap wantCells)) (h2 : w2.ownsRow B2 103 3 v2 us.length (us.flatMap writeCells)) (hap : ∀ b c, v1.ownBlock = some b → v2.ownBlock = some c → b ≠ c) (l1 : lo ≤ B1) (l2 : lo ≤ B2) :
    ∃ a1 a2 c1 c2, v1 = .slice a1 ws.length c1 ∧ v2 = .slice a2 us.length c2 ∧ TxAt w2 lo w2.heap.size a1 a2 ws us := by
  obtain ⟨a1, c1, rfl, i1, f1, q1, o1⟩ := own_wants h1
  obtain ⟨a2, c2, rfl, i2, f2, q2, o2⟩ := own_writes h2
  exact ⟨a1, a2, c1, c2, rfl, rfl, ⟨i1, i2, f1, f2, q1.mono l1 (Nat.le_refl _), q2.mono l2 (Nat.le_refl _), fun x o y p e1 e2 => hap x y (o1 x o e1) (o2 y p e2), Nat.le_refl _⟩⟩
theorem TxAt.setT {u : World} {lo hi r o : Nat} {x : Value} {a1 a2 : Option Addr} {ws : List WantD} {us : List WriteD} (h : TxAt u lo hi a1 a2 ws us) (hr : r < lo) : TxAt (u.setCell ⟨r, o, none⟩ x) lo hi a1 a2 ws us :=
  h.turned (S := fun k => k = r) (fun b h1 _ e => by subst e; omega) ((Turned.refl (fun k => k = r) u).setCell (p := ⟨r, o, none⟩) rfl x)
theorem TxAt.wide {u : World} {lo hi lo' hi' : Nat} {a1 a2 : Option Addr} {ws : List WantD} {us : List WriteD} (h : TxAt u lo hi a1 a2 ws us) (h1 : lo' ≤ lo) (h2 : hi ≤ hi') (h3 : hi' ≤ u.heap.size) : TxAt u lo' hi' a1 a2 ws us := ⟨h.in1, h.in2, h.fr1, h.fr2, h.l1.mono h1 h2, h.l2.mono h1 h2, h.ap, h3⟩
theorem txAt_none (w : World) (lo : Nat) : TxAt w lo w.heap.size none none [] [] := ⟨.inl rfl, .inl rfl, .inl rfl, .inl rfl, (fun b off e => by cases e), (fun b off e => by cases e), (fun x o y p e => by cases e), Nat.le_refl _⟩

theorem kwWant_any (lo hi : ByteArray) (a : Option Addr) (vs : List WantD) (cap : Nat) (w : World) (hv : WantsIn w a vs) (hn : vs.length ≤ 1048576) :
    Calls Try.prog 193 #[.slice a vs.length cap, .agg #[.string lo, .string hi]] w fun e w' => ∃ b c, e = .returned (.slice b (wantsIn vs lo hi vs.length).length c) ∧ w'.ownsRow (w.heap.size + 1) 101 2 (.slice b (wantsIn vs lo hi vs.length).length c) (wantsIn vs lo hi vs.length).length ((wantsIn vs lo hi vs.length).flatMap wantCells) ∧ Below w.heap.size w w' :=
  (keysWithinWant_any lo hi a vs cap w hv hn).mono fun e w' ⟨v, he, ho, hb⟩ => by
    obtain ⟨a1, c1, rfl, -⟩ := own_wants ho
    exact ⟨a1, c1, he, ho, hb⟩
theorem kwWrite_any (lo hi : ByteArray) (a : Option Addr) (vs : List WriteD) (cap : Nat) (w : World) (hv : WritesIn w a vs) (hn : vs.length ≤ 1048576) :
    Calls Try.prog 194 #[.slice a vs.length cap, .agg #[.string lo, .string hi]] w fun e w' => ∃ b c, e = .returned (.slice b (writesIn vs lo hi vs.length).length c) ∧ w'.ownsRow (w.heap.size + 1) 103 3 (.slice b (writesIn vs lo hi vs.length).length c) (writesIn vs lo hi vs.length).length ((writesIn vs lo hi vs.length).flatMap writeCells) ∧ Below w.heap.size w w' :=
  (keysWithinWrite_any lo hi a vs cap w hv hn).mono fun e w' ⟨v, he, ho, hb⟩ => by
    obtain ⟨a1, c1, rfl, -⟩ := own_writes ho
    exact ⟨a1, c1, he, ho, hb⟩

set_option maxRecDepth 100000 in
set_option maxHeartbeats 2000000 in
theorem txnWithin_any (id : Int) (a1 a2 : Option Addr) (ws : List WantD) (us : List WriteD) (k1 k2 : Nat) (lo hi : ByteArray) (w : World) (hv : WantsIn w a1 ws) (hu : WritesIn w a2 us) (hn : ws.length ≤ 1048576) (hm : us.length ≤ 1048576) :
    Calls Try.prog 130 #[.agg #[.int .i64 id, .slice a1 ws.length k1, .slice a2 us.length k2], .agg #[.string lo, .string hi]] w (TxOut id (wantsIn ws lo hi ws.length) (writesIn us lo hi us.length) w) := by
  have HV := Lib.hid hv
  have HU := Lib.hid hu
  clear hv hu
  obtain ⟨W1, hW1⟩ : ∃ W1, ((w.alloc (.cells #[.int .i64 id, .slice a1 ws.length k1, .slice a2 us.length k2] 53)).alloc (.cells #[.string lo, .string hi] 88)).alloc (.cells #[.int .i64 0, .slice none 0 0, .slice none 0 0] 53) = W1 := ⟨_, rfl⟩
  have HB : Below w.heap.size w W1 := by rw [← hW1]; exact (((Below.refl _ _).alloc (Nat.le_refl _) _).alloc (by simp) _).alloc (by simp; omega) _
  have zc : w.heap.size < W1.heap.size := by rw [← hW1]; simp <;> omega
  have c0 : W1.cell? ⟨w.heap.size, 0, none⟩ = some (.int .i64 id) := by rw [← hW1]; simp [go_sem]
  have c1 : W1.cell? ⟨w.heap.size, 1, none⟩ = some (.slice a1 ws.length k1) := by rw [← hW1]; simp [go_sem]
  have c2 : W1.cell? ⟨w.heap.size, 2, none⟩ = some (.slice a2 us.length k2) := by rw [← hW1]; simp [go_sem]
  have zs : w.heap.size + 1 < W1.heap.size := by rw [← hW1]; simp <;> omega
  have s0 : W1.cell? ⟨w.heap.size + 1, 0, none⟩ = some (.string lo) := by rw [← hW1]; simp [go_sem]
  have s1 : W1.cell? ⟨w.heap.size + 1, 1, none⟩ = some (.string hi) := by rw [← hW1]; simp [go_sem]
  have zr : w.heap.size + 1 + 1 < W1.heap.size := by rw [← hW1]; simp
  have r0 : W1.cell? ⟨w.heap.size + 1 + 1, 0, none⟩ = some (.int .i64 0) := by rw [← hW1]; simp [go_sem]
  have r1 : W1.cell? ⟨w.heap.size + 1 + 1, 1, none⟩ = some (.slice none 0 0) := by rw [← hW1]; simp [go_sem]
  have r2 : W1.cell? ⟨w.heap.size + 1 + 1, 2, none⟩ = some (.slice none 0 0) := by rw [← hW1]; simp [go_sem]
  have fr0 : W1.frozen? ⟨w.heap.size + 1 + 1, 0, none⟩ = false := by rw [← hW1]; simp [go_sem]
  have fr1 : W1.frozen? ⟨w.heap.size + 1 + 1, 1, none⟩ = false := by rw [← hW1]; simp [go_sem]
  have fr2 : W1.frozen? ⟨w.heap.size + 1 + 1, 2, none⟩ = false := by rw [← hW1]; simp [go_sem]
  have HB := Lib.hid HB
  go_enter Try.func130, Try.ntmps130
  go_wp2_with fail
  clear hW1
  go_region_held3 (fun u => u.cell? ⟨w.heap.size, 0, none⟩ = some (.int .i64 id) ∧ u.cell? ⟨w.heap.size, 1, none⟩ = some (.slice a1 ws.length k1) ∧ u.cell? ⟨w.heap.size, 2, none⟩ = some (.slice a2 us.length k2) ∧ u.cell? ⟨w.heap.size + 1, 0, none⟩ = some (.string lo) ∧ u.cell? ⟨w.heap.size + 1, 1, none⟩ = some (.string hi))
    (first | with_reducible exact q | with_reducible exact And.intro (cell_drew c0) (And.intro (cell_drew c1) (And.intro (cell_drew c2) (And.intro (cell_drew s0) (cell_drew s1)))) | with_reducible exact And.intro ((far3 (g := w.heap.size + 1 + 1) (by omega)).trans c0) (And.intro ((far3 (g := w.heap.size + 1 + 1) (by omega)).trans c1) (And.intro ((far3 (g := w.heap.size + 1 + 1) (by omega)).trans c2) (And.intro ((far3 (g := w.heap.size + 1 + 1) (by omega)).trans s0) ((far3 (g := w.heap.size + 1 + 1) (by omega)).trans s1)))))
    (first
    | (go_at_call 193; refine (kwWant_any lo hi a1 ws k1 _ (by first | (with_reducible exact HV.out.below HB.out) | (with_reducible exact HV.out.below HB.out.drew)) hn).mono ?_; rintro e wA ⟨aA, cA, rfl, hown, hb⟩; have c0 := (hb.cell (p := ⟨w.heap.size, 0, none⟩) zc).trans c0; have c1 := (hb.cell (p := ⟨w.heap.size, 1, none⟩) zc).trans c1; have c2 := (hb.cell (p := ⟨w.heap.size, 2, none⟩) zc).trans c2; have s0 := (hb.cell (p := ⟨w.heap.size + 1, 0, none⟩) zs).trans s0; have s1 := (hb.cell (p := ⟨w.heap.size + 1, 1, none⟩) zs).trans s1; have r0 := (hb.cell (p := ⟨w.heap.size + 1 + 1, 0, none⟩) zr).trans r0; have r1 := (hb.cell (p := ⟨w.heap.size + 1 + 1, 1, none⟩) zr).trans r1; have r2 := (hb.cell (p := ⟨w.heap.size + 1 + 1, 2, none⟩) zr).trans r2; have fr0 := (hb.frozen (p := ⟨w.heap.size + 1 + 1, 0, none⟩) zr).trans fr0; have fr1 := (hb.frozen (p := ⟨w.heap.size + 1 + 1, 1, none⟩) zr).trans fr1; have fr2 := (hb.frozen (p := ⟨w.heap.size + 1 + 1, 2, none⟩) zr).trans fr2; have zc : w.heap.size < wA.heap.size := Nat.lt_of_lt_of_le zc hb.size; have zs : w.heap.size + 1 < wA.heap.size := Nat.lt_of_lt_of_le zs hb.size; have zr : w.heap.size + 1 + 1 < wA.heap.size := Nat.lt_of_lt_of_le zr hb.size; have HB := Lib.hid (show Below w.heap.size w wA by first | (with_reducible exact HB.out.trans (hb.mono HB.out.size)) | (with_reducible exact HB.out.drew.trans (hb.mono HB.out.drew.size))); have q := And.intro c0 (And.intro c1 (And.intro c2 (And.intro s0 s1))); have XA := Lib.hid hown; have LA := Lib.hid hown.lt; (try have XB := Lib.hid (Go.Proofs.Ytncipibjlpfkhaa.ownsRow_of_below XB.out hb)); (try have SB := Lib.hid (show wB.heap.size ≤ wA.heap.size from hb.size)); clear hown hb)
    | (go_at_call 194; refine (kwWrite_any lo hi a2 us k2 _ (by first | (with_reducible exact HU.out.below HB.out) | (with_reducible exact HU.out.below HB.out.drew)) hm).mono ?_; rintro e wB ⟨aB, cB, rfl, hown, hb⟩; have c0 := (hb.cell (p := ⟨w.heap.size, 0, none⟩) zc).trans c0; have c1 := (hb.cell (p := ⟨w.heap.size, 1, none⟩) zc).trans c1; have c2 := (hb.cell (p := ⟨w.heap.size, 2, none⟩) zc).trans c2; have s0 := (hb.cell (p := ⟨w.heap.size + 1, 0, none⟩) zs).trans s0; have s1 := (hb.cell (p := ⟨w.heap.size + 1, 1, none⟩) zs).trans s1; have r0 := (hb.cell (p := ⟨w.heap.size + 1 + 1, 0, none⟩) zr).trans r0; have r1 := (hb.cell (p := ⟨w.heap.size + 1 + 1, 1, none⟩) zr).trans r1; have r2 := (hb.cell (p := ⟨w.heap.size + 1 + 1, 2, none⟩) zr).trans r2; have fr0 := (hb.frozen (p := ⟨w.heap.size + 1 + 1, 0, none⟩) zr).trans fr0; have fr1 := (hb.frozen (p := ⟨w.heap.size + 1 + 1, 1, none⟩) zr).trans fr1; have fr2 := (hb.frozen (p := ⟨w.heap.size + 1 + 1, 2, none⟩) zr).trans fr2; have zc : w.heap.size < wB.heap.size := Nat.lt_of_lt_of_le zc hb.size; have zs : w.heap.size + 1 < wB.heap.size := Nat.lt_of_lt_of_le zs hb.size; have zr : w.heap.size + 1 + 1 < wB.heap.size := Nat.lt_of_lt_of_le zr hb.size; have HB := Lib.hid (show Below w.heap.size w wB by first | (with_reducible exact HB.out.trans (hb.mono HB.out.size)) | (with_reducible exact HB.out.drew.trans (hb.mono HB.out.drew.size))); have q := And.intro c0 (And.intro c1 (And.intro c2 (And.intro s0 s1))); have XB := Lib.hid hown; have LB := Lib.hid hown.lt; (try have XA := Lib.hid (Go.Proofs.Ytncipibjlpfkhaa.ownsRow_of_below XA.out hb)); (try have SA := Lib.hid (show wA.heap.size ≤ wB.heap.size from hb.size)); clear hown hb))
  all_goals
    go_wp2_with fail
    refine bodyPost_ret (v := .agg #[.int .i64 id, .slice aA (wantsIn ws lo hi ws.length).length cA, .slice aB (writesIn us lo hi us.length).length cB]) (by simp [results, Try.results130, go_sem, r0, r1, r2]) rfl ?_
    have hap : ∀ b c, (Value.slice aA (wantsIn ws lo hi ws.length).length cA).ownBlock = some b → (Value.slice aB (writesIn us lo hi us.length).length cB).ownBlock = some c → b ≠ c := by
      intro b c hb hc
      have h1 := LA.out b hb
      have h2 := LB.out c hc
      have h3 := zr
      simp at h1 h2
      omega
    have hzA := LA.out
    obtain ⟨x1, x2, y1, y2, e1, e2, hat⟩ := txAt_two (lo := w.heap.size + 3) XA.out XB.out hap (by simp; omega) (by simp; omega)
    cases e1
    cases e2
    exact ⟨_, _, _, _, rfl, ((((hat.setT (by omega)).setT (by omega)).setT (by omega)).wide (by omega) (by simp) (Nat.le_refl _)), ((HB.out.setCell (p := ⟨w.heap.size + 1 + 1, 0, none⟩) (by simp; omega) _).setCell (p := ⟨w.heap.size + 1 + 1, 1, none⟩) (by simp; omega) _).setCell (p := ⟨w.heap.size + 1 + 1, 2, none⟩) (by simp; omega) _⟩

def TxnCutRel (id : Int) (ws : List WantD) (us : List WriteD) (lo hi : ByteArray) (id' : Int) (ws' : List WantD) (us' : List WriteD) : Prop :=
  (¬ (TxnOkP id ws us ∧ spanOkB lo hi = true) ∧ id' = 0 ∧ ws' = [] ∧ us' = []) ∨ ((TxnOkP id ws us ∧ spanOkB lo hi = true) ∧ id' = id ∧ ws' = wantsIn ws lo hi ws.length ∧ us' = writesIn us lo hi us.length)
theorem TxnCutRel_unique {id : Int} {ws : List WantD} {us : List WriteD} {lo hi : ByteArray} {i1 i2 : Int} {w1 w2 : List WantD} {u1 u2 : List WriteD} (h : TxnCutRel id ws us lo hi i1 w1 u1) (g : TxnCutRel id ws us lo hi i2 w2 u2) : i1 = i2 ∧ w1 = w2 ∧ u1 = u2 := by
  rcases h with ⟨h1, rfl, rfl, rfl⟩ | ⟨h1, rfl, rfl, rfl⟩ <;> rcases g with ⟨g1, rfl, rfl, rfl⟩ | ⟨g1, rfl, rfl, rfl⟩ <;> first | exact ⟨rfl, rfl, rfl⟩ | exact absurd h1 g1 | exact absurd g1 h1
theorem TxnCutRel_len {id : Int} {ws : List WantD} {us : List WriteD} {lo hi : ByteArray} {i1 : Int} {w1 : List WantD} {u1 : List WriteD} (h : TxnCutRel id ws us lo hi i1 w1 u1) : w1.length ≤ ws.length ∧ u1.length ≤ us.length := by
  rcases h with ⟨h1, rfl, rfl, rfl⟩ | ⟨h1, rfl, rfl, rfl⟩
  · simp
  · exact ⟨wantsIn_le _ _ _ _, writesIn_le _ _ _ _⟩
def TxnCutPost (id : Int) (ws : List WantD) (us : List WriteD) (lo hi : ByteArray) (w : World) (e : Ending) (w' : World) : Prop := ∃ id' ws' us', TxnCutRel id ws us lo hi id' ws' us' ∧ TxOut id' ws' us' w e w'

set_option maxRecDepth 100000 in
set_option maxHeartbeats 2000000 in
theorem txnCut_any (id : Int) (a1 a2 : Option Addr) (ws : List WantD) (us : List WriteD) (k1 k2 : Nat) (lo hi : ByteArray) (w : World) (hv : WantsIn w a1 ws) (hu : WritesIn w a2 us) (hf : ∀ v ∈ ws, v.fits) (hg : ∀ v ∈ us, v.fits) (hn : ws.length ≤ 1048576) (hm : us.length ≤ 1048576) (hlo : lo.size ≤ maxLen) (hhi : hi.size ≤ maxLen) :
    Calls Try.prog 51 #[.agg #[.int .i64 id, .slice a1 ws.length k1, .slice a2 us.length k2], .agg #[.string lo, .string hi]] w (TxnCutPost id ws us lo hi w) := by
  have HV := Lib.hid hv
  have HU := Lib.hid hu
  have HF := Lib.hid hf
  have HG := Lib.hid hg
  clear hv hu hf hg
  obtain ⟨W1, hW1⟩ : ∃ W1, ((w.alloc (.cells #[.int .i64 id, .slice a1 ws.length k1, .slice a2 us.length k2] 53)).alloc (.cells #[.string lo, .string hi] 88)).alloc (.cells #[.int .i64 0, .slice none 0 0, .slice none 0 0] 53) = W1 := ⟨_, rfl⟩
  have HB : Below w.heap.size w W1 := by rw [← hW1]; exact (((Below.refl _ _).alloc (Nat.le_refl _) _).alloc (by simp) _).alloc (by simp; omega) _
  have zc : w.heap.size < W1.heap.size := by rw [← hW1]; simp <;> omega
  have c0 : W1.cell? ⟨w.heap.size, 0, none⟩ = some (.int .i64 id) := by rw [← hW1]; simp [go_sem]
  have c1 : W1.cell? ⟨w.heap.size, 1, none⟩ = some (.slice a1 ws.length k1) := by rw [← hW1]; simp [go_sem]
  have c2 : W1.cell? ⟨w.heap.size, 2, none⟩ = some (.slice a2 us.length k2) := by rw [← hW1]; simp [go_sem]
  have zs : w.heap.size + 1 < W1.heap.size := by rw [← hW1]; simp <;> omega
  have s0 : W1.cell? ⟨w.heap.size + 1, 0, none⟩ = some (.string lo) := by rw [← hW1]; simp [go_sem]
  have s1 : W1.cell? ⟨w.heap.size + 1, 1, none⟩ = some (.string hi) := by rw [← hW1]; simp [go_sem]
  have zr : w.heap.size + 1 + 1 < W1.heap.size := by rw [← hW1]; simp
  have r0 : W1.cell? ⟨w.heap.size + 1 + 1, 0, none⟩ = some (.int .i64 0) := by rw [← hW1]; simp [go_sem]
  have r1 : W1.cell? ⟨w.heap.size + 1 + 1, 1, none⟩ = some (.slice none 0 0) := by rw [← hW1]; simp [go_sem]
  have r2 : W1.cell? ⟨w.heap.size + 1 + 1, 2, none⟩ = some (.slice none 0 0) := by rw [← hW1]; simp [go_sem]
  have fr0 : W1.frozen? ⟨w.heap.size + 1 + 1, 0, none⟩ = false := by rw [← hW1]; simp [go_sem]
  have fr1 : W1.frozen? ⟨w.heap.size + 1 + 1, 1, none⟩ = false := by rw [← hW1]; simp [go_sem]
  have fr2 : W1.frozen? ⟨w.heap.size + 1 + 1, 2, none⟩ = false := by rw [← hW1]; simp [go_sem]
  have HB := Lib.hid HB
  go_enter Try.func51, Try.ntmps51
  go_wp2_with fail
  clear hW1
  refine (txnOk_any id a1 a2 ws us k1 k2 _ (HV.out.below HB.out) (HU.out.below HB.out) HF.out HG.out hn hm).mono ?_
  rintro e w2 ⟨b, rfl, hk, hb⟩
  have c0 := (hb.cell (p := ⟨w.heap.size, 0, none⟩) zc).trans c0
  have c1 := (hb.cell (p := ⟨w.heap.size, 1, none⟩) zc).trans c1
  have c2 := (hb.cell (p := ⟨w.heap.size, 2, none⟩) zc).trans c2
  have s0 := (hb.cell (p := ⟨w.heap.size + 1, 0, none⟩) zs).trans s0
  have s1 := (hb.cell (p := ⟨w.heap.size + 1, 1, none⟩) zs).trans s1
  have r0 := (hb.cell (p := ⟨w.heap.size + 1 + 1, 0, none⟩) zr).trans r0
  have r1 := (hb.cell (p := ⟨w.heap.size + 1 + 1, 1, none⟩) zr).trans r1
  have r2 := (hb.cell (p := ⟨w.heap.size + 1 + 1, 2, none⟩) zr).trans r2
  have fr0 := (hb.frozen (p := ⟨w.heap.size + 1 + 1, 0, none⟩) zr).trans fr0
  have fr1 := (hb.frozen (p := ⟨w.heap.size + 1 + 1, 1, none⟩) zr).trans fr1
  have fr2 := (hb.frozen (p := ⟨w.heap.size + 1 + 1, 2, none⟩) zr).trans fr2
  have zc : w.heap.size < w2.heap.size := Nat.lt_of_lt_of_le zc hb.size
  have zs : w.heap.size + 1 < w2.heap.size := Nat.lt_of_lt_of_le zs hb.size
  have zr : w.heap.size + 1 + 1 < w2.heap.size := Nat.lt_of_lt_of_le zr hb.size
  have HB := Lib.hid (show Below w.heap.size w w2 by first | (with_reducible exact HB.out.trans (hb.mono HB.out.size)) | (with_reducible exact HB.out.drew.trans (hb.mono HB.out.drew.size)))
  have HK := Lib.hid hk
  clear hb hk
  cases b
  · go_wp2_with fail
    refine bodyPost_ret (v := .agg #[.int .i64 0, .slice none 0 0, .slice none 0 0]) (by simp [results, Try.results51, go_sem, r0, r1, r2]) rfl ?_
    exact ⟨0, [], [], .inl ⟨fun h => by simpa using HK.out.2 h.1, rfl, rfl, rfl⟩, none, none, 0, 0, rfl, txAt_none _ _, ((HB.out.setCell (p := ⟨w.heap.size + 1 + 1, 0, none⟩) (by simp; omega) _).setCell (p := ⟨w.heap.size + 1 + 1, 1, none⟩) (by simp; omega) _).setCell (p := ⟨w.heap.size + 1 + 1, 2, none⟩) (by simp; omega) _⟩
  cases hS : spanOkB lo hi
  · go_wp2_with (go_at_call 57; refine (spanOk_is hS hlo hhi _).mono ?_; rintro e w3 ⟨rfl, hb⟩; have c0 := (hb.cell (p := ⟨w.heap.size, 0, none⟩) zc).trans c0; have c1 := (hb.cell (p := ⟨w.heap.size, 1, none⟩) zc).trans c1; have c2 := (hb.cell (p := ⟨w.heap.size, 2, none⟩) zc).trans c2; have s0 := (hb.cell (p := ⟨w.heap.size + 1, 0, none⟩) zs).trans s0; have s1 := (hb.cell (p := ⟨w.heap.size + 1, 1, none⟩) zs).trans s1; have r0 := (hb.cell (p := ⟨w.heap.size + 1 + 1, 0, none⟩) zr).trans r0; have r1 := (hb.cell (p := ⟨w.heap.size + 1 + 1, 1, none⟩) zr).trans r1; have r2 := (hb.cell (p := ⟨w.heap.size + 1 + 1, 2, none⟩) zr).trans r2; have fr0 := (hb.frozen (p := ⟨w.heap.size + 1 + 1, 0, none⟩) zr).trans fr0; have fr1 := (hb.frozen (p := ⟨w.heap.size + 1 + 1, 1, none⟩) zr).trans fr1; have fr2 := (hb.frozen (p := ⟨w.heap.size + 1 + 1, 2, none⟩) zr).trans fr2; have zc : w.heap.size < w3.heap.size := Nat.lt_of_lt_of_le zc hb.size; have zs : w.heap.size + 1 < w3.heap.size := Nat.lt_of_lt_of_le zs hb.size; have zr : w.heap.size + 1 + 1 < w3.heap.size := Nat.lt_of_lt_of_le zr hb.size; have HB := Lib.hid (show Below w.heap.size w w3 by first | (with_reducible exact HB.out.trans (hb.mono HB.out.size)) | (with_reducible exact HB.out.drew.trans (hb.mono HB.out.drew.size))); clear hb)
    refine bodyPost_ret (v := .agg #[.int .i64 0, .slice none 0 0, .slice none 0 0]) (by simp [results, Try.results51, go_sem, r0, r1, r2]) rfl ?_
    exact ⟨0, [], [], .inl ⟨(fun h => by rw [h.2] at hS; cases hS), rfl, rfl, rfl⟩, none, none, 0, 0, rfl, txAt_none _ _, ((HB.out.setCell (p := ⟨w.heap.size + 1 + 1, 0, none⟩) (by simp; omega) _).setCell (p := ⟨w.heap.size + 1 + 1, 1, none⟩) (by simp; omega) _).setCell (p := ⟨w.heap.size + 1 + 1, 2, none⟩) (by simp; omega) _⟩
  · go_wp2_with (go_at_call 57; refine (spanOk_is hS hlo hhi _).mono ?_; rintro e w3 ⟨rfl, hb⟩; have c0 := (hb.cell (p := ⟨w.heap.size, 0, none⟩) zc).trans c0; have c1 := (hb.cell (p := ⟨w.heap.size, 1, none⟩) zc).trans c1; have c2 := (hb.cell (p := ⟨w.heap.size, 2, none⟩) zc).trans c2; have s0 := (hb.cell (p := ⟨w.heap.size + 1, 0, none⟩) zs).trans s0; have s1 := (hb.cell (p := ⟨w.heap.size + 1, 1, none⟩) zs).trans s1; have r0 := (hb.cell (p := ⟨w.heap.size + 1 + 1, 0, none⟩) zr).trans r0; have r1 := (hb.cell (p := ⟨w.heap.size + 1 + 1, 1, none⟩) zr).trans r1; have r2 := (hb.cell (p := ⟨w.heap.size + 1 + 1, 2, none⟩) zr).trans r2; have fr0 := (hb.frozen (p := ⟨w.heap.size + 1 + 1, 0, none⟩) zr).trans fr0; have fr1 := (hb.frozen (p := ⟨w.heap.size + 1 + 1, 1, none⟩) zr).trans fr1; have fr2 := (hb.frozen (p := ⟨w.heap.size + 1 + 1, 2, none⟩) zr).trans fr2; have zc : w.heap.size < w3.heap.size := Nat.lt_of_lt_of_le zc hb.size; have zs : w.heap.size + 1 < w3.heap.size := Nat.lt_of_lt_of_le zs hb.size; have zr : w.heap.size + 1 + 1 < w3.heap.size := Nat.lt_of_lt_of_le zr hb.size; have HB := Lib.hid (show Below w.heap.size w w3 by first | (with_reducible exact HB.out.trans (hb.mono HB.out.size)) | (with_reducible exact HB.out.drew.trans (hb.mono HB.out.drew.size))); clear hb)
    refine (txnWithin_any id a1 a2 ws us k1 k2 lo hi _ (HV.out.below HB.out) (HU.out.below HB.out) hn hm).mono ?_
    rintro e w4 ⟨b1, b2, d1, d2, rfl, hat, hb⟩
    have c0 := (hb.cell (p := ⟨w.heap.size, 0, none⟩) zc).trans c0
    have c1 := (hb.cell (p := ⟨w.heap.size, 1, none⟩) zc).trans c1
    have c2 := (hb.cell (p := ⟨w.heap.size, 2, none⟩) zc).trans c2
    have s0 := (hb.cell (p := ⟨w.heap.size + 1, 0, none⟩) zs).trans s0
    have s1 := (hb.cell (p := ⟨w.heap.size + 1, 1, none⟩) zs).trans s1
    have r0 := (hb.cell (p := ⟨w.heap.size + 1 + 1, 0, none⟩) zr).trans r0
    have r1 := (hb.cell (p := ⟨w.heap.size + 1 + 1, 1, none⟩) zr).trans r1
    have r2 := (hb.cell (p := ⟨w.heap.size + 1 + 1, 2, none⟩) zr).trans r2
    have fr0 := (hb.frozen (p := ⟨w.heap.size + 1 + 1, 0, none⟩) zr).trans fr0
    have fr1 := (hb.frozen (p := ⟨w.heap.size + 1 + 1, 1, none⟩) zr).trans fr1
    have fr2 := (hb.frozen (p := ⟨w.heap.size + 1 + 1, 2, none⟩) zr).trans fr2
    have zc : w.heap.size < w4.heap.size := Nat.lt_of_lt_of_le zc hb.size
    have zs : w.heap.size + 1 < w4.heap.size := Nat.lt_of_lt_of_le zs hb.size
    have zr : w.heap.size + 1 + 1 < w4.heap.size := Nat.lt_of_lt_of_le zr hb.size
    have HB := Lib.hid (show Below w.heap.size w w4 by first | (with_reducible exact HB.out.trans (hb.mono HB.out.size)) | (with_reducible exact HB.out.drew.trans (hb.mono HB.out.drew.size)))
    have z3 := hb.size
    have X := Lib.hid hat
    clear hb hat
    go_wp2_with fail
    refine bodyPost_ret (v := .agg #[.int .i64 id, .slice b1 (wantsIn ws lo hi ws.length).length d1, .slice b2 (writesIn us lo hi us.length).length d2]) (by simp [results, Try.results51, go_sem, r0, r1, r2]) rfl ?_
    exact ⟨id, _, _, .inr ⟨⟨HK.out.1 (by simp), hS⟩, rfl, rfl, rfl⟩, b1, b2, d1, d2, rfl, (((X.out.setT (by omega)).setT (by omega)).setT (by omega)).wide (by omega) (by simp) (Nat.le_refl _), ((HB.out.setCell (p := ⟨w.heap.size + 1 + 1, 0, none⟩) (by simp; omega) _).setCell (p := ⟨w.heap.size + 1 + 1, 1, none⟩) (by simp; omega) _).setCell (p := ⟨w.heap.size + 1 + 1, 2, none⟩) (by simp; omega) _⟩
end Go.Proofs.Ytncipibjlpfkhaa
