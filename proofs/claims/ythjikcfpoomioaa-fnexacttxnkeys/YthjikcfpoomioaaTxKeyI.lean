/- The keys of a transaction: the program's TxnKeys. -/
import Derived.Test.YthjikcfpoomioaaKeySh
import Derived.Deep.RegionHeld3
namespace Go.Proofs.Ythjikcfpoomioaa
open Go.RowKit Go.Sort

def kb (b : ByteArray) : List UInt8 := b.data.toList
def wKeys (ws : List WantD) : List (List UInt8) := ws.map fun v => kb v.f0
def uKeys (us : List WriteD) : List (List UInt8) := us.map fun v => kb v.f0
def txKeys (ws : List WantD) (us : List WriteD) : List (List UInt8) := wKeys ws ++ uKeys us
def KeysOut (all : List (List UInt8)) (w : World) (e : Ending) (w' : World) : Prop :=
  ∃ R a c, KeysRel all R ∧ e = .returned (.slice a R.length c) ∧ StrsIn w' a (R.map baOf) ∧ Free w' a R.length ∧ Lies w.heap.size w'.heap.size a ∧ Below w.heap.size w w'
theorem wantKeys_all (ws : List WantD) : wantKeys ws ws.length = (wKeys ws).map encStr := by simp [wantKeys, wKeys, kb, encStr, Function.comp_def]
theorem writeKeys_all (us : List WriteD) : writeKeys us us.length = (uKeys us).map encStr := by simp [writeKeys, uKeys, kb, encStr, Function.comp_def]
theorem wKeys_len (ws : List WantD) : (wKeys ws).length = ws.length := by simp [wKeys]
theorem uKeys_len (us : List WriteD) : (uKeys us).length = us.length := by simp [uKeys]
theorem txKeys_len (ws : List WantD) (us : List WriteD) : (txKeys ws us).length = ws.length + us.length := by simp [txKeys, wKeys, uKeys]
theorem enc_one (ks : List (List UInt8)) : ∀ u ∈ ks.map encStr, u.oneCell' = true := by
  intro u hu
  obtain ⟨x, -, rfl⟩ := List.mem_map.1 hu
  rfl

theorem sort_ownN (g cap base n : Nat) (ss : List (List UInt8)) (w : World) (hn : ss.length = n) (hown : w.ownsRow base 9 1 (.slice (some ⟨g, 0, none⟩) n cap) n (ss.map encStr)) (h0 : 0 < n) (hsz : n < 4611686018427387904) :
    Calls Try.prog 171 #[.slice (some ⟨g, 0, none⟩) n cap] w fun e w' => e = .returned (.tuple #[]) ∧ Turned (fun k => k = g) w w' ∧ n ≤ cap ∧ base ≤ g ∧ g < w.heap.size ∧ Holds encStr w' g 0 (ss.mergeSort fun x y => decide (x ≤ y)).toArray := by
  subst hn; exact sort_own g cap base ss w hown h0 hsz
theorem compact_ownN (g cap n : Nat) (zs : List (List UInt8)) (w : World) (hn : zs.length = n) (hH : Holds encStr w g 0 zs.toArray) (hg : g < w.heap.size) (hsz : n ≤ 9223372036854775807) (hcap : n ≤ cap) :
    Calls Try.prog 172 #[.slice (some ⟨g, 0, none⟩) n cap] w fun e w' => e = .returned (.slice (some ⟨g, 0, none⟩) (Lib.compact zs).length cap) ∧ Turned (fun k => k = g) w w' ∧ StrsIn w' (some ⟨g, 0, none⟩) ((Lib.compact zs).map baOf) ∧ Free w' (some ⟨g, 0, none⟩) (Lib.compact zs).length := by
  subst hn; exact compact_own g cap zs w hH hg hsz hcap

theorem kWant_any (a : Option Addr) (vs : List WantD) (cap : Nat) (w : World) (hv : WantsIn w a vs) (hn : vs.length ≤ 1048576) :
    Calls Try.prog 169 #[.slice a vs.length cap] w fun e w' => ∃ b c, e = .returned (.slice b vs.length c) ∧ w'.ownsRow w.heap.size 9 1 (.slice b vs.length c) vs.length ((wKeys vs).map encStr) ∧ Below w.heap.size w w' :=
  (keysOfWant_any a vs cap w hv hn).mono fun e w' ⟨v, he, ho, hb⟩ => by
    rw [wantKeys_all] at ho
    rcases Joins.ownsRow_forms ho with ⟨rfl, h0⟩ | ⟨g, c, rfl⟩
    · rw [h0] at ho ⊢; exact ⟨none, 0, he, ho, hb⟩
    · exact ⟨some ⟨g, 0, none⟩, c, he, ho, hb⟩
theorem kWrite_any (a : Option Addr) (vs : List WriteD) (cap : Nat) (w : World) (hv : WritesIn w a vs) (hn : vs.length ≤ 1048576) (h0 : 0 < vs.length) :
    Calls Try.prog 170 #[.slice a vs.length cap] w fun e w' => ∃ g c, e = .returned (.slice (some ⟨g, 0, none⟩) vs.length c) ∧ w'.ownsRow w.heap.size 9 1 (.slice (some ⟨g, 0, none⟩) vs.length c) vs.length ((uKeys vs).map encStr) ∧ Below w.heap.size w w' :=
  (keysOfWrite_any a vs cap w hv hn).mono fun e w' ⟨v, he, ho, hb⟩ => by
    rw [writeKeys_all] at ho
    obtain ⟨g, c, rfl, -⟩ := ho.form h0
    exact ⟨g, c, he, ho, hb⟩

set_option maxRecDepth 100000 in
set_option maxHeartbeats 1000000 in
theorem kWrite_nil (cap : Nat) (a : Option Addr) (w : World) :
    Calls Try.prog 170 #[.slice a 0 cap] w fun e w' => e = .returned (.slice none 0 0) ∧ Below w.heap.size w w' := by
  go_enter Try.func170, Try.ntmps170
  go_wp2_with fail
  go_loopw [3, 8] (fun v i wr => v = .slice none 0 0 ∧ i = .int .i64 0 ∧ Below w.heap.size w wr) (fun _ _ _ => 0)
  case atStart => exact ⟨rfl, rfl, Below.refl _ _⟩
  case round =>
    obtain ⟨rfl, rfl, hB⟩ := hrel
    have HB := Lib.hid hB
    clear hB
    go_wp2_with fail
    go_ret
    exact ⟨rfl, HB.out⟩

theorem ownMono {w : World} {base B size n : Nat} {e : TypeId} {v : Value} {xs : List Value} (h : w.ownsRow base e size v n xs) (hb : B ≤ base) : w.ownsRow B e size v n xs := Joins.ownsRow_le h hb
theorem own_news {w : World} {base g n cap : Nat} {ks : List (List UInt8)} (h : w.ownsRow base 9 1 (.slice (some ⟨g, 0, none⟩) n cap) n (ks.map encStr)) : ∀ j u, (ks.map encStr)[j]? = some u → w.cell? ((⟨g, 0, none⟩ : Addr).add j) = some u := by
  intro j u hu
  have hj : j < (ks.map encStr).length := by
    rcases Nat.lt_or_ge j (ks.map encStr).length with q | q
    · exact q
    · rw [List.getElem?_eq_none q] at hu; cases hu
  have := h.cellAt j (by rw [← h.1]; exact hj)
  rw [← hu, ← this]
  by_cases e : j = 0
  · subst e; simp [Addr.add]
  · simp [Addr.add, e]
theorem below_turned {w u u' : World} {g : Nat} (h : Below w.heap.size w u) (ht : Turned (fun k => k = g) u u') (hg : w.heap.size ≤ g) : Below w.heap.size w u' := h.trans (ht.below (fun k e => by rw [e]; exact hg) h.size)

set_option maxRecDepth 100000 in
set_option maxHeartbeats 1000000 in
theorem kWant_nil (cap : Nat) (a : Option Addr) (w : World) :
    Calls Try.prog 169 #[.slice a 0 cap] w fun e w' => e = .returned (.slice none 0 0) ∧ Below w.heap.size w w' := by
  go_enter Try.func169, Try.ntmps169
  go_wp2_with fail
  go_loopw [3, 8] (fun v i wr => v = .slice none 0 0 ∧ i = .int .i64 0 ∧ Below w.heap.size w wr) (fun _ _ _ => 0)
  case atStart => exact ⟨rfl, rfl, Below.refl _ _⟩
  case round =>
    obtain ⟨rfl, rfl, hB⟩ := hrel
    have HB := Lib.hid hB
    clear hB
    go_wp2_with fail
    go_ret
    exact ⟨rfl, HB.out⟩

theorem keepTk {b : Nat} {o00 o01 o02 : Nat} {x00 x01 x02 : Value} {u v : World} (hb : Below u.heap.size u v) (h : u.cell? ⟨b, o00, none⟩ = some x00 ∧ u.cell? ⟨b, o01, none⟩ = some x01 ∧ u.cell? ⟨b, o02, none⟩ = some x02 ∧ b < u.heap.size) : v.cell? ⟨b, o00, none⟩ = some x00 ∧ v.cell? ⟨b, o01, none⟩ = some x01 ∧ v.cell? ⟨b, o02, none⟩ = some x02 ∧ b < v.heap.size := by
  obtain ⟨h0, h1, h2, lb⟩ := h
  exact ⟨(hb.cell (p := ⟨b, o00, none⟩) lb).trans h0, (hb.cell (p := ⟨b, o01, none⟩) lb).trans h1, (hb.cell (p := ⟨b, o02, none⟩) lb).trans h2, Nat.lt_of_lt_of_le lb hb.size⟩
theorem keepTk_alloc {b : Nat} {o00 o01 o02 : Nat} {x00 x01 x02 : Value} {u : World} {o : Obj} (h : u.cell? ⟨b, o00, none⟩ = some x00 ∧ u.cell? ⟨b, o01, none⟩ = some x01 ∧ u.cell? ⟨b, o02, none⟩ = some x02 ∧ b < u.heap.size) : (u.alloc o).cell? ⟨b, o00, none⟩ = some x00 ∧ (u.alloc o).cell? ⟨b, o01, none⟩ = some x01 ∧ (u.alloc o).cell? ⟨b, o02, none⟩ = some x02 ∧ b < (u.alloc o).heap.size := keepTk ((Below.refl _ _).alloc (Nat.le_refl _) _) h
theorem keepTk_allocD {b : Nat} {o00 o01 o02 : Nat} {x00 x01 x02 : Value} {u : World} {o : Obj} (h : u.drew.cell? ⟨b, o00, none⟩ = some x00 ∧ u.drew.cell? ⟨b, o01, none⟩ = some x01 ∧ u.drew.cell? ⟨b, o02, none⟩ = some x02 ∧ b < u.drew.heap.size) : (u.alloc o).drew.cell? ⟨b, o00, none⟩ = some x00 ∧ (u.alloc o).drew.cell? ⟨b, o01, none⟩ = some x01 ∧ (u.alloc o).drew.cell? ⟨b, o02, none⟩ = some x02 ∧ b < (u.alloc o).drew.heap.size := keepTk_alloc (u := u) h
theorem keepTk_far {b : Nat} {o00 o01 o02 : Nat} {x00 x01 x02 : Value} {u v : World} {row : Option Nat} (hg : u.grownBy v row) (nb : some b ≠ row) (h : u.cell? ⟨b, o00, none⟩ = some x00 ∧ u.cell? ⟨b, o01, none⟩ = some x01 ∧ u.cell? ⟨b, o02, none⟩ = some x02 ∧ b < u.heap.size) : v.cell? ⟨b, o00, none⟩ = some x00 ∧ v.cell? ⟨b, o01, none⟩ = some x01 ∧ v.cell? ⟨b, o02, none⟩ = some x02 ∧ b < v.heap.size := by
  obtain ⟨h0, h1, h2, lb⟩ := h
  exact ⟨(hg.cell_far ⟨b, o00, none⟩ lb nb).trans h0, (hg.cell_far ⟨b, o01, none⟩ lb nb).trans h1, (hg.cell_far ⟨b, o02, none⟩ lb nb).trans h2, Nat.lt_of_lt_of_le lb hg.size⟩

theorem kWantN_any (a : Option Addr) (vs : List WantD) (cap : Nat) (w : World) (hv : WantsIn w a vs) (hn : vs.length ≤ 1048576) (h0 : 0 < vs.length) :
    Calls Try.prog 169 #[.slice a vs.length cap] w fun e w' => ∃ g c, e = .returned (.slice (some ⟨g, 0, none⟩) vs.length c) ∧ w'.ownsRow w.heap.size 9 1 (.slice (some ⟨g, 0, none⟩) vs.length c) vs.length ((wKeys vs).map encStr) ∧ vs.length ≤ c ∧ Below w.heap.size w w' :=
  (keysOfWant_any a vs cap w hv hn).mono fun e w' ⟨v, he, ho, hb⟩ => by
    rw [wantKeys_all] at ho
    obtain ⟨g, c, rfl, -⟩ := ho.form h0
    have hc : vs.length ≤ c := by
      rcases ho.2 with ⟨e, _⟩ | ⟨g', c', cur, e, _, _, q1, _⟩
      · cases e
      · cases e; exact q1
    exact ⟨g, c, he, ho, hc, hb⟩
theorem own_neS {w : World} {B b : Nat} {e : TypeId} {size n : Nat} {v : Value} {xs : List Value} (h : w.ownsRow B e size v n xs) (hb : b < B) : some b ≠ v.ownBlock := fun e => by
  have := h.lt b e.symm
  omega

set_option maxRecDepth 100000 in
set_option maxHeartbeats 4000000 in
theorem txKeysA_any (id : Int) (a1 a2 : Option Addr) (ws : List WantD) (us : List WriteD) (k1 k2 : Nat) (w : World) (hv : WantsIn w a1 ws) (hu : WritesIn w a2 us) (hn : ws.length ≤ 1048576) (hm : us.length ≤ 1048576) (h0 : 0 < us.length) :
    Calls Try.prog 125 #[.agg #[.int .i64 id, .slice a1 ws.length k1, .slice a2 us.length k2]] w (KeysOut (txKeys ws us) w) := by
  have HV := Lib.hid hv
  have HU := Lib.hid hu
  clear hv hu
  obtain ⟨i0, hi0, hz0, hz1, hz2⟩ := info_parts infoStr1
  obtain ⟨W1, hW1⟩ : ∃ W1, w.alloc (.cells #[.int .i64 id, .slice a1 ws.length k1, .slice a2 us.length k2] 93) = W1 := ⟨_, rfl⟩
  have hB1 : Below w.heap.size w W1 := by rw [← hW1]; exact (Below.refl _ _).alloc (Nat.le_refl _) _
  have q : W1.drew.cell? ⟨w.heap.size, 0, none⟩ = some (.int .i64 id) ∧ W1.drew.cell? ⟨w.heap.size, 1, none⟩ = some (.slice a1 ws.length k1) ∧ W1.drew.cell? ⟨w.heap.size, 2, none⟩ = some (.slice a2 us.length k2) ∧ w.heap.size < W1.drew.heap.size := by
    rw [← hW1]; refine ⟨?_, ?_, ?_, ?_⟩ <;> simp [go_sem]
  have HB := Lib.hid hB1.drew
  clear hB1
  go_enter Try.func125, Try.ntmps125
  go_wp2_with fail
  clear hW1
  go_region_held3 (fun u => u.cell? ⟨w.heap.size, 0, none⟩ = some (.int .i64 id) ∧ u.cell? ⟨w.heap.size, 1, none⟩ = some (.slice a1 ws.length k1) ∧ u.cell? ⟨w.heap.size, 2, none⟩ = some (.slice a2 us.length k2) ∧ w.heap.size < u.heap.size)
    (first | with_reducible exact q | fail)
    (first
    | (go_at_call 169; (with_reducible refine (kWant_any a1 ws k1 _ (HV.out.below HB.out) hn).mono ?_); rintro e wA ⟨aA, cA, rfl, hown, hb⟩; have hown := ownMono (B := w.heap.size + 1) hown q.2.2.2; have HB := Lib.hid (HB.out.trans (hb.mono HB.out.size)); have q := keepTk hb q; have XA := Lib.hid hown; (try have XB := Lib.hid (Go.Proofs.Ythjikcfpoomioaa.ownsRow_of_below XB.out hb)); clear hown hb)
    | (go_at_call 170; (with_reducible refine (kWrite_any a2 us k2 _ (HU.out.below HB.out) hm h0).mono ?_); rintro e wB ⟨gB, cB, rfl, hown, hb⟩; have hown := ownMono (B := w.heap.size + 1) hown q.2.2.2; have HB := Lib.hid (HB.out.trans (hb.mono HB.out.size)); have q := keepTk hb q; have XB := Lib.hid hown; (try have XA := Lib.hid (Go.Proofs.Ythjikcfpoomioaa.ownsRow_of_below XA.out hb)); clear hown hb)
    | (refine step_append_lies _ (by rfl) _ _ 88 (by rfl) (w.heap.size + 1) 9 i0 (.string ⟨#[]⟩) 1 16 Try.underlying88 hi0 hz0 hz1 hz2 rfl (by omega) (.slice aA ws.length cA) ws.length ((wKeys ws).map encStr) (by rfl) XA.out ⟨gB, 0, none⟩ us.length cB ((uKeys us).map encStr) (by rfl) (by rw [List.length_map, uKeys_len, Nat.mul_one]) (own_news XB.out) (enc_one _) h0 (by unfold maxLen; omega) (by omega) q.2.2.2 _ rfl ?_; intro gg cp wC hown hgrow hat hlt; have q' := q; have q := keepTk_far hgrow (own_neS XA.out (Nat.lt_succ_self _)) q; have X := Lib.hid (And.intro hown hgrow); clear hown hgrow hat hlt)
    | fail)
  all_goals
    have hB := Lib.hid (show RowKit.Below w.heap.size w wC from Below.grown HB.out X.out.2 (Nat.le_of_lt q'.2.2.2) (fun j hj => Nat.le_of_succ_le (XA.out.lt j hj).1))
    have hO := Lib.hid (show wC.ownsRow (w.heap.size + 1) 9 1 (.slice (some ⟨gg, 0, none⟩) (ws.length + us.length) cp) (ws.length + us.length) ((txKeys ws us).map encStr) by unfold txKeys; rw [List.map_append]; exact X.out.1)
    go_wp2_with (first
      | (go_at_call 171; refine (sort_ownN gg cp (w.heap.size + 1) (ws.length + us.length) (txKeys ws us) _ (txKeys_len ws us) hO.out (by omega) (by omega)).mono ?_; rintro e wS ⟨rfl, ht, hcp, hgb, hglt, hH⟩; have HT := Lib.hid ht; have HH := Lib.hid hH; have hgS : gg < wS.heap.size := Nat.lt_of_lt_of_le hglt ht.size; clear ht hH)
      | (go_at_call 172; refine (compact_ownN gg cp (ws.length + us.length) _ _ (by rw [List.length_mergeSort, txKeys_len]) HH.out hgS (by omega) hcp).mono ?_; rintro e wF ⟨rfl, ht, hs, hf⟩; have HF := Lib.hid (And.intro ht (And.intro hs hf)); clear ht hs hf))
    go_ret
    have hB2 := below_turned (below_turned hB.out HT.out (by omega)) HF.out.1 (by omega)
    exact ⟨_, some ⟨gg, 0, none⟩, cp, sort_keys _, rfl, HF.out.2.1, HF.out.2.2, (fun b off e => by cases e; exact ⟨by omega, Nat.lt_of_lt_of_le hgS HF.out.1.size⟩), hB2⟩

set_option maxRecDepth 100000 in
set_option maxHeartbeats 4000000 in
theorem txKeysB_any (id : Int) (a1 a2 : Option Addr) (ws : List WantD) (k1 k2 : Nat) (w : World) (hv : WantsIn w a1 ws) (hn : ws.length ≤ 1048576) (h0 : 0 < ws.length) :
    Calls Try.prog 125 #[.agg #[.int .i64 id, .slice a1 ws.length k1, .slice a2 0 k2]] w (KeysOut (txKeys ws []) w) := by
  have HV := Lib.hid hv
  clear hv
  obtain ⟨i0, hi0, hz0, hz1, hz2⟩ := info_parts infoStr1
  obtain ⟨W1, hW1⟩ : ∃ W1, w.alloc (.cells #[.int .i64 id, .slice a1 ws.length k1, .slice a2 0 k2] 93) = W1 := ⟨_, rfl⟩
  have hB1 : Below w.heap.size w W1 := by rw [← hW1]; exact (Below.refl _ _).alloc (Nat.le_refl _) _
  have q : W1.drew.cell? ⟨w.heap.size, 0, none⟩ = some (.int .i64 id) ∧ W1.drew.cell? ⟨w.heap.size, 1, none⟩ = some (.slice a1 ws.length k1) ∧ W1.drew.cell? ⟨w.heap.size, 2, none⟩ = some (.slice a2 0 k2) ∧ w.heap.size < W1.drew.heap.size := by
    rw [← hW1]; refine ⟨?_, ?_, ?_, ?_⟩ <;> simp [go_sem]
  have HB := Lib.hid hB1.drew
  clear hB1
  go_enter Try.func125, Try.ntmps125
  go_wp2_with fail
  clear hW1
  go_region_held3 (fun u => u.cell? ⟨w.heap.size, 0, none⟩ = some (.int .i64 id) ∧ u.cell? ⟨w.heap.size, 1, none⟩ = some (.slice a1 ws.length k1) ∧ u.cell? ⟨w.heap.size, 2, none⟩ = some (.slice a2 0 k2) ∧ w.heap.size < u.heap.size)
    (first | with_reducible exact q | fail)
    (first
    | (go_at_call 169; (with_reducible refine (kWantN_any a1 ws k1 _ (HV.out.below HB.out) hn h0).mono ?_); rintro e wA ⟨gg, cp, rfl, hown, hcp0, hb⟩; have hown := ownMono (B := w.heap.size + 1) hown q.2.2.2; have HB := Lib.hid (HB.out.trans (hb.mono HB.out.size)); have q := keepTk hb q; have XA := Lib.hid hown; (try have XB := Lib.hid (Go.Proofs.Ythjikcfpoomioaa.ownsRow_of_below XB.out hb)); clear hown hb)
    | (go_at_call 170; (with_reducible refine (kWrite_nil k2 a2 _).mono ?_); rintro e wB ⟨rfl, hb⟩; have HB := Lib.hid (HB.out.trans (hb.mono HB.out.size)); have q := keepTk hb q; (try have XA := Lib.hid (Go.Proofs.Ythjikcfpoomioaa.ownsRow_of_below XA.out hb)); clear hb)
    | fail)
  all_goals
    have hB := HB
    have hO := Lib.hid (show World.ownsRow _ (w.heap.size + 1) 9 1 (.slice (some ⟨gg, 0, none⟩) ws.length cp) ws.length ((txKeys ws []).map encStr) by simp only [txKeys, uKeys, List.map_nil, List.append_nil]; exact XA.out)
    go_wp2_with (first
      | (go_at_call 171; refine (sort_ownN gg cp (w.heap.size + 1) ws.length (txKeys ws []) _ (by simp [txKeys, wKeys, uKeys]) hO.out (by omega) (by omega)).mono ?_; rintro e wS ⟨rfl, ht, hcp, hgb, hglt, hH⟩; have HT := Lib.hid ht; have HH := Lib.hid hH; have hgS : gg < wS.heap.size := Nat.lt_of_lt_of_le hglt ht.size; clear ht hH)
      | (go_at_call 172; refine (compact_ownN gg cp ws.length _ _ (by rw [List.length_mergeSort, show (txKeys ws []).length = ws.length by simp [txKeys, wKeys, uKeys]]) HH.out hgS (by omega) hcp).mono ?_; rintro e wF ⟨rfl, ht, hs, hf⟩; have HF := Lib.hid (And.intro ht (And.intro hs hf)); clear ht hs hf))
    go_ret
    have hB2 := below_turned (below_turned hB.out HT.out (by omega)) HF.out.1 (by omega)
    exact ⟨_, some ⟨gg, 0, none⟩, cp, sort_keys _, rfl, HF.out.2.1, HF.out.2.2, (fun b off e => by cases e; exact ⟨by omega, Nat.lt_of_lt_of_le hgS HF.out.1.size⟩), hB2⟩

set_option maxRecDepth 100000 in
set_option maxHeartbeats 4000000 in
theorem txKeysC_any (id : Int) (a1 a2 : Option Addr) (k1 k2 : Nat) (w : World) :
    Calls Try.prog 125 #[.agg #[.int .i64 id, .slice a1 0 k1, .slice a2 0 k2]] w (KeysOut (txKeys [] []) w) := by
  obtain ⟨i0, hi0, hz0, hz1, hz2⟩ := info_parts infoStr1
  obtain ⟨W1, hW1⟩ : ∃ W1, w.alloc (.cells #[.int .i64 id, .slice a1 0 k1, .slice a2 0 k2] 93) = W1 := ⟨_, rfl⟩
  have hB1 : Below w.heap.size w W1 := by rw [← hW1]; exact (Below.refl _ _).alloc (Nat.le_refl _) _
  have q : W1.drew.cell? ⟨w.heap.size, 0, none⟩ = some (.int .i64 id) ∧ W1.drew.cell? ⟨w.heap.size, 1, none⟩ = some (.slice a1 0 k1) ∧ W1.drew.cell? ⟨w.heap.size, 2, none⟩ = some (.slice a2 0 k2) ∧ w.heap.size < W1.drew.heap.size := by
    rw [← hW1]; refine ⟨?_, ?_, ?_, ?_⟩ <;> simp [go_sem]
  have HB := Lib.hid hB1.drew
  clear hB1
  go_enter Try.func125, Try.ntmps125
  go_wp2_with fail
  clear hW1
  go_region_held3 (fun u => u.cell? ⟨w.heap.size, 0, none⟩ = some (.int .i64 id) ∧ u.cell? ⟨w.heap.size, 1, none⟩ = some (.slice a1 0 k1) ∧ u.cell? ⟨w.heap.size, 2, none⟩ = some (.slice a2 0 k2) ∧ w.heap.size < u.heap.size)
    (first | with_reducible exact q | fail)
    (first
    | (go_at_call 169; (with_reducible refine (kWant_nil k1 a1 _).mono ?_); rintro e wA ⟨rfl, hb⟩; have HB := Lib.hid (HB.out.trans (hb.mono HB.out.size)); have q := keepTk hb q; clear hb)
    | (go_at_call 170; (with_reducible refine (kWrite_nil k2 a2 _).mono ?_); rintro e wB ⟨rfl, hb⟩; have HB := Lib.hid (HB.out.trans (hb.mono HB.out.size)); have q := keepTk hb q; clear hb)
    | fail)
  all_goals
    go_wp2_with (first
      | (go_at_call 171; refine (Any.slices_Sort_string_none Try.lays190 none 0 _).mono ?_; rintro e wS ⟨rfl, rfl⟩)
      | (go_at_call 172; refine (Any.slices_Compact_string_empty Try.lays194 none 0 _).mono ?_; rintro e wF ⟨rfl, rfl⟩))
    go_ret
    exact ⟨[], none, 0, ⟨List.Pairwise.nil, fun x => by simp [txKeys, wKeys, uKeys]⟩, rfl, .inl rfl, .inl rfl, (fun b off e => by cases e), HB.out⟩

theorem txKeys_any (id : Int) (a1 a2 : Option Addr) (ws : List WantD) (us : List WriteD) (k1 k2 : Nat) (w : World) (hv : WantsIn w a1 ws) (hu : WritesIn w a2 us) (hn : ws.length ≤ 1048576) (hm : us.length ≤ 1048576) :
    Calls Try.prog 125 #[.agg #[.int .i64 id, .slice a1 ws.length k1, .slice a2 us.length k2]] w (KeysOut (txKeys ws us) w) := by
  rcases us with _ | ⟨u, us⟩
  · rcases ws with _ | ⟨v, ws⟩
    · exact txKeysC_any id a1 a2 k1 k2 w
    · exact txKeysB_any id a1 a2 (v :: ws) k1 k2 w hv hn (by simp)
  · exact txKeysA_any id a1 a2 ws (u :: us) k1 k2 w hv hu hn hm (by simp)
end Go.Proofs.Ythjikcfpoomioaa
