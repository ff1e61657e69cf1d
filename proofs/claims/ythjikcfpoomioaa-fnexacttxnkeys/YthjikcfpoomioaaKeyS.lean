/- The keys of a transaction, as the model gathers them: an insertion into a list in order. -/
import Derived.Test.YthjikcfpoomioaaTxKeyI
import Derived.Test.YthjikcfpoomioaaTxOkS
import Derived.Deep.Cut
namespace Go.Proofs.Ythjikcfpoomioaa
open Go.RowKit Go.Sort

theorem empty_strs {u : World} {B g : Nat} (h : u.heap[g]? = some (.cells #[] 9 (0, 0))) (hb : B ≤ g) : u.ownsRow B 9 1 (.slice (some ⟨g, 0, none⟩) 0 0) 0 (([] : List (List UInt8)).map encStr) :=
  ⟨by simp, .inr ⟨g, 0, #[], rfl, hb, h, Nat.le_refl _, Nat.zero_le _, by simp, by simp⟩⟩
theorem own_capS {u : World} {B g n cp : Nat} {xs : List Value} (h : u.ownsRow B 9 1 (.slice (some ⟨g, 0, none⟩) n cp) n xs) : n ≤ cp := by
  rcases h.2 with ⟨e, _⟩ | ⟨g', c', cur, e, _, _, q1, _⟩
  · cases e
  · cases e; exact q1
theorem grown_ownS {w W w' : World} {B n : Nat} {e : TypeId} {size : Nat} {v : Value} {xs : List Value} (hO : W.ownsRow B e size v n xs) (h : W.grownBy w' v.ownBlock) (hB : Below B w W) (hs : B ≤ W.heap.size) : Below B w w' := hB.grown h hs (fun j hj => (hO.lt j hj).1)
/-- The cells of a part of a row, as an append takes them. -/
theorem news_part {u w' : World} {B g n c : Nat} {ks : List (List UInt8)} (h : u.ownsRow B 9 1 (.slice (some ⟨g, 0, none⟩) n c) n (ks.map encStr)) (hb : Below u.heap.size u w') (o : Nat) (xs : List (List UInt8)) (hx : ∀ j, j < xs.length → ks[o + j]? = xs[j]?) : ∀ j u', (xs.map encStr)[j]? = some u' → w'.cell? ((⟨g, o, none⟩ : Addr).add j) = some u' := by
  intro j u' hu
  have hj : j < xs.length := by
    rcases Nat.lt_or_ge j xs.length with q | q
    · exact q
    · rw [List.getElem?_eq_none (by simpa using q)] at hu; cases hu
  have hjn : o + j < n := by
    have h1 := hx j hj
    rw [List.getElem?_eq_getElem hj] at h1
    have := (List.getElem?_eq_some_iff.1 h1).1
    have hl := h.1
    rw [List.length_map, Nat.mul_one] at hl
    omega
  have hc := h.cellAt (o + j) (by omega)
  have hg := (h.lt g rfl).2
  have hadd : (⟨g, o, none⟩ : Addr).add j = ⟨g, o + j, none⟩ := by unfold Addr.add; split <;> simp_all
  rw [hadd, hb.cell (p := ⟨g, o + j, none⟩) hg, hc, ← hu, List.getElem?_map, List.getElem?_map, hx j hj]
theorem news1K {w : World} {key : ByteArray} {t : TypeId} {g : Nat} (hg : w.heap.size = g) : ∀ j u, ([kb key].map encStr)[j]? = some u → (w.alloc (.cells #[.string key] t)).cell? ((⟨g, 0, none⟩ : Addr).add j) = some u := news1 w (.string key) t g hg

theorem keys_dup {all : List (List UInt8)} {k : Nat} {R : List (List UInt8)} (h : KeysRel (all.take k) R) (hk : k < all.length) (hm : all[k] ∈ R) : KeysRel (all.take (k + 1)) R := by
  refine ⟨h.1, fun x => ?_⟩
  rw [List.take_succ_eq_append_getElem hk, List.mem_append, ← h.2 x]
  constructor
  · exact .inl
  · rintro (h | h)
    · exact h
    · simp at h; subst h; exact hm
theorem keys_ins {all : List (List UInt8)} {k m : Nat} {R : List (List UInt8)} (h : KeysRel (all.take k) R) (hk : k < all.length) (hm : m ≤ R.length) (hlo : ∀ j (hj : j < R.length), j < m → R[j] < all[k]) (hhi : ∀ (hj : m < R.length), all[k] < R[m]) : KeysRel (all.take (k + 1)) (R.take m ++ [all[k]] ++ R.drop m) := by
  obtain ⟨h1, h2⟩ := h
  have hl : ∀ x ∈ R.take m, x < all[k] := fun x hx => by
    obtain ⟨j, hj, rfl⟩ := List.getElem_of_mem hx
    have hj2 : j < m ∧ j < R.length := by rw [List.length_take] at hj; omega
    rw [List.getElem_take]; exact hlo j hj2.2 hj2.1
  have hh : ∀ x ∈ R.drop m, all[k] < x := fun x hx => by
    obtain ⟨j, hj, rfl⟩ := List.getElem_of_mem hx
    rw [List.length_drop] at hj
    rw [List.getElem_drop]
    rcases Nat.eq_zero_or_pos j with rfl | hp
    · exact hhi (by omega)
    · exact List.lt_trans (hhi (by omega)) (List.pairwise_iff_getElem.1 h1 m (m + j) (by omega) (by omega) (by omega))
  refine ⟨?_, fun x => ?_⟩
  · rw [List.pairwise_append]
    refine ⟨?_, h1.drop, fun a ha b hb => ?_⟩
    · rw [List.pairwise_append]
      exact ⟨h1.take, by simp, fun a ha b hb => by simp at hb; subst hb; exact hl a ha⟩
    · rcases List.mem_append.1 ha with ha | ha
      · exact List.lt_trans (hl a ha) (hh b hb)
      · simp at ha; subst ha; exact hh b hb
  · rw [List.take_succ_eq_append_getElem hk, List.mem_append (s := all.take k), ← h2 x]
    constructor
    · intro hx
      rcases List.mem_append.1 hx with hx | hx
      · rcases List.mem_append.1 hx with hx | hx
        · exact .inl (List.mem_of_mem_take hx)
        · exact .inr hx
      · exact .inl (List.mem_of_mem_drop hx)
    · rintro (hx | hx)
      · rw [← List.take_append_drop m R] at hx
        rcases List.mem_append.1 hx with hx | hx
        · exact List.mem_append_left _ (List.mem_append_left _ hx)
        · exact List.mem_append_right _ hx
      · exact List.mem_append_left _ (List.mem_append_right _ hx)
theorem baOf_toList (l : List UInt8) : (baOf l).toList = l := by simp [baOf, ByteArray.toList_eq]
theorem kb_toList (b : ByteArray) : b.toList = kb b := by simp [kb, ByteArray.toList_eq]
theorem lt_of_ge_ne {a b : List UInt8} (h1 : ¬ a < b) (h2 : a ≠ b) : b < a := Std.lt_of_le_of_ne (List.not_lt.1 h1) (fun e => h2 e.symm)
theorem kb_inj {a b : ByteArray} (h : kb a = kb b) : a = b := by
  have h2 : a.data = b.data := Array.ext' h
  cases a; cases b; cases h2; rfl

set_option maxRecDepth 100000 in
set_option maxHeartbeats 8000000 in
theorem l4Keys_any (id : Int) (a1 a2 : Option Addr) (ws : List WantD) (us : List WriteD) (k1 k2 : Nat) (w : World) (hv : WantsIn w a1 ws) (hu : WritesIn w a2 us) (hn : ws.length ≤ 1048576) (hm : us.length ≤ 1048576) :
    Calls Try.prog 121 #[.agg #[.int .i64 id, .slice a1 ws.length k1, .slice a2 us.length k2]] w (KeysOut (txKeys ws us) w) := by
  have HV := Lib.hid hv
  have HU := Lib.hid hu
  clear hv hu
  obtain ⟨i0, hi0, hz0, hz1, hz2⟩ := info_parts infoStr1
  obtain ⟨W0, hW0⟩ : ∃ W0, w.alloc (.cells #[.int .i64 id, .slice a1 ws.length k1, .slice a2 us.length k2] 93) = W0 := ⟨_, rfl⟩
  have B0 : Below w.heap.size w W0 := by rw [← hW0]; exact (Below.refl _ _).alloc (Nat.le_refl _) _
  have s0 : W0.heap.size = w.heap.size + 1 := by rw [← hW0]; simp
  have x1 : W0.cell? ⟨w.heap.size, 1, none⟩ = some (.slice a1 ws.length k1) := by rw [← hW0]; simp [go_sem]
  have x2 : W0.cell? ⟨w.heap.size, 2, none⟩ = some (.slice a2 us.length k2) := by rw [← hW0]; simp [go_sem]
  have HB0 := Lib.hid B0
  have hlenA : (txKeys ws us).length = ws.length + us.length := txKeys_len ws us
  have HA := Lib.hid hlenA
  have hadd : IntKind.i64.wrap ((ws.length : Int) + (us.length : Int)) = ((ws.length + us.length : Nat) : Int) := by rw [IntKind.wrap_i64]; omega
  clear B0 hlenA
  go_enter Try.func121, Try.ntmps121
  go_wp2_with fail
  go_loopw [3, 4] (fun v' i wr => ∃ (g c k n : Nat) (R : List (List UInt8)), v' = .slice (some ⟨g, 0, none⟩) n c ∧ R.length = n ∧ k ≤ ws.length + us.length ∧ n ≤ k ∧ i = .int .i64 (k : Int) ∧ Below (w.heap.size + 1) W0 wr ∧ wr.ownsRow (w.heap.size + 1) 9 1 (.slice (some ⟨g, 0, none⟩) n c) n (R.map encStr) ∧ KeysRel ((txKeys ws us).take k) R) (fun _ i _ => ws.length + us.length - (intOf i).toNat)
  case atStart => exact ⟨_, 0, 0, 0, [], rfl, rfl, Nat.zero_le _, Nat.le_refl _, rfl, (Below.refl _ _).alloc (by omega) _, empty_strs (by have := heap_alloc_new W0 (.cells #[] 9); rw [s0] at this; exact this) (Nat.le_refl _), List.Pairwise.nil, fun x => by simp⟩
  case round =>
    obtain ⟨g, c, k, n, R, rfl, hRl, hk, hnk, rfl, hB, hO, hR⟩ := hrel
    clear hW0
    have y1 := (hB.cell (p := ⟨w.heap.size, 1, none⟩) (Nat.lt_succ_self _)).trans x1
    have y2 := (hB.cell (p := ⟨w.heap.size, 2, none⟩) (Nat.lt_succ_self _)).trans x2
    have hsz : w.heap.size + 1 ≤ wr.heap.size := by have := hB.size; omega
    have HX := Lib.hid (HB0.out.trans (hB.mono (by omega)))
    have HB := Lib.hid hB
    have hcap := own_capS hO
    have HO := Lib.hid hO
    have HR := Lib.hid hR
    have hgw := (hO.lt g rfl).2
    clear hB hO hR
    by_cases hlt : k < ws.length + us.length
    case neg =>
      obtain rfl : k = ws.length + us.length := by omega
      go_wp2_with fail
      go_ret
      subst hRl
      have hall : (txKeys ws us).take (ws.length + us.length) = txKeys ws us := by rw [← HA.out, List.take_length]
      refine ⟨R, some ⟨g, 0, none⟩, c, by rw [← hall]; exact HR.out, rfl, .inr ⟨g, 0, rfl, hgw, fun i hi => ?_⟩, ?_, (fun b off e => by cases e; exact ⟨by have := (HO.out.lt g rfl).1; omega, hgw⟩), HX.out⟩
      · have hi' : i < R.length := by simpa using hi
        have hc := HO.out.cellAt i (by omega)
        rw [List.getElem?_map, List.getElem?_eq_getElem hi'] at hc
        rw [Nat.zero_add]
        simpa [encStr_eq] using hc
      · have := own_free HO.out
        rwa [Nat.mul_one] at this
    obtain ⟨key, hkd⟩ : ∃ key : ByteArray, ∀ (h : k < (txKeys ws us).length), (txKeys ws us)[k] = kb key := ⟨baOf ((txKeys ws us)[k]'(by rw [HA.out]; exact hlt)), fun h => rfl⟩
    have HK := Lib.hid hkd
    clear hkd
    have hpart : (k < ws.length ∧ ∃ b1 o1, a1 = some ⟨b1, o1, none⟩ ∧ wr.cell? ⟨b1, o1 + k * 2, none⟩ = some (.string key)) ∨ (∃ j, k = ws.length + j ∧ j < us.length ∧ ∃ b1 o1, a2 = some ⟨b1, o1, none⟩ ∧ wr.cell? ⟨b1, o1 + j * 3, none⟩ = some (.string key)) := by
      by_cases hw : k < ws.length
      · left
        refine ⟨hw, ?_⟩
        rcases HV.out.below HX.out with hnil | ⟨b1, o1, e1, hb1, hc1⟩
        · rw [hnil] at hw; simp at hw
        · refine ⟨b1, o1, e1, ?_⟩
          have hke : ws[k].f0 = key := by
            have h1 := HK.out (by rw [HA.out]; exact hlt)
            have h2 : (txKeys ws us)[k]'(by rw [HA.out]; exact hlt) = kb ws[k].f0 := by
              simp only [txKeys, wKeys]
              rw [List.getElem_append_left (by simpa using hw)]
              simp
            rw [h2] at h1
            exact kb_inj h1
          rw [← hke]; exact (hc1 k hw).1
      · right
        refine ⟨k - ws.length, by omega, by omega, ?_⟩
        have hj : k - ws.length < us.length := by omega
        rcases HU.out.below HX.out with hnil | ⟨b1, o1, e1, hb1, hc1⟩
        · rw [hnil] at hj; simp at hj
        · refine ⟨b1, o1, e1, ?_⟩
          have hke : us[k - ws.length].f0 = key := by
            have h1 := HK.out (by rw [HA.out]; exact hlt)
            have h2 : (txKeys ws us)[k]'(by rw [HA.out]; exact hlt) = kb us[k - ws.length].f0 := by
              simp only [txKeys, wKeys, uKeys]
              rw [List.getElem_append_right (by simp; omega)]
              simp
            rw [h2] at h1
            exact kb_inj h1
          rw [← hke]; exact (hc1 _ hj).1
    clear HV HU
    rcases hpart with ⟨hw, b1, o1, rfl, ck⟩ | ⟨j, hkj, hj, b1, o1, rfl, ck⟩
    case' inr => have hsub : IntKind.i64.wrap ((k : Int) - (ws.length : Int)) = (j : Int) := by rw [IntKind.wrap_i64]; omega
    all_goals
      go_upto_region 9 with fail
      clear y1 y2 ck
      go_wp2_with fail
      go_loop [6] (fun i => ∃ m : Nat, m ≤ n ∧ i = .int .i64 (m : Int) ∧ ∀ j (hj : j < R.length), j < m → R[j] < kb key) (fun i => n - (intOf i).toNat)
      case atStart => exact ⟨0, Nat.zero_le _, rfl, fun j hj h => absurd h (by omega)⟩
      case round =>
        obtain ⟨m, hmn, rfl, hlo⟩ := hrel
        have HLO := Lib.hid hlo
        clear hlo
        have i1 : (0 : Int) ≤ (m : Int) := by omega
        by_cases hmlt : m < n
        · have hmR : m < R.length := by omega
          have i2 : (m : Int) < (n : Int) := by omega
          have cm : wr.cell? ⟨g, m, none⟩ = some (.string (baOf R[m])) := by
            have := HO.out.cellAt m (by omega)
            rw [List.getElem?_map, List.getElem?_eq_getElem hmR] at this
            simpa [encStr_eq] using this
          cases hL : Op.bytesLess (baOf R[m]).toList key.toList
          case true =>
            have hLt : R[m] < kb key := by rw [baOf_toList, kb_toList, bytesLess_eq] at hL; simpa using hL
            have HL := Lib.hid hLt
            clear hLt
            go_wp2_with fail
            exact ⟨⟨m + 1, by omega, by go_num, fun j hj h => by
              by_cases e : j = m
              · subst e; exact HL.out
              · exact HLO.out j hj (by omega)⟩, by simp [intOf]; omega⟩
          have hge : ¬ R[m] < kb key := by rw [baOf_toList, kb_toList, bytesLess_eq] at hL; simpa using hL
          have HGE := Lib.hid hge
          clear hge
          cases hQ : ((baOf R[m]).toList == key.toList)
          case true =>
            have hEq : R[m] = kb key := by rw [baOf_toList, kb_toList] at hQ; simpa using hQ
            have HE := Lib.hid hEq
            clear hEq
            go_wp2_with fail
            go_roundw
            case rel => exact ⟨g, c, k + 1, n, R, rfl, hRl, by omega, by omega, by go_num, HB.out, HO.out, keys_dup HR.out (by rw [HA.out]; exact hlt) (by rw [HK.out, ← HE.out]; exact List.getElem_mem _)⟩
            case measure => simp [intOf]; omega
          have hne : R[m] ≠ kb key := by rw [baOf_toList, kb_toList] at hQ; simpa using hQ
          have HHI := Lib.hid (lt_of_ge_ne HGE.out hne)
          clear hne
          rcases Nat.eq_zero_or_pos m with rfl | hm0
          · go_upto_region 13 with fail
            clear cm hL hQ
            obtain ⟨wA, hwA⟩ : ∃ wA, wr.alloc (.cells #[] 9) = wA := ⟨_, rfl⟩
            have HA1 := Lib.hid (show Below wr.heap.size wr wA by rw [← hwA]; exact (Below.refl _ _).alloc (Nat.le_refl _) _)
            have HO1 := Lib.hid (show wA.ownsRow wr.heap.size 9 1 (.slice (some ⟨wr.heap.size, 0, none⟩) 0 0) 0 ((R.take 0).map encStr) by rw [← hwA]; exact empty_strs (heap_alloc_new _ _) (Nat.le_refl _))
            go_upto_region 14 with fail
            clear hwA
            have sA : wr.heap.size ≤ wA.heap.size := HA1.out.size
            go_upto_region 15 with (at_builtin; refine wpList_append_lies _ rfl _ _ 88 rfl wr.heap.size 9 i0 (.string ⟨#[]⟩) 1 16 Try.underlying88 hi0 hz0 hz1 hz2 rfl (by decide) _ 0 ((R.take 0).map encStr) rfl (HO1.out.alloc _) ⟨wA.heap.size, 0, none⟩ 1 1 ([kb key].map encStr) rfl (rfl) (news1K rfl) (enc_one _) (by omega) (by unfold maxLen; omega) (by omega) (by simp; omega) _ rfl ?_; intro gB cpB wB hown hgrow hat hlt2; have XB := Lib.hid (And.intro hown hgrow); clear hown hgrow hat hlt2)
            obtain ⟨hown2, hgr2⟩ := XB.out
            have HA2 := Lib.hid (grown_ownS (HO1.out.alloc _) hgr2 (HA1.out.alloc sA _) (by simp; omega))
            rw [← List.map_append] at hown2
            rw [Nat.zero_add] at hown2
            have hcB := own_capS hown2
            have HO2 := Lib.hid hown2
            have sB : wr.heap.size ≤ wB.heap.size := HA2.out.size
            clear XB hown2 hgr2
            have hfin : (R.take 0 ++ [kb key] ++ R.drop 0).length = 1 + n := by simp; omega
            have HF := Lib.hid hfin
            clear hfin
            have q1 : (0 : Int) ≤ (0 : Int) := by omega
            have q2 : (0 : Int) ≤ (n : Int) := by omega
            have q4 : ¬ c = 0 := by omega
            have q5 : 0 ≤ c := by omega
            go_wp2_with (at_builtin; refine wpList_append_lies _ rfl _ _ 88 rfl wr.heap.size 9 i0 (.string ⟨#[]⟩) 1 16 Try.underlying88 hi0 hz0 hz1 hz2 rfl (by decide) _ 1 ((R.take 0 ++ [kb key]).map encStr) rfl (HO2.out) ⟨g, 0, none⟩ n c ((R.drop 0).map encStr) rfl (by rw [List.length_map, List.length_drop]; omega) (news_part HO.out ((Below.refl _ _).trans HA2.out) 0 (R.drop 0) (fun j hj => by rw [List.getElem?_drop])) (enc_one _) (by omega) (by unfold maxLen; omega) (by omega) (sB) _ rfl ?_; intro gC cpC wC hown hgrow hat hlt2; have XC := Lib.hid (And.intro hown hgrow); clear hown hgrow hat hlt2)
            obtain ⟨hown3, hgr3⟩ := XC.out
            have HA3 := Lib.hid (grown_ownS HO2.out hgr3 HA2.out sB)
            rw [← List.map_append] at hown3
            go_roundw
            case rel => exact ⟨gC, cpC, k + 1, _, R.take 0 ++ [kb key] ++ R.drop 0, rfl, HF.out, by omega, by omega, by go_num, HB.out.trans (HA3.out.mono hsz), ownMono hown3 hsz, by have := keys_ins HR.out (by rw [HA.out]; exact hlt) (m := 0) (by omega) (fun j hj h => by rw [HK.out]; exact HLO.out j hj h) (fun hj => by rw [HK.out]; exact HHI.out); rw [HK.out] at this; exact this⟩
            case measure => simp [intOf]; omega
          · go_upto_region 13 with fail
            clear cm hL hQ
            have hc0 : ¬ c = 0 := by omega
            have hmc : m ≤ c := by omega
            go_upto_region 14 with (at_builtin; refine wpList_append_lies _ rfl _ _ 88 rfl wr.heap.size 9 i0 (.string ⟨#[]⟩) 1 16 Try.underlying88 hi0 hz0 hz1 hz2 rfl (by decide) _ 0 (([] : List (List UInt8)).map encStr) rfl (empty_strs (heap_alloc_new _ _) (Nat.le_refl _)) ⟨g, 0, none⟩ m c ((R.take m).map encStr) rfl (by rw [List.length_map, List.length_take]; omega) (news_part HO.out ((Below.refl _ _).alloc (Nat.le_refl _) _) 0 (R.take m) (fun j hj => by rw [Nat.zero_add, List.getElem?_take_of_lt (by rw [List.length_take] at hj; omega)])) (enc_one _) (by omega) (by unfold maxLen; omega) (by omega) (by simp) _ rfl ?_; intro gA cpA wA hown hgrow hat hlt2; have XA := Lib.hid (And.intro hown hgrow); clear hown hgrow hat hlt2)
            obtain ⟨hown1, hgr1⟩ := XA.out
            have HA1 := Lib.hid (grown_ownS (empty_strs (heap_alloc_new _ _) (Nat.le_refl _)) hgr1 ((Below.refl _ _).alloc (Nat.le_refl _) _) (by simp))
            rw [Nat.zero_add, List.map_nil, List.nil_append] at hown1
            have HO1 := Lib.hid hown1
            clear XA hown1 hgr1
            have sA : wr.heap.size ≤ wA.heap.size := HA1.out.size
            go_upto_region 15 with (at_builtin; refine wpList_append_lies _ rfl _ _ 88 rfl wr.heap.size 9 i0 (.string ⟨#[]⟩) 1 16 Try.underlying88 hi0 hz0 hz1 hz2 rfl (by decide) _ m ((R.take m).map encStr) rfl (HO1.out.alloc _) ⟨wA.heap.size, 0, none⟩ 1 1 ([kb key].map encStr) rfl (rfl) (news1K rfl) (enc_one _) (by omega) (by unfold maxLen; omega) (by omega) (by simp; omega) _ rfl ?_; intro gB cpB wB hown hgrow hat hlt2; have XB := Lib.hid (And.intro hown hgrow); clear hown hgrow hat hlt2)
            obtain ⟨hown2, hgr2⟩ := XB.out
            have HA2 := Lib.hid (grown_ownS (HO1.out.alloc _) hgr2 (HA1.out.alloc sA _) (by simp; omega))
            rw [← List.map_append] at hown2
            have hcB := own_capS hown2
            have HO2 := Lib.hid hown2
            have sB : wr.heap.size ≤ wB.heap.size := HA2.out.size
            clear XB hown2 hgr2
            have hfin : (R.take m ++ [kb key] ++ R.drop m).length = m + 1 + (n - m) := by simp; omega
            have HF := Lib.hid hfin
            clear hfin
            have q1 : (0 : Int) ≤ (m : Int) := by omega
            have q2 : (m : Int) ≤ (n : Int) := by omega
            have q4 : ¬ c = m := by omega
            have q5 : m ≤ c := by omega
            go_wp2_with (at_builtin; refine wpList_append_lies _ rfl _ _ 88 rfl wr.heap.size 9 i0 (.string ⟨#[]⟩) 1 16 Try.underlying88 hi0 hz0 hz1 hz2 rfl (by decide) _ (m + 1) ((R.take m ++ [kb key]).map encStr) rfl (HO2.out) ⟨g, m, none⟩ (n - m) (c - m) ((R.drop m).map encStr) rfl (by rw [List.length_map, List.length_drop]; omega) (news_part HO.out ((Below.refl _ _).trans HA2.out) m (R.drop m) (fun j hj => by rw [List.getElem?_drop])) (enc_one _) (by omega) (by unfold maxLen; omega) (by omega) (sB) _ rfl ?_; intro gC cpC wC hown hgrow hat hlt2; have XC := Lib.hid (And.intro hown hgrow); clear hown hgrow hat hlt2)
            obtain ⟨hown3, hgr3⟩ := XC.out
            have HA3 := Lib.hid (grown_ownS HO2.out hgr3 HA2.out sB)
            rw [← List.map_append] at hown3
            go_roundw
            case rel => exact ⟨gC, cpC, k + 1, _, R.take m ++ [kb key] ++ R.drop m, rfl, HF.out, by omega, by omega, by go_num, HB.out.trans (HA3.out.mono hsz), ownMono hown3 hsz, by have := keys_ins HR.out (by rw [HA.out]; exact hlt) (m := m) (by omega) (fun j hj h => by rw [HK.out]; exact HLO.out j hj h) (fun hj => by rw [HK.out]; exact HHI.out); rw [HK.out] at this; exact this⟩
            case measure => simp [intOf]; omega
        · obtain rfl : m = n := by omega
          rcases Nat.eq_zero_or_pos m with rfl | hm0
          · go_upto_region 13 with fail
            obtain ⟨wA, hwA⟩ : ∃ wA, wr.alloc (.cells #[] 9) = wA := ⟨_, rfl⟩
            have HA1 := Lib.hid (show Below wr.heap.size wr wA by rw [← hwA]; exact (Below.refl _ _).alloc (Nat.le_refl _) _)
            have HO1 := Lib.hid (show wA.ownsRow wr.heap.size 9 1 (.slice (some ⟨wr.heap.size, 0, none⟩) 0 0) 0 ((R.take 0).map encStr) by rw [← hwA]; exact empty_strs (heap_alloc_new _ _) (Nat.le_refl _))
            go_upto_region 14 with fail
            clear hwA
            have sA : wr.heap.size ≤ wA.heap.size := HA1.out.size
            go_upto_region 15 with (at_builtin; refine wpList_append_lies _ rfl _ _ 88 rfl wr.heap.size 9 i0 (.string ⟨#[]⟩) 1 16 Try.underlying88 hi0 hz0 hz1 hz2 rfl (by decide) _ 0 ((R.take 0).map encStr) rfl (HO1.out.alloc _) ⟨wA.heap.size, 0, none⟩ 1 1 ([kb key].map encStr) rfl (rfl) (news1K rfl) (enc_one _) (by omega) (by unfold maxLen; omega) (by omega) (by simp; omega) _ rfl ?_; intro gB cpB wB hown hgrow hat hlt2; have XB := Lib.hid (And.intro hown hgrow); clear hown hgrow hat hlt2)
            obtain ⟨hown2, hgr2⟩ := XB.out
            have HA2 := Lib.hid (grown_ownS (HO1.out.alloc _) hgr2 (HA1.out.alloc sA _) (by simp; omega))
            rw [← List.map_append] at hown2
            rw [Nat.zero_add] at hown2
            have hcB := own_capS hown2
            have HO2 := Lib.hid hown2
            have sB : wr.heap.size ≤ wB.heap.size := HA2.out.size
            clear XB hown2 hgr2
            have hfin : (R.take 0 ++ [kb key] ++ R.drop 0).length = 0 + 1 := by have h : R = [] := List.eq_nil_of_length_eq_zero (by omega); simp [h]
            have hdrop : R.drop 0 = [] := by rw [List.drop_eq_nil_iff]; omega
            have HF := Lib.hid hfin
            have HD := Lib.hid hdrop
            clear hfin hdrop
            by_cases hcn : c = 0
            all_goals
              go_wp2_with fail
              go_roundw
              case rel => exact ⟨gB, cpB, k + 1, 0 + 1, R.take 0 ++ [kb key] ++ R.drop 0, rfl, HF.out, by omega, by omega, by go_num, HB.out.trans (HA2.out.mono hsz), by rw [HD.out, List.append_nil]; exact ownMono HO2.out hsz, by have := keys_ins HR.out (by rw [HA.out]; exact hlt) (m := 0) (by omega) (fun j hj h => by rw [HK.out]; exact HLO.out j hj h) (fun hj => absurd hj (by omega)); rw [HK.out] at this; exact this⟩
              case measure => simp [intOf]; omega
          · go_upto_region 13 with fail
            have hc0 : ¬ c = 0 := by omega
            have hmc : m ≤ c := by omega
            go_upto_region 14 with (at_builtin; refine wpList_append_lies _ rfl _ _ 88 rfl wr.heap.size 9 i0 (.string ⟨#[]⟩) 1 16 Try.underlying88 hi0 hz0 hz1 hz2 rfl (by decide) _ 0 (([] : List (List UInt8)).map encStr) rfl (empty_strs (heap_alloc_new _ _) (Nat.le_refl _)) ⟨g, 0, none⟩ m c ((R.take m).map encStr) rfl (by rw [List.length_map, List.length_take]; omega) (news_part HO.out ((Below.refl _ _).alloc (Nat.le_refl _) _) 0 (R.take m) (fun j hj => by rw [Nat.zero_add, List.getElem?_take_of_lt (by rw [List.length_take] at hj; omega)])) (enc_one _) (by omega) (by unfold maxLen; omega) (by omega) (by simp) _ rfl ?_; intro gA cpA wA hown hgrow hat hlt2; have XA := Lib.hid (And.intro hown hgrow); clear hown hgrow hat hlt2)
            obtain ⟨hown1, hgr1⟩ := XA.out
            have HA1 := Lib.hid (grown_ownS (empty_strs (heap_alloc_new _ _) (Nat.le_refl _)) hgr1 ((Below.refl _ _).alloc (Nat.le_refl _) _) (by simp))
            rw [Nat.zero_add, List.map_nil, List.nil_append] at hown1
            have HO1 := Lib.hid hown1
            clear XA hown1 hgr1
            have sA : wr.heap.size ≤ wA.heap.size := HA1.out.size
            go_upto_region 15 with (at_builtin; refine wpList_append_lies _ rfl _ _ 88 rfl wr.heap.size 9 i0 (.string ⟨#[]⟩) 1 16 Try.underlying88 hi0 hz0 hz1 hz2 rfl (by decide) _ m ((R.take m).map encStr) rfl (HO1.out.alloc _) ⟨wA.heap.size, 0, none⟩ 1 1 ([kb key].map encStr) rfl (rfl) (news1K rfl) (enc_one _) (by omega) (by unfold maxLen; omega) (by omega) (by simp; omega) _ rfl ?_; intro gB cpB wB hown hgrow hat hlt2; have XB := Lib.hid (And.intro hown hgrow); clear hown hgrow hat hlt2)
            obtain ⟨hown2, hgr2⟩ := XB.out
            have HA2 := Lib.hid (grown_ownS (HO1.out.alloc _) hgr2 (HA1.out.alloc sA _) (by simp; omega))
            rw [← List.map_append] at hown2
            have hcB := own_capS hown2
            have HO2 := Lib.hid hown2
            have sB : wr.heap.size ≤ wB.heap.size := HA2.out.size
            clear XB hown2 hgr2
            have hfin : (R.take m ++ [kb key] ++ R.drop m).length = m + 1 := by simp; omega
            have hdrop : R.drop m = [] := by rw [List.drop_eq_nil_iff]; omega
            have HF := Lib.hid hfin
            have HD := Lib.hid hdrop
            clear hfin hdrop
            by_cases hcn : c = m
            all_goals
              go_wp2_with fail
              go_roundw
              case rel => exact ⟨gB, cpB, k + 1, m + 1, R.take m ++ [kb key] ++ R.drop m, rfl, HF.out, by omega, by omega, by go_num, HB.out.trans (HA2.out.mono hsz), by rw [HD.out, List.append_nil]; exact ownMono HO2.out hsz, by have := keys_ins HR.out (by rw [HA.out]; exact hlt) (m := m) (by omega) (fun j hj h => by rw [HK.out]; exact HLO.out j hj h) (fun hj => absurd hj (by omega)); rw [HK.out] at this; exact this⟩
              case measure => simp [intOf]; omega
end Go.Proofs.Ythjikcfpoomioaa
