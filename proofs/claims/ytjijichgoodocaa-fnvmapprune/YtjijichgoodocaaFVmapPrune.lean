/- The law FnVmapPrune: who asks as of then, or later, sees the same. -/
import Derived.Test.YtjijichgoodocaaFvD
namespace Go.Proofs.Ytjijichgoodocaa
open Go.RowKit

set_option maxRecDepth 100000 in
set_option maxHeartbeats 8000000 in
theorem fnVmapPrune_law (a : Option Addr) (len cap : Nat) (am2 : Option Addr) (len2 cap2 : Nat) (w : World) (h : BytesIn w a len cap) (h2 : BytesIn w am2 len2 cap2) :
    Calls Try.prog 8 #[.slice a len cap, .slice am2 len2 cap2] w fun e w' => e = .returned (.bool true) ∧ Below w.heap.size w w' := by
  have hcm := h.2.1
  have hlc := h.1
  have hcm2 := h2.2.1
  have hlc2 := h2.1
  have H := Lib.hid h
  clear h
  unfold maxLen at hcm hcm2
  by_cases hl : 1048576 < len
  · go_enter Try.func8, Try.ntmps8
    go_wp2_with fail
    go_ret
    exact ⟨rfl, Below.refl _ _⟩
  by_cases hl2 : 1048576 < len2
  · go_enter Try.func8, Try.ntmps8
    go_wp2_with fail
    go_ret
    exact ⟨rfl, Below.refl _ _⟩
  go_enter Try.func8, Try.ntmps8
  go_wp2_with fail
  refine (drawVmapPrune_any a len cap _ H.out).mono ?_
  rintro e w1 ⟨os, am, c, id, hid0, hid1, rfl, hD, hb⟩
  have HB := Lib.hid hb
  have HD := Lib.hid hD.mr
  have HM := Lib.hid (h2.below hb)
  clear hD hb H h2
  obtain ⟨V_1, hV_1⟩ : ∃ V_1, w1.alloc (.cells #[.slice am os.length c] 25) = V_1 := ⟨_, rfl⟩
  have bV_1 : Below w1.heap.size w1 V_1 := by rw [← hV_1]; exact (Below.refl _ _).alloc (Nat.le_refl _) _
  have c_2 : V_1.cell? ⟨w1.heap.size, 0, none⟩ = some (.slice am os.length c) := by rw [← hV_1]; simp [go_sem]
  have s_3 : w1.heap.size < V_1.heap.size := by rw [← hV_1]; simp
  have k_4 : w1.heap.size < V_1.heap.size := s_3
  have H_5 := Lib.hid (HD.out.below bV_1)
  have H_6 := Lib.hid (HM.out.below bV_1)
  have HB := Lib.hid (HB.out.trans (bV_1.mono HB.out.size))
  have o_7 : w1.heap.size ≤ V_1.heap.size := bV_1.size
  clear bV_1
  go_wp2_with fail
  clear hV_1
  refine (vmapPrune_m H_5.out c id).mono ?_
  rintro e w2 ⟨ax, xs, cx, hkx, rfl, hmx, hb⟩
  have c_8 := (hb.cell (p := ⟨w1.heap.size, 0, none⟩) s_3).trans c_2
  have s_9 : w1.heap.size < w2.heap.size := Nat.lt_of_lt_of_le s_3 hb.size
  have H_10 := Lib.hid (H_5.out.below hb)
  have H_11 := Lib.hid (H_6.out.below hb)
  have HB := Lib.hid (HB.out.trans (hb.mono HB.out.size))
  have o_12 : V_1.heap.size ≤ w2.heap.size := hb.size
  clear c_2 s_3
  have HX := Lib.hid hmx
  have HKX := Lib.hid hkx
  clear hb hmx hkx
  obtain ⟨V_13, hV_13⟩ : ∃ V_13, w2.alloc (.cells #[.slice ax xs.length cx] 25) = V_13 := ⟨_, rfl⟩
  have bV_13 : Below w2.heap.size w2 V_13 := by rw [← hV_13]; exact (Below.refl _ _).alloc (Nat.le_refl _) _
  have c_14 : V_13.cell? ⟨w2.heap.size, 0, none⟩ = some (.slice ax xs.length cx) := by rw [← hV_13]; simp [go_sem]
  have s_15 : w2.heap.size < V_13.heap.size := by rw [← hV_13]; simp
  have k_16 : w2.heap.size < V_13.heap.size := s_15
  have c_17 := (bV_13.cell (p := ⟨w1.heap.size, 0, none⟩) s_9).trans c_8
  have s_18 : w1.heap.size < V_13.heap.size := Nat.lt_of_lt_of_le s_9 bV_13.size
  have H_19 := Lib.hid (H_10.out.below bV_13)
  have H_20 := Lib.hid (H_11.out.below bV_13)
  have H_21 := Lib.hid (HX.out.below bV_13)
  have HB := Lib.hid (HB.out.trans (bV_13.mono HB.out.size))
  have o_22 : w2.heap.size ≤ V_13.heap.size := bV_13.size
  clear c_8 s_9
  clear bV_13
  obtain ⟨ok, hok⟩ := mok_ex os
  have HOK := Lib.hid hok
  clear hok
  go_wp2_with fail
  clear hV_13
  cases ok
  · skip
    go_cut [41] from 42 (fun t u => t = .bool (!false) ∧ Below V_13.heap.size V_13 u)
    case first =>
      have hbq : Below V_13.heap.size V_13 V_13.drew := (Below.refl _ _).drew
      have qq := And.intro (c_14) (c_17)
      go_region_held3 (fun u => u.cell? ⟨w2.heap.size, 0, none⟩ = some (.slice ax xs.length cx) ∧ u.cell? ⟨w1.heap.size, 0, none⟩ = some (.slice am os.length c))
        (first | with_reducible exact qq | exact qq | fail)
        (first
          | (go_at_call 39; (with_reducible refine (specVmapPrune_m (H_19.out.below hbq) c id).mono ?_); rintro e v ⟨aA, csA, cA, hkA, rfl, hmA, hb⟩; have hbq := hbq.trans (hb.mono hbq.size); have qq := And.intro ((hbq.cell (p := ⟨w2.heap.size, 0, none⟩) s_15).trans c_14) ((hbq.cell (p := ⟨w1.heap.size, 0, none⟩) s_18).trans c_17); clear hb; have HA := Lib.hid hmA; have HKA := Lib.hid hkA; clear hmA hkA)
          | (go_at_call 18; (with_reducible refine (caMap_m (H_21.out.below hbq) HA.out (HKX.out.trans HKA.out.symm) _ _).mono ?_); rintro e v ⟨rfl, hb⟩; have hbq := hbq.trans (hb.mono hbq.size); have qq := And.intro ((hbq.cell (p := ⟨w2.heap.size, 0, none⟩) s_15).trans c_14) ((hbq.cell (p := ⟨w1.heap.size, 0, none⟩) s_18).trans c_17); clear hb)
          | (go_at_call 19; (with_reducible refine (vmapOk_is HOK.out (H_19.out.below hbq) c).mono ?_); rintro e v ⟨rfl, hb⟩; have hbq := hbq.trans (hb.mono hbq.size); have qq := And.intro ((hbq.cell (p := ⟨w2.heap.size, 0, none⟩) s_15).trans c_14) ((hbq.cell (p := ⟨w1.heap.size, 0, none⟩) s_18).trans c_17); clear hb)
          | fail)
      all_goals
        go_wp2_with fail
        go_meet
        exact ⟨rfl, hbq⟩
    case rest =>
      obtain ⟨rfl, hb⟩ := hcut
      obtain ⟨w3, rfl⟩ : ∃ x, x = wc := ⟨_, rfl⟩
      have c_1023 := (hb.cell (p := ⟨w1.heap.size, 0, none⟩) s_18).trans c_17
      have s_1024 : w1.heap.size < w3.heap.size := Nat.lt_of_lt_of_le s_18 hb.size
      have c_1025 := (hb.cell (p := ⟨w2.heap.size, 0, none⟩) s_15).trans c_14
      have s_1026 : w2.heap.size < w3.heap.size := Nat.lt_of_lt_of_le s_15 hb.size
      have H_1027 := Lib.hid (H_19.out.below hb)
      have H_1028 := Lib.hid (H_20.out.below hb)
      have H_1029 := Lib.hid (H_21.out.below hb)
      have HB := Lib.hid (HB.out.trans (hb.mono HB.out.size))
      have o_1030 : V_13.heap.size ≤ w3.heap.size := hb.size
      clear c_17 s_18 c_14 s_15
      clear hb
      go_wp2_with fail
      have hbq : Below w3.heap.size w3 w3.drew := (Below.refl _ _).drew
      have qq := And.intro (c_1025) (c_1023)
      go_region_held3 (fun u => u.cell? ⟨w2.heap.size, 0, none⟩ = some (.slice ax xs.length cx) ∧ u.cell? ⟨w1.heap.size, 0, none⟩ = some (.slice am os.length c))
        (first | with_reducible exact qq | exact qq | fail)
        (first
          | (go_at_call 39; (with_reducible refine (specVmapPrune_m (H_1027.out.below hbq) c id).mono ?_); rintro e v ⟨aA, csA, cA, hkA, rfl, hmA, hb⟩; have hbq := hbq.trans (hb.mono hbq.size); have qq := And.intro ((hbq.cell (p := ⟨w2.heap.size, 0, none⟩) s_1026).trans c_1025) ((hbq.cell (p := ⟨w1.heap.size, 0, none⟩) s_1024).trans c_1023); clear hb; have HA := Lib.hid hmA; have HKA := Lib.hid hkA; clear hmA hkA)
          | (go_at_call 18; (with_reducible refine (caMap_m (H_1029.out.below hbq) HA.out (HKX.out.trans HKA.out.symm) _ _).mono ?_); rintro e v ⟨rfl, hb⟩; have hbq := hbq.trans (hb.mono hbq.size); have qq := And.intro ((hbq.cell (p := ⟨w2.heap.size, 0, none⟩) s_1026).trans c_1025) ((hbq.cell (p := ⟨w1.heap.size, 0, none⟩) s_1024).trans c_1023); clear hb)
          | fail)
      all_goals
        go_wp2_with fail
        go_ret
        exact ⟨rfl, HB.out.trans (hbq.mono HB.out.size)⟩
  · skip
    go_cut [41] from 42 (fun t u => t = .bool (!true) ∧ Below V_13.heap.size V_13 u)
    case first =>
      have hbq : Below V_13.heap.size V_13 V_13.drew := (Below.refl _ _).drew
      have qq := And.intro (c_14) (c_17)
      go_region_held3 (fun u => u.cell? ⟨w2.heap.size, 0, none⟩ = some (.slice ax xs.length cx) ∧ u.cell? ⟨w1.heap.size, 0, none⟩ = some (.slice am os.length c))
        (first | with_reducible exact qq | exact qq | fail)
        (first
          | (go_at_call 39; (with_reducible refine (specVmapPrune_m (H_19.out.below hbq) c id).mono ?_); rintro e v ⟨aA, csA, cA, hkA, rfl, hmA, hb⟩; have hbq := hbq.trans (hb.mono hbq.size); have qq := And.intro ((hbq.cell (p := ⟨w2.heap.size, 0, none⟩) s_15).trans c_14) ((hbq.cell (p := ⟨w1.heap.size, 0, none⟩) s_18).trans c_17); clear hb; have HA := Lib.hid hmA; have HKA := Lib.hid hkA; clear hmA hkA)
          | (go_at_call 18; (with_reducible refine (caMap_m (H_21.out.below hbq) HA.out (HKX.out.trans HKA.out.symm) _ _).mono ?_); rintro e v ⟨rfl, hb⟩; have hbq := hbq.trans (hb.mono hbq.size); have qq := And.intro ((hbq.cell (p := ⟨w2.heap.size, 0, none⟩) s_15).trans c_14) ((hbq.cell (p := ⟨w1.heap.size, 0, none⟩) s_18).trans c_17); clear hb)
          | (go_at_call 19; (with_reducible refine (vmapOk_is HOK.out (H_19.out.below hbq) c).mono ?_); rintro e v ⟨rfl, hb⟩; have hbq := hbq.trans (hb.mono hbq.size); have qq := And.intro ((hbq.cell (p := ⟨w2.heap.size, 0, none⟩) s_15).trans c_14) ((hbq.cell (p := ⟨w1.heap.size, 0, none⟩) s_18).trans c_17); clear hb)
          | fail)
      all_goals
        go_wp2_with fail
        go_meet
        exact ⟨rfl, hbq⟩
    case rest =>
      obtain ⟨rfl, hb⟩ := hcut
      obtain ⟨w3, rfl⟩ : ∃ x, x = wc := ⟨_, rfl⟩
      have c_1023 := (hb.cell (p := ⟨w1.heap.size, 0, none⟩) s_18).trans c_17
      have s_1024 : w1.heap.size < w3.heap.size := Nat.lt_of_lt_of_le s_18 hb.size
      have c_1025 := (hb.cell (p := ⟨w2.heap.size, 0, none⟩) s_15).trans c_14
      have s_1026 : w2.heap.size < w3.heap.size := Nat.lt_of_lt_of_le s_15 hb.size
      have H_1027 := Lib.hid (H_19.out.below hb)
      have H_1028 := Lib.hid (H_20.out.below hb)
      have H_1029 := Lib.hid (H_21.out.below hb)
      have HB := Lib.hid (HB.out.trans (hb.mono HB.out.size))
      have o_1030 : V_13.heap.size ≤ w3.heap.size := hb.size
      clear c_17 s_18 c_14 s_15
      clear hb
      go_wp2_with fail
      have HMO := Lib.hid (HOK.out.1 rfl)
      refine (drawVmapAt_any am2 len2 cap2 _ H_1028.out).mono ?_
      rintro e w4 ⟨os2, am3, c2, key, at0, hkey, ha0, ha1, rfl, hD2, hb⟩
      have HKY := Lib.hid hkey
      clear hkey hD2
      have c_1031 := (hb.cell (p := ⟨w1.heap.size, 0, none⟩) s_1024).trans c_1023
      have s_1032 : w1.heap.size < w4.heap.size := Nat.lt_of_lt_of_le s_1024 hb.size
      have c_1033 := (hb.cell (p := ⟨w2.heap.size, 0, none⟩) s_1026).trans c_1025
      have s_1034 : w2.heap.size < w4.heap.size := Nat.lt_of_lt_of_le s_1026 hb.size
      have H_1035 := Lib.hid (H_1027.out.below hb)
      have H_1036 := Lib.hid (H_1028.out.below hb)
      have H_1037 := Lib.hid (H_1029.out.below hb)
      have HB := Lib.hid (HB.out.trans (hb.mono HB.out.size))
      have o_1038 : w3.heap.size ≤ w4.heap.size := hb.size
      clear c_1023 s_1024 c_1025 s_1026
      clear hb
      obtain ⟨V_1039, hV_1039⟩ : ∃ V_1039, w4.alloc (.cells #[.slice am3 os2.length c2] 25) = V_1039 := ⟨_, rfl⟩
      have bV_1039 : Below w4.heap.size w4 V_1039 := by rw [← hV_1039]; exact (Below.refl _ _).alloc (Nat.le_refl _) _
      have c_1040 : V_1039.cell? ⟨w4.heap.size, 0, none⟩ = some (.slice am3 os2.length c2) := by rw [← hV_1039]; simp [go_sem]
      have s_1041 : w4.heap.size < V_1039.heap.size := by rw [← hV_1039]; simp
      have k_1042 : w4.heap.size < V_1039.heap.size := s_1041
      have c_1043 := (bV_1039.cell (p := ⟨w1.heap.size, 0, none⟩) s_1032).trans c_1031
      have s_1044 : w1.heap.size < V_1039.heap.size := Nat.lt_of_lt_of_le s_1032 bV_1039.size
      have c_1045 := (bV_1039.cell (p := ⟨w2.heap.size, 0, none⟩) s_1034).trans c_1033
      have s_1046 : w2.heap.size < V_1039.heap.size := Nat.lt_of_lt_of_le s_1034 bV_1039.size
      have H_1047 := Lib.hid (H_1035.out.below bV_1039)
      have H_1048 := Lib.hid (H_1037.out.below bV_1039)
      have HB := Lib.hid (HB.out.trans (bV_1039.mono HB.out.size))
      have o_1049 : w4.heap.size ≤ V_1039.heap.size := bV_1039.size
      clear c_1031 s_1032 c_1033 s_1034
      clear bV_1039
      obtain ⟨at1, hat1⟩ : ∃ x : Int, x = if at0 < id then id else at0 := ⟨_, rfl⟩
      have hat2 : id ≤ at1 := by rw [hat1]; split <;> omega
      have HAT := Lib.hid hat2
      by_cases hlt : at0 < id
      · skip
        obtain rfl : id = at1 := by rw [hat1, if_pos hlt]
        clear hat1 hat2
        go_wp2_with fail
        clear hV_1039
        clear c_1040 s_1041
        refine (vmapAt_v H_1047.out c key id HKY.out).mono ?_
        rintro e w5 ⟨i1, t1, g1, b1, hv, rfl, hb⟩
        have K1 := Lib.hid hv
        clear hv
        have c_2050 := (hb.cell (p := ⟨w1.heap.size, 0, none⟩) s_1044).trans c_1043
        have s_2051 : w1.heap.size < w5.heap.size := Nat.lt_of_lt_of_le s_1044 hb.size
        have c_2052 := (hb.cell (p := ⟨w2.heap.size, 0, none⟩) s_1046).trans c_1045
        have s_2053 : w2.heap.size < w5.heap.size := Nat.lt_of_lt_of_le s_1046 hb.size
        have H_2054 := Lib.hid (H_1047.out.below hb)
        have H_2055 := Lib.hid (H_1048.out.below hb)
        have HB := Lib.hid (HB.out.trans (hb.mono HB.out.size))
        have o_2056 : V_1039.heap.size ≤ w5.heap.size := hb.size
        clear c_1043 s_1044 c_1045 s_1046
        clear hb
        obtain ⟨V_2057, hV_2057⟩ : ∃ V_2057, w5.alloc (.cells #[.int .i64 i1, .string t1, .bool g1] 27) = V_2057 := ⟨_, rfl⟩
        have bV_2057 : Below w5.heap.size w5 V_2057 := by rw [← hV_2057]; exact (Below.refl _ _).alloc (Nat.le_refl _) _
        have c_2058 : V_2057.cell? ⟨w5.heap.size, 0, none⟩ = some (.int .i64 i1) := by rw [← hV_2057]; simp [go_sem]
        have c_2059 : V_2057.cell? ⟨w5.heap.size, 1, none⟩ = some (.string t1) := by rw [← hV_2057]; simp [go_sem]
        have c_2060 : V_2057.cell? ⟨w5.heap.size, 2, none⟩ = some (.bool g1) := by rw [← hV_2057]; simp [go_sem]
        have s_2061 : w5.heap.size < V_2057.heap.size := by rw [← hV_2057]; simp
        have k_2062 : w5.heap.size < V_2057.heap.size := s_2061
        have c_2063 := (bV_2057.cell (p := ⟨w1.heap.size, 0, none⟩) s_2051).trans c_2050
        have s_2064 : w1.heap.size < V_2057.heap.size := Nat.lt_of_lt_of_le s_2051 bV_2057.size
        have c_2065 := (bV_2057.cell (p := ⟨w2.heap.size, 0, none⟩) s_2053).trans c_2052
        have s_2066 : w2.heap.size < V_2057.heap.size := Nat.lt_of_lt_of_le s_2053 bV_2057.size
        have H_2067 := Lib.hid (H_2054.out.below bV_2057)
        have H_2068 := Lib.hid (H_2055.out.below bV_2057)
        have HB := Lib.hid (HB.out.trans (bV_2057.mono HB.out.size))
        have o_2069 : w5.heap.size ≤ V_2057.heap.size := bV_2057.size
        clear c_2050 s_2051 c_2052 s_2053
        clear bV_2057
        go_wp2_with fail
        clear hV_2057
        have KX := K1.out
        rw [← atR_prune HMO.out HKX.out HAT.out] at KX
        have HKK := Lib.hid KX
        clear KX
        refine (vmapAt_v H_2068.out cx key id HKY.out).mono ?_
        rintro e w6 ⟨i2, t2, g2, b2, hv, rfl, hb⟩
        obtain ⟨rfl, rfl, rfl, rfl⟩ := VerIs.one HKK.out hv
        clear hv
        have c_2070 := (hb.cell (p := ⟨w1.heap.size, 0, none⟩) s_2064).trans c_2063
        have s_2071 : w1.heap.size < w6.heap.size := Nat.lt_of_lt_of_le s_2064 hb.size
        have c_2072 := (hb.cell (p := ⟨w2.heap.size, 0, none⟩) s_2066).trans c_2065
        have s_2073 : w2.heap.size < w6.heap.size := Nat.lt_of_lt_of_le s_2066 hb.size
        have c_2074 := (hb.cell (p := ⟨w5.heap.size, 0, none⟩) s_2061).trans c_2058
        have c_2075 := (hb.cell (p := ⟨w5.heap.size, 1, none⟩) s_2061).trans c_2059
        have c_2076 := (hb.cell (p := ⟨w5.heap.size, 2, none⟩) s_2061).trans c_2060
        have s_2077 : w5.heap.size < w6.heap.size := Nat.lt_of_lt_of_le s_2061 hb.size
        have H_2078 := Lib.hid (H_2067.out.below hb)
        have H_2079 := Lib.hid (H_2068.out.below hb)
        have HB := Lib.hid (HB.out.trans (hb.mono HB.out.size))
        have o_2080 : V_2057.heap.size ≤ w6.heap.size := hb.size
        clear c_2063 s_2064 c_2065 s_2066 c_2058 c_2059 c_2060 s_2061
        clear hb
        obtain ⟨V_2081, hV_2081⟩ : ∃ V_2081, w6.alloc (.cells #[.int .i64 i1, .string t1, .bool g1] 27) = V_2081 := ⟨_, rfl⟩
        have bV_2081 : Below w6.heap.size w6 V_2081 := by rw [← hV_2081]; exact (Below.refl _ _).alloc (Nat.le_refl _) _
        have c_2082 : V_2081.cell? ⟨w6.heap.size, 0, none⟩ = some (.int .i64 i1) := by rw [← hV_2081]; simp [go_sem]
        have c_2083 : V_2081.cell? ⟨w6.heap.size, 1, none⟩ = some (.string t1) := by rw [← hV_2081]; simp [go_sem]
        have c_2084 : V_2081.cell? ⟨w6.heap.size, 2, none⟩ = some (.bool g1) := by rw [← hV_2081]; simp [go_sem]
        have s_2085 : w6.heap.size < V_2081.heap.size := by rw [← hV_2081]; simp
        have k_2086 : w6.heap.size < V_2081.heap.size := s_2085
        have c_2087 := (bV_2081.cell (p := ⟨w1.heap.size, 0, none⟩) s_2071).trans c_2070
        have s_2088 : w1.heap.size < V_2081.heap.size := Nat.lt_of_lt_of_le s_2071 bV_2081.size
        have c_2089 := (bV_2081.cell (p := ⟨w2.heap.size, 0, none⟩) s_2073).trans c_2072
        have s_2090 : w2.heap.size < V_2081.heap.size := Nat.lt_of_lt_of_le s_2073 bV_2081.size
        have c_2091 := (bV_2081.cell (p := ⟨w5.heap.size, 0, none⟩) s_2077).trans c_2074
        have c_2092 := (bV_2081.cell (p := ⟨w5.heap.size, 1, none⟩) s_2077).trans c_2075
        have c_2093 := (bV_2081.cell (p := ⟨w5.heap.size, 2, none⟩) s_2077).trans c_2076
        have s_2094 : w5.heap.size < V_2081.heap.size := Nat.lt_of_lt_of_le s_2077 bV_2081.size
        have H_2095 := Lib.hid (H_2078.out.below bV_2081)
        have H_2096 := Lib.hid (H_2079.out.below bV_2081)
        have HB := Lib.hid (HB.out.trans (bV_2081.mono HB.out.size))
        have o_2097 : w6.heap.size ≤ V_2081.heap.size := bV_2081.size
        clear c_2070 s_2071 c_2072 s_2073 c_2074 c_2075 c_2076 s_2077
        clear bV_2081
        go_wp2_with fail
        clear hV_2081
        have HXO := Lib.hid (show MokIs true xs from ⟨fun _ => by rw [mapOk_kv, HKX.out]; exact pruneF_ok ((mapOk_kv os).1 HMO.out), fun _ => rfl⟩)
        have HAG := Lib.hid (show pruneF id (xs.map ObjD.kv) = xs.map ObjD.kv by rw [HKX.out]; exact pruneF_again ((mapOk_kv os).1 HMO.out))
        have hlen : xs.length ≤ os.length := by have := pruneF_len id (os.map ObjD.kv); rw [← HKX.out, List.length_map, List.length_map] at this; exact this
        have hlen2 : (xs.length : Int) ≤ (os.length : Int) := by omega
        have hbq : Below V_2081.heap.size V_2081 V_2081.drew := (Below.refl _ _).drew
        have qq := And.intro (c_2089) (And.intro (c_2091) (And.intro (c_2092) (And.intro (c_2093) (And.intro (c_2082) (And.intro (c_2083) (And.intro (c_2084) (c_2087)))))))
        go_region_held3 (fun u => u.cell? ⟨w2.heap.size, 0, none⟩ = some (.slice ax xs.length cx) ∧ u.cell? ⟨w5.heap.size, 0, none⟩ = some (.int .i64 i1) ∧ u.cell? ⟨w5.heap.size, 1, none⟩ = some (.string t1) ∧ u.cell? ⟨w5.heap.size, 2, none⟩ = some (.bool g1) ∧ u.cell? ⟨w6.heap.size, 0, none⟩ = some (.int .i64 i1) ∧ u.cell? ⟨w6.heap.size, 1, none⟩ = some (.string t1) ∧ u.cell? ⟨w6.heap.size, 2, none⟩ = some (.bool g1) ∧ u.cell? ⟨w1.heap.size, 0, none⟩ = some (.slice am os.length c))
          (first | with_reducible exact qq | exact qq | fail)
          (first
            | (go_at_call 19; (with_reducible refine (vmapOk_is HXO.out (H_2096.out.below hbq) cx).mono ?_); rintro e v ⟨rfl, hb⟩; have hbq := hbq.trans (hb.mono hbq.size); have qq := And.intro ((hbq.cell (p := ⟨w2.heap.size, 0, none⟩) s_2090).trans c_2089) (And.intro ((hbq.cell (p := ⟨w5.heap.size, 0, none⟩) s_2094).trans c_2091) (And.intro ((hbq.cell (p := ⟨w5.heap.size, 1, none⟩) s_2094).trans c_2092) (And.intro ((hbq.cell (p := ⟨w5.heap.size, 2, none⟩) s_2094).trans c_2093) (And.intro ((hbq.cell (p := ⟨w6.heap.size, 0, none⟩) s_2085).trans c_2082) (And.intro ((hbq.cell (p := ⟨w6.heap.size, 1, none⟩) s_2085).trans c_2083) (And.intro ((hbq.cell (p := ⟨w6.heap.size, 2, none⟩) s_2085).trans c_2084) ((hbq.cell (p := ⟨w1.heap.size, 0, none⟩) s_2088).trans c_2087))))))); clear hb)
            | (go_at_call 38; (with_reducible refine (vmapPrune_m (H_2096.out.below hbq) cx id).mono ?_); rintro e v ⟨aA, csA, cA, hkA, rfl, hmA, hb⟩; have hbq := hbq.trans (hb.mono hbq.size); have qq := And.intro ((hbq.cell (p := ⟨w2.heap.size, 0, none⟩) s_2090).trans c_2089) (And.intro ((hbq.cell (p := ⟨w5.heap.size, 0, none⟩) s_2094).trans c_2091) (And.intro ((hbq.cell (p := ⟨w5.heap.size, 1, none⟩) s_2094).trans c_2092) (And.intro ((hbq.cell (p := ⟨w5.heap.size, 2, none⟩) s_2094).trans c_2093) (And.intro ((hbq.cell (p := ⟨w6.heap.size, 0, none⟩) s_2085).trans c_2082) (And.intro ((hbq.cell (p := ⟨w6.heap.size, 1, none⟩) s_2085).trans c_2083) (And.intro ((hbq.cell (p := ⟨w6.heap.size, 2, none⟩) s_2085).trans c_2084) ((hbq.cell (p := ⟨w1.heap.size, 0, none⟩) s_2088).trans c_2087))))))); clear hb; have HA := Lib.hid hmA; have HKA := Lib.hid hkA; clear hmA hkA)
            | (go_at_call 18; (with_reducible refine (caMap_m HA.out (H_2096.out.below hbq) (HKA.out.trans HAG.out) _ _).mono ?_); rintro e v ⟨rfl, hb⟩; have hbq := hbq.trans (hb.mono hbq.size); have qq := And.intro ((hbq.cell (p := ⟨w2.heap.size, 0, none⟩) s_2090).trans c_2089) (And.intro ((hbq.cell (p := ⟨w5.heap.size, 0, none⟩) s_2094).trans c_2091) (And.intro ((hbq.cell (p := ⟨w5.heap.size, 1, none⟩) s_2094).trans c_2092) (And.intro ((hbq.cell (p := ⟨w5.heap.size, 2, none⟩) s_2094).trans c_2093) (And.intro ((hbq.cell (p := ⟨w6.heap.size, 0, none⟩) s_2085).trans c_2082) (And.intro ((hbq.cell (p := ⟨w6.heap.size, 1, none⟩) s_2085).trans c_2083) (And.intro ((hbq.cell (p := ⟨w6.heap.size, 2, none⟩) s_2085).trans c_2084) ((hbq.cell (p := ⟨w1.heap.size, 0, none⟩) s_2088).trans c_2087))))))); clear hb)
            | fail)
        all_goals
          go_wp2_with fail
          go_ret
          exact ⟨rfl, HB.out.trans (hbq.mono HB.out.size)⟩
      · skip
        obtain rfl : at0 = at1 := by rw [hat1, if_neg hlt]
        clear hat1 hat2
        go_wp2_with fail
        clear hV_1039
        clear c_1040 s_1041
        refine (vmapAt_v H_1047.out c key at0 HKY.out).mono ?_
        rintro e w5 ⟨i1, t1, g1, b1, hv, rfl, hb⟩
        have K1 := Lib.hid hv
        clear hv
        have c_2050 := (hb.cell (p := ⟨w1.heap.size, 0, none⟩) s_1044).trans c_1043
        have s_2051 : w1.heap.size < w5.heap.size := Nat.lt_of_lt_of_le s_1044 hb.size
        have c_2052 := (hb.cell (p := ⟨w2.heap.size, 0, none⟩) s_1046).trans c_1045
        have s_2053 : w2.heap.size < w5.heap.size := Nat.lt_of_lt_of_le s_1046 hb.size
        have H_2054 := Lib.hid (H_1047.out.below hb)
        have H_2055 := Lib.hid (H_1048.out.below hb)
        have HB := Lib.hid (HB.out.trans (hb.mono HB.out.size))
        have o_2056 : V_1039.heap.size ≤ w5.heap.size := hb.size
        clear c_1043 s_1044 c_1045 s_1046
        clear hb
        obtain ⟨V_2057, hV_2057⟩ : ∃ V_2057, w5.alloc (.cells #[.int .i64 i1, .string t1, .bool g1] 27) = V_2057 := ⟨_, rfl⟩
        have bV_2057 : Below w5.heap.size w5 V_2057 := by rw [← hV_2057]; exact (Below.refl _ _).alloc (Nat.le_refl _) _
        have c_2058 : V_2057.cell? ⟨w5.heap.size, 0, none⟩ = some (.int .i64 i1) := by rw [← hV_2057]; simp [go_sem]
        have c_2059 : V_2057.cell? ⟨w5.heap.size, 1, none⟩ = some (.string t1) := by rw [← hV_2057]; simp [go_sem]
        have c_2060 : V_2057.cell? ⟨w5.heap.size, 2, none⟩ = some (.bool g1) := by rw [← hV_2057]; simp [go_sem]
        have s_2061 : w5.heap.size < V_2057.heap.size := by rw [← hV_2057]; simp
        have k_2062 : w5.heap.size < V_2057.heap.size := s_2061
        have c_2063 := (bV_2057.cell (p := ⟨w1.heap.size, 0, none⟩) s_2051).trans c_2050
        have s_2064 : w1.heap.size < V_2057.heap.size := Nat.lt_of_lt_of_le s_2051 bV_2057.size
        have c_2065 := (bV_2057.cell (p := ⟨w2.heap.size, 0, none⟩) s_2053).trans c_2052
        have s_2066 : w2.heap.size < V_2057.heap.size := Nat.lt_of_lt_of_le s_2053 bV_2057.size
        have H_2067 := Lib.hid (H_2054.out.below bV_2057)
        have H_2068 := Lib.hid (H_2055.out.below bV_2057)
        have HB := Lib.hid (HB.out.trans (bV_2057.mono HB.out.size))
        have o_2069 : w5.heap.size ≤ V_2057.heap.size := bV_2057.size
        clear c_2050 s_2051 c_2052 s_2053
        clear bV_2057
        go_wp2_with fail
        clear hV_2057
        have KX := K1.out
        rw [← atR_prune HMO.out HKX.out HAT.out] at KX
        have HKK := Lib.hid KX
        clear KX
        refine (vmapAt_v H_2068.out cx key at0 HKY.out).mono ?_
        rintro e w6 ⟨i2, t2, g2, b2, hv, rfl, hb⟩
        obtain ⟨rfl, rfl, rfl, rfl⟩ := VerIs.one HKK.out hv
        clear hv
        have c_2070 := (hb.cell (p := ⟨w1.heap.size, 0, none⟩) s_2064).trans c_2063
        have s_2071 : w1.heap.size < w6.heap.size := Nat.lt_of_lt_of_le s_2064 hb.size
        have c_2072 := (hb.cell (p := ⟨w2.heap.size, 0, none⟩) s_2066).trans c_2065
        have s_2073 : w2.heap.size < w6.heap.size := Nat.lt_of_lt_of_le s_2066 hb.size
        have c_2074 := (hb.cell (p := ⟨w5.heap.size, 0, none⟩) s_2061).trans c_2058
        have c_2075 := (hb.cell (p := ⟨w5.heap.size, 1, none⟩) s_2061).trans c_2059
        have c_2076 := (hb.cell (p := ⟨w5.heap.size, 2, none⟩) s_2061).trans c_2060
        have s_2077 : w5.heap.size < w6.heap.size := Nat.lt_of_lt_of_le s_2061 hb.size
        have H_2078 := Lib.hid (H_2067.out.below hb)
        have H_2079 := Lib.hid (H_2068.out.below hb)
        have HB := Lib.hid (HB.out.trans (hb.mono HB.out.size))
        have o_2080 : V_2057.heap.size ≤ w6.heap.size := hb.size
        clear c_2063 s_2064 c_2065 s_2066 c_2058 c_2059 c_2060 s_2061
        clear hb
        obtain ⟨V_2081, hV_2081⟩ : ∃ V_2081, w6.alloc (.cells #[.int .i64 i1, .string t1, .bool g1] 27) = V_2081 := ⟨_, rfl⟩
        have bV_2081 : Below w6.heap.size w6 V_2081 := by rw [← hV_2081]; exact (Below.refl _ _).alloc (Nat.le_refl _) _
        have c_2082 : V_2081.cell? ⟨w6.heap.size, 0, none⟩ = some (.int .i64 i1) := by rw [← hV_2081]; simp [go_sem]
        have c_2083 : V_2081.cell? ⟨w6.heap.size, 1, none⟩ = some (.string t1) := by rw [← hV_2081]; simp [go_sem]
        have c_2084 : V_2081.cell? ⟨w6.heap.size, 2, none⟩ = some (.bool g1) := by rw [← hV_2081]; simp [go_sem]
        have s_2085 : w6.heap.size < V_2081.heap.size := by rw [← hV_2081]; simp
        have k_2086 : w6.heap.size < V_2081.heap.size := s_2085
        have c_2087 := (bV_2081.cell (p := ⟨w1.heap.size, 0, none⟩) s_2071).trans c_2070
        have s_2088 : w1.heap.size < V_2081.heap.size := Nat.lt_of_lt_of_le s_2071 bV_2081.size
        have c_2089 := (bV_2081.cell (p := ⟨w2.heap.size, 0, none⟩) s_2073).trans c_2072
        have s_2090 : w2.heap.size < V_2081.heap.size := Nat.lt_of_lt_of_le s_2073 bV_2081.size
        have c_2091 := (bV_2081.cell (p := ⟨w5.heap.size, 0, none⟩) s_2077).trans c_2074
        have c_2092 := (bV_2081.cell (p := ⟨w5.heap.size, 1, none⟩) s_2077).trans c_2075
        have c_2093 := (bV_2081.cell (p := ⟨w5.heap.size, 2, none⟩) s_2077).trans c_2076
        have s_2094 : w5.heap.size < V_2081.heap.size := Nat.lt_of_lt_of_le s_2077 bV_2081.size
        have H_2095 := Lib.hid (H_2078.out.below bV_2081)
        have H_2096 := Lib.hid (H_2079.out.below bV_2081)
        have HB := Lib.hid (HB.out.trans (bV_2081.mono HB.out.size))
        have o_2097 : w6.heap.size ≤ V_2081.heap.size := bV_2081.size
        clear c_2070 s_2071 c_2072 s_2073 c_2074 c_2075 c_2076 s_2077
        clear bV_2081
        go_wp2_with fail
        clear hV_2081
        have HXO := Lib.hid (show MokIs true xs from ⟨fun _ => by rw [mapOk_kv, HKX.out]; exact pruneF_ok ((mapOk_kv os).1 HMO.out), fun _ => rfl⟩)
        have HAG := Lib.hid (show pruneF id (xs.map ObjD.kv) = xs.map ObjD.kv by rw [HKX.out]; exact pruneF_again ((mapOk_kv os).1 HMO.out))
        have hlen : xs.length ≤ os.length := by have := pruneF_len id (os.map ObjD.kv); rw [← HKX.out, List.length_map, List.length_map] at this; exact this
        have hlen2 : (xs.length : Int) ≤ (os.length : Int) := by omega
        have hbq : Below V_2081.heap.size V_2081 V_2081.drew := (Below.refl _ _).drew
        have qq := And.intro (c_2089) (And.intro (c_2091) (And.intro (c_2092) (And.intro (c_2093) (And.intro (c_2082) (And.intro (c_2083) (And.intro (c_2084) (c_2087)))))))
        go_region_held3 (fun u => u.cell? ⟨w2.heap.size, 0, none⟩ = some (.slice ax xs.length cx) ∧ u.cell? ⟨w5.heap.size, 0, none⟩ = some (.int .i64 i1) ∧ u.cell? ⟨w5.heap.size, 1, none⟩ = some (.string t1) ∧ u.cell? ⟨w5.heap.size, 2, none⟩ = some (.bool g1) ∧ u.cell? ⟨w6.heap.size, 0, none⟩ = some (.int .i64 i1) ∧ u.cell? ⟨w6.heap.size, 1, none⟩ = some (.string t1) ∧ u.cell? ⟨w6.heap.size, 2, none⟩ = some (.bool g1) ∧ u.cell? ⟨w1.heap.size, 0, none⟩ = some (.slice am os.length c))
          (first | with_reducible exact qq | exact qq | fail)
          (first
            | (go_at_call 19; (with_reducible refine (vmapOk_is HXO.out (H_2096.out.below hbq) cx).mono ?_); rintro e v ⟨rfl, hb⟩; have hbq := hbq.trans (hb.mono hbq.size); have qq := And.intro ((hbq.cell (p := ⟨w2.heap.size, 0, none⟩) s_2090).trans c_2089) (And.intro ((hbq.cell (p := ⟨w5.heap.size, 0, none⟩) s_2094).trans c_2091) (And.intro ((hbq.cell (p := ⟨w5.heap.size, 1, none⟩) s_2094).trans c_2092) (And.intro ((hbq.cell (p := ⟨w5.heap.size, 2, none⟩) s_2094).trans c_2093) (And.intro ((hbq.cell (p := ⟨w6.heap.size, 0, none⟩) s_2085).trans c_2082) (And.intro ((hbq.cell (p := ⟨w6.heap.size, 1, none⟩) s_2085).trans c_2083) (And.intro ((hbq.cell (p := ⟨w6.heap.size, 2, none⟩) s_2085).trans c_2084) ((hbq.cell (p := ⟨w1.heap.size, 0, none⟩) s_2088).trans c_2087))))))); clear hb)
            | (go_at_call 38; (with_reducible refine (vmapPrune_m (H_2096.out.below hbq) cx id).mono ?_); rintro e v ⟨aA, csA, cA, hkA, rfl, hmA, hb⟩; have hbq := hbq.trans (hb.mono hbq.size); have qq := And.intro ((hbq.cell (p := ⟨w2.heap.size, 0, none⟩) s_2090).trans c_2089) (And.intro ((hbq.cell (p := ⟨w5.heap.size, 0, none⟩) s_2094).trans c_2091) (And.intro ((hbq.cell (p := ⟨w5.heap.size, 1, none⟩) s_2094).trans c_2092) (And.intro ((hbq.cell (p := ⟨w5.heap.size, 2, none⟩) s_2094).trans c_2093) (And.intro ((hbq.cell (p := ⟨w6.heap.size, 0, none⟩) s_2085).trans c_2082) (And.intro ((hbq.cell (p := ⟨w6.heap.size, 1, none⟩) s_2085).trans c_2083) (And.intro ((hbq.cell (p := ⟨w6.heap.size, 2, none⟩) s_2085).trans c_2084) ((hbq.cell (p := ⟨w1.heap.size, 0, none⟩) s_2088).trans c_2087))))))); clear hb; have HA := Lib.hid hmA; have HKA := Lib.hid hkA; clear hmA hkA)
            | (go_at_call 18; (with_reducible refine (caMap_m HA.out (H_2096.out.below hbq) (HKA.out.trans HAG.out) _ _).mono ?_); rintro e v ⟨rfl, hb⟩; have hbq := hbq.trans (hb.mono hbq.size); have qq := And.intro ((hbq.cell (p := ⟨w2.heap.size, 0, none⟩) s_2090).trans c_2089) (And.intro ((hbq.cell (p := ⟨w5.heap.size, 0, none⟩) s_2094).trans c_2091) (And.intro ((hbq.cell (p := ⟨w5.heap.size, 1, none⟩) s_2094).trans c_2092) (And.intro ((hbq.cell (p := ⟨w5.heap.size, 2, none⟩) s_2094).trans c_2093) (And.intro ((hbq.cell (p := ⟨w6.heap.size, 0, none⟩) s_2085).trans c_2082) (And.intro ((hbq.cell (p := ⟨w6.heap.size, 1, none⟩) s_2085).trans c_2083) (And.intro ((hbq.cell (p := ⟨w6.heap.size, 2, none⟩) s_2085).trans c_2084) ((hbq.cell (p := ⟨w1.heap.size, 0, none⟩) s_2088).trans c_2087))))))); clear hb)
            | fail)
        all_goals
          go_wp2_with fail
          go_ret
          exact ⟨rfl, HB.out.trans (hbq.mono HB.out.size)⟩
end Go.Proofs.Ytjijichgoodocaa
