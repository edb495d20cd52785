/- EidHome of layer 4's statements, walked. -/
import Derived.Test.YtlncacfflalacaaDoorEidW1
namespace Go.Proofs.YtlncacfflalacaaDoor
open Go.RowKit
open Go.Lib (decDigits)

theorem ls_num (x : UInt8) : lsB x = ((decide (97 ≤ x.toNat) && decide (x.toNat ≤ 122)) || ((decide (48 ≤ x.toNat) && decide (x.toNat ≤ 57)) || (decide (x.toNat = 46) || (decide (x.toNat = 45) || (decide (x.toNat = 95) || decide (x.toNat = 47)))))) := by
  unfold lsB
  rw [letter_num]
  have e : (x == 47) = decide (x.toNat = 47) := by
    by_cases h : x = 47
    · subst h; rfl
    · rw [beq_eq_false_iff_ne.2 h]
      exact (decide_eq_false (fun h2 => h (UInt8.toNat_inj.1 h2))).symm
  rw [e]
  generalize decide (x.toNat = 47) = a
  cases a <;> simp

set_option maxRecDepth 100000 in
set_option maxHeartbeats 16000000 in
theorem eidHome_walk (sc : Int) (s : ByteArray) (n v : Nat) (R : ByteArray) (w : World) (A : Snt) (hs : s.size ≤ 140737488355328) (hn : n < 18446744073709551616) (hv : v < 18446744073709551616) (hR : R.size ≤ 140737488351232) (hA : Lds A w) :
    Calls Tryd.prog 3 #[epdV sc s n v, .string R] w fun e w' => e = .returned (.bool true) ∧ Below w.heap.size w w' := by
  have CT := Lib.hid (fun W (hW : Lds A W) => text_any A sc s n v W hW hs hn hv)
  have CN := Lib.hid (fun W (hW : Lds A W) => node_any A sc s n v W hW hs hn)
  have CH := Lib.hid (fun W (hW : Lds A W) => heads_any A W hW)
  have HA1 := Lib.hid (hA.alloc (.cells #[.int .i64 sc, .string s, .int .u64 (n : Int), .int .u64 (v : Int)] 25))
  have HB0 : Hid (Below w.heap.size w (w.alloc (.cells #[.int .i64 sc, .string s, .int .u64 (n : Int), .int .u64 (v : Int)] 25))) := (Below.refl _ _).alloc (Nat.le_refl _) _
  clear hA
  have hnl := node_le (e := ep sc s n v) hn
  have z1 : (strL (nodeE (ep sc s n v))).size ≤ 80 := by rw [strL_size]; exact hnl
  by_cases h1 : sc = 1
  case neg =>
    generalize strL (nodeE (ep sc s n v)) = S at *
    unfold epdV at *
    go_enter Tryd.func3, Tryd.ntmps3
    go_wp2_with fail
    refine (CN.out _ HA1.out).mono ?_
    rintro e w1 ⟨rfl, hb⟩
    have HL1 := Lib.hid (HA1.out.below hb (Nat.le_refl _))
    have HX1 := Lib.hid hb
    obtain ⟨x0, x1, x2, x3⟩ := box_cells4 hb
    clear hb
    go_wp2_with fail
    refine (CH.out _ HL1.out).mono ?_
    rintro e wz ⟨rfl, hb⟩
    have HXZ := Lib.hid ((HB0.out.trans (HX1.out.mono HB0.out.size)).trans (hb.mono (Nat.le_trans HB0.out.size HX1.out.size)))
    clear hb
    go_wp2_with fail
    go_ret
    exact ⟨rfl, HXZ.out⟩
  subst h1
  by_cases hne : nodeE (ep 1 s n v) = []
  · have hse : (strL (nodeE (ep 1 s n v))) = ⟨#[]⟩ := by rw [hne]; rfl
    rw [hse] at CN
    clear hse hne z1 hnl
    unfold epdV at *
    go_enter Tryd.func3, Tryd.ntmps3
    go_wp2_with fail
    refine (CN.out _ HA1.out).mono ?_
    rintro e w1 ⟨rfl, hb⟩
    have HL1 := Lib.hid (HA1.out.below hb (Nat.le_refl _))
    have HX1 := Lib.hid hb
    obtain ⟨x0, x1, x2, x3⟩ := box_cells4 hb
    clear hb
    go_wp2_with fail
    refine (CH.out _ HL1.out).mono ?_
    rintro e wz ⟨rfl, hb⟩
    have HXZ := Lib.hid ((HB0.out.trans (HX1.out.mono HB0.out.size)).trans (hb.mono (Nat.le_trans HB0.out.size HX1.out.size)))
    clear hb
    go_wp2_with fail
    go_ret
    exact ⟨rfl, HXZ.out⟩
  have hse : (strL (nodeE (ep 1 s n v))).toList.isEmpty = false := by
    rw [Lib.toList_data, strL_list]
    cases hh : nodeE (ep 1 s n v) with
    | nil => exact absurd hh hne
    | cons a l => rfl
  by_cases h60 : 60 < R.size
  · generalize strL (nodeE (ep 1 s n v)) = S at *
    clear hne hnl
    unfold epdV at *
    have h60i : (60 : Int) < (R.size : Int) := by omega
    go_enter Tryd.func3, Tryd.ntmps3
    go_wp2_with fail
    refine (CN.out _ HA1.out).mono ?_
    rintro e w1 ⟨rfl, hb⟩
    have HL1 := Lib.hid (HA1.out.below hb (Nat.le_refl _))
    have HX1 := Lib.hid hb
    obtain ⟨x0, x1, x2, x3⟩ := box_cells4 hb
    clear hb
    go_wp2_with fail
    refine (CH.out _ HL1.out).mono ?_
    rintro e wz ⟨rfl, hb⟩
    have HXZ := Lib.hid ((HB0.out.trans (HX1.out.mono HB0.out.size)).trans (hb.mono (Nat.le_trans HB0.out.size HX1.out.size)))
    clear hb
    go_wp2_with fail
    go_ret
    exact ⟨rfl, HXZ.out⟩
  have hc : checkB (ep 1 s n v) = true := by
    cases hc : checkB (ep 1 s n v) with
    | true => rfl
    | false => exact absurd (by unfold nodeE; rw [if_pos (.inl hc)]) hne
  have hnm : (ep 1 s n v).name ≠ [] := by
    intro h
    obtain ⟨a, b, -⟩ := check_dtn hc rfl
    exact hne (by unfold nodeE; rw [if_pos (.inr (by unfold noneB; rw [a, b, h]; rfl))])
  obtain ⟨hf1, hf2, t, htx⟩ := home_text hc rfl hnm R.data.toList _ rfl
  obtain ⟨F0, hF0⟩ : ∃ F0, F0 = decide ((strL (nodeE (ep 1 s n v))).size + R.size ≤ 68) := ⟨_, rfl⟩
  have hF0' : decide ((nodeE (ep 1 s n v)).length + R.data.toList.length ≤ 68) = F0 := by rw [hF0, strL_size, Lib.size_eq]
  rw [hF0'] at hf1 hf2
  have CP := Lib.hid (fun W (hW : Lds A W) => parse_any A (strL (nodeE (ep 1 s n v)) ++ R) W hW (by rw [ByteArray.size_append]; omega))
  have eapp : (strL (nodeE (ep 1 s n v)) ++ R).data.toList = nodeE (ep 1 s n v) ++ R.data.toList := by
    have h := strL_app (nodeE (ep 1 s n v)) R.data.toList
    rw [strL_data] at h
    rw [h, strL_list]
  rw [eapp] at CP
  have htz : (textE (ep 1 s n v)).length ≤ 80 := text_le (e := ep 1 s n v) hn hv
  have z2 : (strL (textE (ep 1 s n v))).size ≤ 80 := by rw [strL_size]; exact htz
  have hsl : ∀ W, (Instr.slice 9 (.string (strL (textE (ep 1 s n v)))) none (some (.int .i64 ((strL (nodeE (ep 1 s n v))).size : Int))) none).run Tryd.prog W = .ok (.string (strL (nodeE (ep 1 s n v)))) W := fun W => by
    have hle : (strL (nodeE (ep 1 s n v))).size ≤ (strL (textE (ep 1 s n v))).size := by rw [strL_size, strL_size, htx]; simp
    rw [run_slice_string_to_if W _ _ _ _ Tryd.underlying9, if_pos (by omega)]
    congr 2
    rw [Lib.extract_eq, strL_list, htx, strL_size, List.drop_zero]
    unfold strL
    simp
  have hlt : ¬ (((strL (textE (ep 1 s n v))).size : Int) < ((strL (nodeE (ep 1 s n v))).size : Int)) := by
    have hle : (strL (nodeE (ep 1 s n v))).size ≤ (strL (textE (ep 1 s n v))).size := by rw [strL_size, strL_size, htx]; simp
    omega
  have hlt2 : ¬ ((strL (textE (ep 1 s n v))).size < (strL (nodeE (ep 1 s n v))).size) := by omega
  have HF1 := Lib.hid hf1
  have HF2 := Lib.hid hf2
  have HRL := Lib.hid (Lib.size_eq R)
  have hr60 : R.size ≤ 60 := by omega
  have HR60 := Lib.hid hr60
  have HNL := Lib.hid hnl
  clear hne hc hnm htx hF0' eapp htz h60 hlt
  generalize nodeE (ep 1 s n v) = NE at *
  have hsum : decide (((strL NE).size : Int) + (R.size : Int) ≤ 68) = F0 := by rw [hF0]; congr 1; rw [eq_iff_iff]; omega
  clear hF0 hf1 hf2 hnl
  generalize hS : strL NE = S at *
  have HS := Lib.hid hS.symm
  clear hS
  generalize strL (textE (ep 1 s n v)) = T at *
  unfold epdV at *
  have i1 : (S.size : Int) ≤ 80 := by omega
  have i2 : (R.size : Int) ≤ 60 := by omega
  go_enter Tryd.func3, Tryd.ntmps3
  go_wp2_with fail
  refine (CN.out _ HA1.out).mono ?_
  rintro e w1 ⟨rfl, hb⟩
  have HL1 := Lib.hid (HA1.out.below hb (Nat.le_refl _))
  have HX1 := Lib.hid hb
  obtain ⟨x0, x1, x2, x3⟩ := box_cells4 hb
  clear hb
  go_wp2_with fail
  refine (CT.out _ HL1.out).mono ?_
  rintro e w2 ⟨rfl, hb⟩
  have HL2 := Lib.hid (HL1.out.below hb (Nat.le_refl _))
  have HX2 := Lib.hid (HX1.out.trans (hb.mono HX1.out.size))
  clear hb x0 x1 x2 x3
  go_wp2_with fail
  refine (CP.out _ HL2.out).mono ?_
  rintro e w3 ⟨hb, ⟨sc5, s5, n5, v5, rfl, h51, h52, h53, hc5, ht5⟩ | ⟨hno, rfl⟩⟩
  · have hFB : (F0 && R.data.toList.all lsB) = true := by
      cases hh : (F0 && R.data.toList.all lsB) with
      | true => rfl
      | false => exact absurd ⟨_, hc5, ht5⟩ (HF2.out hh)
    obtain ⟨f0, g1, g2, g3⟩ := HF1.out hFB
    have hNd : strL (nodeE (ep sc5 s5 n5 v5)) = S := by rw [text_inj hc5 g1 (ht5.trans g2.symm), g3]; exact HS.out.symm
    have CN5 := Lib.hid (fun W (hW : Lds A W) => node_any A sc5 s5 n5 v5 W hW (by have h1 := HNL.out; have h2 := HR60.out; have h3 := HRL.out; simp only [List.length_append] at h51; omega) h52)
    rw [hNd] at CN5
    have HFB := Lib.hid hFB
    have HL3 := Lib.hid ((HL2.out.below hb (Nat.le_refl _)).alloc (.cells #[.int .i64 sc5, .string s5, .int .u64 (n5 : Int), .int .u64 (v5 : Int)] 25))
    have HX3 := Lib.hid (HX2.out.trans ((hb.alloc hb.size (.cells #[.int .i64 sc5, .string s5, .int .u64 (n5 : Int), .int .u64 (v5 : Int)] 25)).mono HX2.out.size))
    obtain ⟨y0, y1, y2, y3⟩ := box_cells4 (Below.refl _ (w3.alloc (.cells #[.int .i64 sc5, .string s5, .int .u64 (n5 : Int), .int .u64 (v5 : Int)] 25)))
    clear hb h51 h52 h53 hc5 ht5 hFB g1 g2 g3 hNd
    unfold epdV at *
    go_wp2_with fail
    generalize w3.alloc (.cells #[.int .i64 sc5, .string s5, .int .u64 (n5 : Int), .int .u64 (v5 : Int)] 25) = X3 at *
    go_loop [9, 10] (fun f i => ∃ k : Nat, k ≤ R.size ∧ i = .int .i64 k ∧ f = .bool (F0 && (R.data.toList.take k).all lsB)) (fun _ i => R.size - (intOf i).toNat)
    case atStart => exact ⟨0, Nat.zero_le _, rfl, by simp⟩
    case round =>
      obtain ⟨k, hk, rfl, rfl⟩ := hrel
      by_cases hlt : k < R.size
      · have hkl : k < R.data.toList.length := by rw [← HRL.out]; exact hlt
        obtain ⟨x, hx⟩ : ∃ x, x = R.data.toList[k]'hkl := ⟨_, rfl⟩
        have hstep : (R.data.toList.take (k + 1)).all lsB = ((R.data.toList.take k).all lsB && lsB x) := by
          rw [List.take_succ_eq_append_getElem hkl, List.all_append, ← hx]; simp
        have hxl := ls_num x
        have hix : ∀ W, (Instr.index 9 (.string R) (.int .i64 (k : Int))).run Tryd.prog W = .ok (.int .u8 x.toNat) W := by
          intro W
          rw [hx]
          go_simp
          rfl
        rw [hxl] at hstep
        have HST := Lib.hid hstep
        have HKL := Lib.hid hlt
        clear hstep hxl hx hkl
        have hkk : decide ((k : Int) < (R.size : Int)) = true := by simp; omega
        have hk9 : (k : Int) + 1 ≤ 61 := by have := HR60.out; omega
        generalize x.toNat = X at *
        generalize (R.data.toList.take k).all lsB = P at *
        cases hfp : (F0 && P) with
        | false =>
          go_wp2_with fail
          go_round
          case rel => exact ⟨k + 1, by have := HKL.out; omega, by go_num, by rw [HST.out, ← Bool.and_assoc, hfp]; rfl⟩
          case measure => simp [intOf]; have := HKL.out; omega
        | true =>
          go_wp2
          all_goals go_round
          all_goals first
            | (refine ⟨k + 1, by have := HKL.out; omega, by go_num, congrArg Value.bool ?_⟩
               rw [HST.out, ← Bool.and_assoc, hfp, Bool.true_and]
               rw [Bool.eq_iff_iff]
               simp
               try omega)
            | (simp [intOf]; have := HKL.out; omega)
      · obtain rfl : k = R.size := by omega
        have hall : (R.data.toList.take R.size).all lsB = R.data.toList.all lsB := by rw [HRL.out, List.take_length]
        rw [hall]
        have hkk : decide ((R.size : Int) < (R.size : Int)) = false := by simp
        clear hall
        rw [HFB.out]
        go_wp2_with fail
        refine (CN5.out _ HL3.out).mono ?_
        rintro e w5 ⟨rfl, hb⟩
        have HL5 := Lib.hid (HL3.out.below hb (Nat.le_refl _))
        have HX5 := Lib.hid (HX3.out.trans (hb.mono HX3.out.size))
        clear hb
        go_wp2_with fail
        refine (CH.out _ HL5.out).mono ?_
        rintro e wz ⟨rfl, hb⟩
        have HXZ := Lib.hid ((HB0.out.trans (HX5.out.mono HB0.out.size)).trans (hb.mono (Nat.le_trans HB0.out.size HX5.out.size)))
        clear hb
        go_wp2_with fail
        go_ret
        exact ⟨rfl, HXZ.out⟩
  · have hFB : (F0 && R.data.toList.all lsB) = false := by
      cases hh : (F0 && R.data.toList.all lsB) with
      | false => rfl
      | true =>
        obtain ⟨f0, g1, g2, -⟩ := HF1.out hh
        exact absurd g2 (hno _ g1)
    have HFB := Lib.hid hFB
    have HL3 := Lib.hid ((HL2.out.below hb (Nat.le_refl _)).alloc (.cells #[.int .i64 0, .string ⟨#[]⟩, .int .u64 0, .int .u64 0] 25))
    have HX3 := Lib.hid (HX2.out.trans ((hb.alloc hb.size (.cells #[.int .i64 0, .string ⟨#[]⟩, .int .u64 0, .int .u64 0] 25)).mono HX2.out.size))
    clear hb hno hFB
    unfold epdV at *
    go_wp2_with fail
    generalize w3.alloc (.cells #[.int .i64 0, .string ⟨#[]⟩, .int .u64 0, .int .u64 0] 25) = X3 at *
    go_loop [9, 10] (fun f i => ∃ k : Nat, k ≤ R.size ∧ i = .int .i64 k ∧ f = .bool (F0 && (R.data.toList.take k).all lsB)) (fun _ i => R.size - (intOf i).toNat)
    case atStart => exact ⟨0, Nat.zero_le _, rfl, by simp⟩
    case round =>
      obtain ⟨k, hk, rfl, rfl⟩ := hrel
      by_cases hlt : k < R.size
      · have hkl : k < R.data.toList.length := by rw [← HRL.out]; exact hlt
        obtain ⟨x, hx⟩ : ∃ x, x = R.data.toList[k]'hkl := ⟨_, rfl⟩
        have hstep : (R.data.toList.take (k + 1)).all lsB = ((R.data.toList.take k).all lsB && lsB x) := by
          rw [List.take_succ_eq_append_getElem hkl, List.all_append, ← hx]; simp
        have hxl := ls_num x
        have hix : ∀ W, (Instr.index 9 (.string R) (.int .i64 (k : Int))).run Tryd.prog W = .ok (.int .u8 x.toNat) W := by
          intro W
          rw [hx]
          go_simp
          rfl
        rw [hxl] at hstep
        have HST := Lib.hid hstep
        have HKL := Lib.hid hlt
        clear hstep hxl hx hkl
        have hkk : decide ((k : Int) < (R.size : Int)) = true := by simp; omega
        have hk9 : (k : Int) + 1 ≤ 61 := by have := HR60.out; omega
        generalize x.toNat = X at *
        generalize (R.data.toList.take k).all lsB = P at *
        cases hfp : (F0 && P) with
        | false =>
          go_wp2_with fail
          go_round
          case rel => exact ⟨k + 1, by have := HKL.out; omega, by go_num, by rw [HST.out, ← Bool.and_assoc, hfp]; rfl⟩
          case measure => simp [intOf]; have := HKL.out; omega
        | true =>
          go_wp2
          all_goals go_round
          all_goals first
            | (refine ⟨k + 1, by have := HKL.out; omega, by go_num, congrArg Value.bool ?_⟩
               rw [HST.out, ← Bool.and_assoc, hfp, Bool.true_and]
               rw [Bool.eq_iff_iff]
               simp
               try omega)
            | (simp [intOf]; have := HKL.out; omega)
      · obtain rfl : k = R.size := by omega
        have hall : (R.data.toList.take R.size).all lsB = R.data.toList.all lsB := by rw [HRL.out, List.take_length]
        rw [hall]
        have hkk : decide ((R.size : Int) < (R.size : Int)) = false := by simp
        clear hall
        rw [HFB.out]
        go_wp2_with fail
        refine (CH.out _ HL3.out).mono ?_
        rintro e wz ⟨rfl, hb⟩
        have HXZ := Lib.hid ((HB0.out.trans (HX3.out.mono HB0.out.size)).trans (hb.mono (Nat.le_trans HB0.out.size HX3.out.size)))
        clear hb
        go_wp2_with fail
        go_ret
        exact ⟨rfl, HXZ.out⟩
end Go.Proofs.YtlncacfflalacaaDoor
