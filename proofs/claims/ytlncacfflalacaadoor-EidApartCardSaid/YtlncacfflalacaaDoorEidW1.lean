/- EidBack and EidNode of layer 4's statements, walked. -/
import Derived.Test.YtlncacfflalacaaDoorEidH
namespace Go.Proofs.YtlncacfflalacaaDoor
open Go.RowKit
open Go.Lib (decDigits)

theorem name_le64 {e : Epd} (hc : checkB e = true) : e.name.length ≤ 64 := by
  by_cases h1 : e.scheme = 1
  · obtain ⟨-, -, h⟩ := check_dtn hc h1
    rcases h with h | h
    · rw [h]; simp
    · obtain ⟨r, -, -, -, -, h⟩ := name_head h; exact h
  · obtain ⟨-, h, -⟩ := check_ipn hc h1
    rw [h]; simp
theorem text_le {e : Epd} (hn : e.node < 18446744073709551616) (hv : e.service < 18446744073709551616) : (textE e).length ≤ 80 := by
  unfold textE
  cases hc : checkB e with
  | false => simp
  | true =>
    rw [if_neg (by simp)]
    have hl := name_le64 hc
    have l1 := nd20 e.node hn
    have l2 := nd20 e.service hv
    split
    · simp [ipnL]; omega
    · split
      · simp [dtnL, noneL]
      · simp [dtnL]; omega
theorem node_le {e : Epd} (hn : e.node < 18446744073709551616) : (nodeE e).length ≤ 80 := by
  unfold nodeE
  split
  · simp
  · rename_i h
    have hc : checkB e = true := by
      cases hc : checkB e with
      | false => exact absurd (.inl hc) h
      | true => rfl
    have hl := name_le64 hc
    have l1 := nd20 e.node hn
    split
    · simp [ipnL]; omega
    · simp [dtnL]; omega

theorem str_eq_self (s : ByteArray) : (s.toList == s.toList) = true := by simp

set_option maxRecDepth 100000 in
set_option maxHeartbeats 8000000 in
theorem eidBack_walk (sc : Int) (s : ByteArray) (n v : Nat) (w : World) (A : Snt) (hs : s.size ≤ 140737488355328) (hn : n < 18446744073709551616) (hv : v < 18446744073709551616) (hA : Lds A w) :
    Calls Tryd.prog 4 #[epdV sc s n v] w fun e w' => e = .returned (.bool true) ∧ Below w.heap.size w w' := by
  have CC := Lib.hid (fun W (hW : Lds A W) => ccheck_any A sc s n v W hW hs)
  have CT := Lib.hid (fun W (hW : Lds A W) => text_any A sc s n v W hW hs hn hv)
  have CI := Lib.hid (fun W (hW : Lds A W) => item_any A sc s n v W hW hs hn hv)
  have CF := Lib.hid (fun (v0 : Value) W (hW : Lds A W) (hr : RdI W W.heap.size v0 (itemE (ep sc s n v))) => from_any A (itemE (ep sc s n v)) v0 W.heap.size W hW (Nat.le_refl _) hr)
  have htl := text_le (e := ep sc s n v) hn hv
  have CP := Lib.hid (fun W (hW : Lds A W) => parse_any A (strL (textE (ep sc s n v))) W hW (by rw [strL_size]; omega))
  rw [strL_list] at CP
  have CH := Lib.hid (fun W (hW : Lds A W) => heads_any A W hW)
  have HA1 := Lib.hid (hA.alloc (.cells #[.int .i64 sc, .string s, .int .u64 (n : Int), .int .u64 (v : Int)] 25))
  have HB0 : Hid (Below w.heap.size w (w.alloc (.cells #[.int .i64 sc, .string s, .int .u64 (n : Int), .int .u64 (v : Int)] 25))) := (Below.refl _ _).alloc (Nat.le_refl _) _
  have hs1 : (w.alloc (.cells #[.int .i64 sc, .string s, .int .u64 (n : Int), .int .u64 (v : Int)] 25)).heap.size = w.heap.size + 1 := by simp
  have HS1 := Lib.hid hs1
  clear hA htl hs1
  cases hc : checkB (ep sc s n v) with
  | false =>
    have ht : strL (textE (ep sc s n v)) = ⟨#[]⟩ := by unfold textE; rw [if_pos hc]; rfl
    rw [hc] at CC
    rw [ht] at CT
    clear hc ht CI CF CP
    unfold epdV at *
    go_enter Tryd.func4, Tryd.ntmps4
    go_wp2_with fail
    refine (CC.out _ HA1.out).mono ?_
    rintro e w1 ⟨rfl, hb⟩
    have HL1 := Lib.hid (HA1.out.below hb (Nat.le_refl _))
    have HB1 := Lib.hid (HB0.out.trans (hb.mono HB0.out.size))
    have px := box_cells4 hb
    obtain ⟨x0, x1, x2, x3⟩ := px
    clear hb
    go_wp2_with fail
    refine (CT.out _ HL1.out).mono ?_
    rintro e w2 ⟨rfl, hb⟩
    have HL2 := Lib.hid (HL1.out.below hb (Nat.le_refl _))
    have HB2 := Lib.hid (HB1.out.trans (hb.mono HB1.out.size))
    clear hb
    go_wp2_with fail
    refine (CH.out _ HL2.out).mono ?_
    rintro e w3 ⟨rfl, hb⟩
    have HB3 := Lib.hid (HB2.out.trans (hb.mono HB2.out.size))
    clear hb
    go_wp2_with fail
    go_ret
    exact ⟨rfl, HB3.out⟩
  | true =>
    rw [hc] at CC
    unfold epdV at *
    go_enter Tryd.func4, Tryd.ntmps4
    go_wp2_with fail
    refine (CC.out _ HA1.out).mono ?_
    rintro e w1 ⟨rfl, hb⟩
    have HL1 := Lib.hid (HA1.out.below hb (Nat.le_refl _))
    have HX1 := Lib.hid hb
    obtain ⟨x0, x1, x2, x3⟩ := box_cells4 hb
    clear hb
    go_wp2_with fail
    refine (CI.out _ HL1.out).mono ?_
    rintro e w2 ⟨hb, ⟨-, v1, rfl, hr⟩ | ⟨h, -⟩⟩
    case inr => rw [hc] at h; cases h
    obtain ⟨k, m, D, nd, cd, AL, nl, cl, rfl⟩ := hr.form
    have hL2 := (HL1.out.below hb (Nat.le_refl _)).alloc (.cells #[.int .i64 k, .int .u64 (m : Int), .slice D nd cd, .slice AL nl cl] 37)
    have hx2 := HX1.out.trans (((hb.alloc hb.size (.cells #[.int .i64 k, .int .u64 (m : Int), .slice D nd cd, .slice AL nl cl] 37))).mono HX1.out.size)
    have hR := (hr.below ((Below.refl w2.heap.size w2).alloc (Nat.le_refl _) (.cells #[.int .i64 k, .int .u64 (m : Int), .slice D nd cd, .slice AL nl cl] 37))).more (B' := (w2.alloc (.cells #[.int .i64 k, .int .u64 (m : Int), .slice D nd cd, .slice AL nl cl] 37)).heap.size) (le_alloc _ _)
    have HL2 := Lib.hid hL2
    have HX2 := Lib.hid hx2
    have HR := Lib.hid hR
    clear hb hr hL2 hx2 hR x0 x1 x2 x3
    go_wp2_with fail
    refine (CF.out _ _ HL2.out HR.out).mono ?_
    rintro e w3 ⟨hb, ⟨sc3, s3, n3, v3, rfl, -, -, -, hc3, hi3⟩ | ⟨h, -⟩⟩
    case inr => exact absurd rfl (h _ hc)
    obtain ⟨rfl, rfl, rfl, rfl⟩ := ep_inj (item_inj hc3 hc hi3)
    have hL3 := (HL2.out.below hb (Nat.le_refl _)).alloc (.cells #[.int .i64 sc3, .string s3, .int .u64 (n3 : Int), .int .u64 (v3 : Int)] 25)
    have hx3 := HX2.out.trans ((hb.alloc hb.size (.cells #[.int .i64 sc3, .string s3, .int .u64 (n3 : Int), .int .u64 (v3 : Int)] 25)).mono HX2.out.size)
    have HL3 := Lib.hid hL3
    have HX3 := Lib.hid hx3
    have HZ := Lib.hid (box_cells4 (Below.refl _ (w3.alloc (.cells #[.int .i64 sc3, .string s3, .int .u64 (n3 : Int), .int .u64 (v3 : Int)] 25))))
    have HZL : Hid (w3.heap.size < (w3.alloc (.cells #[.int .i64 sc3, .string s3, .int .u64 (n3 : Int), .int .u64 (v3 : Int)] 25)).heap.size) := by show _ < _; simp
    obtain ⟨x0, x1, x2, x3⟩ := box_cells4 hx3
    clear hb hL3 hx3 hc3 hi3
    unfold epdV
    go_wp2_with fail
    generalize w3.alloc (.cells #[.int .i64 sc3, .string s3, .int .u64 (n3 : Int), .int .u64 (v3 : Int)] 25) = X3 at *
    refine (CT.out _ HL3.out).mono ?_
    rintro e w4 ⟨rfl, hb⟩
    have HL4 := Lib.hid (HL3.out.below hb (Nat.le_refl _))
    have HB4 := Lib.hid hb
    clear hb
    go_wp2_with fail
    refine (CP.out _ HL4.out).mono ?_
    rintro e w5 ⟨hb, ⟨sc5, s5, n5, v5, rfl, -, -, -, hc5, ht5⟩ | ⟨h, -⟩⟩
    case inr => exact absurd rfl (h _ hc)
    obtain ⟨rfl, rfl, rfl, rfl⟩ := ep_inj (text_inj hc5 hc ht5)
    have hL5 := (HL4.out.below hb (Nat.le_refl _)).alloc (.cells #[.int .i64 sc5, .string s5, .int .u64 (n5 : Int), .int .u64 (v5 : Int)] 25)
    have h35 := HB4.out.trans ((hb.alloc hb.size (.cells #[.int .i64 sc5, .string s5, .int .u64 (n5 : Int), .int .u64 (v5 : Int)] 25)).mono HB4.out.size)
    have hx5 := HX3.out.trans (h35.mono HX3.out.size)
    obtain ⟨y0, y1, y2, y3⟩ := box_cells4 hx5
    obtain ⟨z0, z1, z2, z3⟩ := HZ.out
    have j0 := (h35.cell (p := ⟨w3.heap.size, 0, none⟩) HZL.out).trans z0
    have j1 := (h35.cell (p := ⟨w3.heap.size, 1, none⟩) HZL.out).trans z1
    have j2 := (h35.cell (p := ⟨w3.heap.size, 2, none⟩) HZL.out).trans z2
    have j3 := (h35.cell (p := ⟨w3.heap.size, 3, none⟩) HZL.out).trans z3
    obtain ⟨i0, i1, i2, i3⟩ := box_cells4 (Below.refl _ (w5.alloc (.cells #[.int .i64 sc5, .string s5, .int .u64 (n5 : Int), .int .u64 (v5 : Int)] 25)))
    have HL5 := Lib.hid hL5
    have HX5 := Lib.hid hx5
    have HSE := Lib.hid (str_eq_self s5)
    clear hb hL5 h35 hx5 hc5 ht5 z0 z1 z2 z3 x0 x1 x2 x3 hc
    unfold epdV
    go_wp2_with fail
    generalize w5.alloc (.cells #[.int .i64 sc5, .string s5, .int .u64 (n5 : Int), .int .u64 (v5 : Int)] 25) = X5 at *
    refine (CH.out _ HL5.out).mono ?_
    rintro e w6 ⟨rfl, hb⟩
    have HB6 := Lib.hid ((HB0.out.trans (HX5.out.mono HB0.out.size)).trans (hb.mono (Nat.le_trans HB0.out.size HX5.out.size)))
    clear hb
    go_wp2_with fail
    go_ret
    exact ⟨rfl, HB6.out⟩

set_option maxRecDepth 100000 in
set_option maxHeartbeats 8000000 in
theorem eidNode_walk (sc : Int) (s : ByteArray) (n v : Nat) (w : World) (A : Snt) (hs : s.size ≤ 140737488355328) (hn : n < 18446744073709551616) (hv : v < 18446744073709551616) (hA : Lds A w) :
    Calls Tryd.prog 6 #[epdV sc s n v] w fun e w' => e = .returned (.bool true) ∧ Below w.heap.size w w' := by
  have CC := Lib.hid (fun W (hW : Lds A W) => ccheck_any A sc s n v W hW hs)
  have C0 := Lib.hid (fun W => none_any sc s n v W)
  have CT := Lib.hid (fun W (hW : Lds A W) => text_any A sc s n v W hW hs hn hv)
  have CN := Lib.hid (fun W (hW : Lds A W) => node_any A sc s n v W hW hs hn)
  have CH := Lib.hid (fun W (hW : Lds A W) => heads_any A W hW)
  have HA1 := Lib.hid (hA.alloc (.cells #[.int .i64 sc, .string s, .int .u64 (n : Int), .int .u64 (v : Int)] 25))
  have HB0 : Hid (Below w.heap.size w (w.alloc (.cells #[.int .i64 sc, .string s, .int .u64 (n : Int), .int .u64 (v : Int)] 25))) := (Below.refl _ _).alloc (Nat.le_refl _) _
  clear hA
  by_cases hcn : checkB (ep sc s n v) = true ∧ noneB (ep sc s n v) = false
  · obtain ⟨hc, hno⟩ := hcn
    obtain ⟨n0, h1, h2, h3, h4, h5⟩ := node_text hc hno
    have hnl := node_le (e := ep sc s n v) hn
    have htl := text_le (e := ep sc s n v) hn hv
    have CP := Lib.hid (fun W (hW : Lds A W) => parse_any A (strL (nodeE (ep sc s n v))) W hW (by rw [strL_size]; omega))
    rw [strL_list] at CP
    have HN0 := Lib.hid (And.intro h1 (And.intro h2 (And.intro h3 h4)))
    have z1 : (strL (nodeE (ep sc s n v))).size ≤ 80 := by rw [strL_size]; exact hnl
    have z2 : (strL (textE (ep sc s n v))).size ≤ 80 := by rw [strL_size]; exact htl
    have z3 : (strL (nodeE (ep sc s n v))).size ≤ (strL (textE (ep sc s n v))).size + 2 := by rw [strL_size, strL_size]; exact h5
    have HNL := Lib.hid hnl
    have HN := Lib.hid hn
    have hsc : (ep sc s n v).scheme = sc := rfl
    rw [hc] at CC
    rw [hno] at C0
    clear hc hno h1 h2 h3 h4 h5 hnl htl
    generalize hNE : nodeE (ep sc s n v) = NE at *
    generalize strL (textE (ep sc s n v)) = T at *
    have HNE := Lib.hid hNE
    clear hNE
    generalize hS : strL NE = S at *
    have HSS := Lib.hid hS
    clear hS
    rw [hsc] at HN0
    unfold epdV at *
    have i1 : (S.size : Int) ≤ 80 := by omega
    have i2 : (T.size : Int) ≤ 80 := by omega
    have i3 : (S.size : Int) ≤ (T.size : Int) + 2 := by omega
    go_enter Tryd.func6, Tryd.ntmps6
    go_wp2_with fail
    refine (CN.out _ HA1.out).mono ?_
    rintro e w1 ⟨rfl, hb⟩
    have HL1 := Lib.hid (HA1.out.below hb (Nat.le_refl _))
    have HX1 := Lib.hid hb
    obtain ⟨x0, x1, x2, x3⟩ := box_cells4 hb
    clear hb
    go_wp2_with fail
    refine (CC.out _ HL1.out).mono ?_
    rintro e w2 ⟨rfl, hb⟩
    have HL2 := Lib.hid (HL1.out.below hb (Nat.le_refl _))
    have hx2 := HX1.out.trans (hb.mono HX1.out.size)
    clear x0 x1 x2 x3
    obtain ⟨x0, x1, x2, x3⟩ := box_cells4 hx2
    have HX2 := Lib.hid hx2
    clear hb hx2
    go_wp2_with fail
    refine (C0.out _).mono ?_
    rintro e w3 ⟨rfl, hb⟩
    have HL3 := Lib.hid (HL2.out.below hb (Nat.le_refl _))
    have hx3 := HX2.out.trans (hb.mono HX2.out.size)
    have HX3 := Lib.hid hx3
    clear hb hx3 x0 x1 x2 x3
    go_wp2_with fail
    refine (CP.out _ HL3.out).mono ?_
    rintro e w4 ⟨hb, ⟨sc5, s5, n5, v5, rfl, h51, h52, h53, hc5, ht5⟩ | ⟨h, -⟩⟩
    case inr => exact absurd HN0.out.2.1 (h _ HN0.out.1)
    have h55 := text_inj hc5 HN0.out.1 (ht5.trans HN0.out.2.1.symm)
    have hsc5 : sc5 = sc := by have h := congrArg Epd.scheme h55; rw [HN0.out.2.2.2] at h; exact h
    subst hsc5
    have hNd : strL (nodeE (ep sc5 s5 n5 v5)) = S := by rw [h55, HN0.out.2.2.1]; exact HSS.out
    have CN5 := Lib.hid (fun W (hW : Lds A W) => node_any A sc5 s5 n5 v5 W hW (by have := HNL.out; omega) h52)
    rw [hNd] at CN5
    unfold epdV at *
    have hx4 := HX3.out.trans ((hb.alloc hb.size (.cells #[.int .i64 sc5, .string s5, .int .u64 (n5 : Int), .int .u64 (v5 : Int)] 25)).mono HX3.out.size)
    obtain ⟨x0, x1, x2, x3⟩ := box_cells4 hx4
    obtain ⟨y0, y1, y2, y3⟩ := box_cells4 (Below.refl _ (w4.alloc (.cells #[.int .i64 sc5, .string s5, .int .u64 (n5 : Int), .int .u64 (v5 : Int)] 25)))
    have HL4 := Lib.hid ((HL3.out.below hb (Nat.le_refl _)).alloc (.cells #[.int .i64 sc5, .string s5, .int .u64 (n5 : Int), .int .u64 (v5 : Int)] 25))
    have HX4 := Lib.hid hx4
    have HZ := Lib.hid (And.intro y0 x0)
    have HZL : Hid (w4.heap.size < (w4.alloc (.cells #[.int .i64 sc5, .string s5, .int .u64 (n5 : Int), .int .u64 (v5 : Int)] 25)).heap.size) := by show _ < _; simp
    have HYY := Lib.hid (box_cells4 (Below.refl _ (w4.alloc (.cells #[.int .i64 sc5, .string s5, .int .u64 (n5 : Int), .int .u64 (v5 : Int)] 25))))
    clear hb hx4 h51 h52 h53 hc5 ht5 h55 hNd
    go_wp2_with fail
    generalize w4.alloc (.cells #[.int .i64 sc5, .string s5, .int .u64 (n5 : Int), .int .u64 (v5 : Int)] 25) = X4 at *
    refine (CN5.out _ HL4.out).mono ?_
    rintro e w5 ⟨rfl, hb⟩
    have HL5 := Lib.hid (HL4.out.below hb (Nat.le_refl _))
    have hx5 := HX4.out.trans (hb.mono HX4.out.size)
    have j0 := (hb.cell (p := ⟨w4.heap.size, 0, none⟩) HZL.out).trans HZ.out.1
    clear x0 x1 x2 x3 y0 y1 y2 y3
    obtain ⟨x0, x1, x2, x3⟩ := box_cells4 hx5
    have HX5 := Lib.hid hx5
    clear hb hx5
    go_wp2_with fail
    refine (CT.out _ HL5.out).mono ?_
    rintro e w6 ⟨rfl, hb⟩
    have HL6 := Lib.hid (HL5.out.below hb (Nat.le_refl _))
    have HX6 := Lib.hid (HX5.out.trans (hb.mono HX5.out.size))
    clear hb x0 x1 x2 x3 j0
    go_wp2_with fail
    refine (CH.out _ HL6.out).mono ?_
    rintro e w7 ⟨rfl, hb⟩
    have HB7 := Lib.hid ((HB0.out.trans (HX6.out.mono HB0.out.size)).trans (hb.mono (Nat.le_trans HB0.out.size HX6.out.size)))
    clear hb
    go_wp2_with fail
    go_ret
    exact ⟨rfl, HB7.out⟩
  · have ht : strL (nodeE (ep sc s n v)) = ⟨#[]⟩ := by
      unfold nodeE
      rw [if_pos]
      · rfl
      · cases hc : checkB (ep sc s n v) with
        | false => exact .inl rfl
        | true =>
          cases hno : noneB (ep sc s n v) with
          | true => exact .inr rfl
          | false => exact absurd ⟨hc, hno⟩ hcn
    rw [ht] at CN
    unfold epdV at *
    cases hc : checkB (ep sc s n v) with
    | false =>
      rw [hc] at CC
      clear hc hcn ht
      go_enter Tryd.func6, Tryd.ntmps6
      go_wp2_with fail
      refine (CN.out _ HA1.out).mono ?_
      rintro e w1 ⟨rfl, hb⟩
      have HL1 := Lib.hid (HA1.out.below hb (Nat.le_refl _))
      have HX1 := Lib.hid hb
      obtain ⟨x0, x1, x2, x3⟩ := box_cells4 hb
      clear hb
      go_wp2_with fail
      refine (CC.out _ HL1.out).mono ?_
      rintro e w2 ⟨rfl, hb⟩
      have HL2 := Lib.hid (HL1.out.below hb (Nat.le_refl _))
      have HX2 := Lib.hid (HX1.out.trans (hb.mono HX1.out.size))
      clear x0 x1 x2 x3 hb
      go_wp2_with fail
      refine (CH.out _ HL2.out).mono ?_
      rintro e w7 ⟨rfl, hb⟩
      have HB7 := Lib.hid ((HB0.out.trans (HX2.out.mono HB0.out.size)).trans (hb.mono (Nat.le_trans HB0.out.size HX2.out.size)))
      clear hb
      go_wp2_with fail
      go_ret
      exact ⟨rfl, HB7.out⟩
    | true =>
      have hno : noneB (ep sc s n v) = true := by
        cases hno : noneB (ep sc s n v) with
        | true => rfl
        | false => exact absurd ⟨hc, hno⟩ hcn
      rw [hc] at CC
      rw [hno] at C0
      clear hc hno hcn ht
      go_enter Tryd.func6, Tryd.ntmps6
      go_wp2_with fail
      refine (CN.out _ HA1.out).mono ?_
      rintro e w1 ⟨rfl, hb⟩
      have HL1 := Lib.hid (HA1.out.below hb (Nat.le_refl _))
      have HX1 := Lib.hid hb
      obtain ⟨x0, x1, x2, x3⟩ := box_cells4 hb
      clear hb
      go_wp2_with fail
      refine (CC.out _ HL1.out).mono ?_
      rintro e w2 ⟨rfl, hb⟩
      have HL2 := Lib.hid (HL1.out.below hb (Nat.le_refl _))
      have hx2 := HX1.out.trans (hb.mono HX1.out.size)
      clear x0 x1 x2 x3
      obtain ⟨x0, x1, x2, x3⟩ := box_cells4 hx2
      have HX2 := Lib.hid hx2
      clear hb hx2
      go_wp2_with fail
      refine (C0.out _).mono ?_
      rintro e w3 ⟨rfl, hb⟩
      have HL3 := Lib.hid (HL2.out.below hb (Nat.le_refl _))
      have HX3 := Lib.hid (HX2.out.trans (hb.mono HX2.out.size))
      clear hb x0 x1 x2 x3
      go_wp2_with fail
      refine (CH.out _ HL3.out).mono ?_
      rintro e w7 ⟨rfl, hb⟩
      have HB7 := Lib.hid ((HB0.out.trans (HX3.out.mono HB0.out.size)).trans (hb.mono (Nat.le_trans HB0.out.size HX3.out.size)))
      clear hb
      go_wp2_with fail
      go_ret
      exact ⟨rfl, HB7.out⟩
end Go.Proofs.YtlncacfflalacaaDoor
