/- What Encode of layer 5's reference returns. (Made by gen/BlkW4.py.) -/
import Derived.Test.YtlecbblmaadpiaaGreatDoorJBlkW3
import Derived.Test.YtlecbblmaadpiaaGreatDoorJBunC
import Derived.Test.YtlecbblmaadpiaaGreatDoorJRfJ
import Derived.Test.YtlecbblmaadpiaaGreatDoorJRfU
import Derived.Laws.Bits64b
namespace Go.Proofs.YtlecbblmaadpiaaGreatDoor
open Go.RowKit
theorem take_app_right (a b : List UInt8) (N : Nat) (h : b.length = N) : (a ++ b).take ((a ++ b).length - N) = a := by
  rw [List.length_append, h, Nat.add_sub_cancel, List.take_left]
end Go.Proofs.YtlecbblmaadpiaaGreatDoor
/- What Check of layer 6's reference returns. (Made by gen/RfV.py, gen/bun.py.) -/
namespace Go.Proofs.YtlecbblmaadpiaaGreatDoor
open Go.RowKit
theorem and4_or (f : Nat) : f &&& 4 = 0 ∨ f &&& 4 = 4 := by
  have h1 : f &&& 4 ≤ 4 := Nat.and_le_right
  have h2 : (f &&& 4) &&& 4 = f &&& 4 := by rw [Nat.and_assoc, Nat.and_self]
  generalize f &&& 4 = x at *
  match x, h1, h2 with
  | 0, _, _ => exact .inl rfl
  | 1, _, h => exact absurd h (by decide)
  | 2, _, h => exact absurd h (by decide)
  | 3, _, h => exact absurd h (by decide)
  | 4, _, _ => exact .inr rfl
theorem and_whole (f : Nat) : (f &&& 475140 = 4) ↔ (f &&& 4 ≠ 0 ∧ f &&& 475136 = 0) := by
  have e : f &&& 475140 = (f &&& 4) ||| (f &&& 475136) := by rw [show (475140 : Nat) = 4 ||| 475136 by decide, Nat.and_or_distrib_left]
  have h2 : (f &&& 475136) &&& 475136 = f &&& 475136 := by rw [Nat.and_assoc, Nat.and_self]
  rcases and4_or f with h0 | h4
  · rw [e, h0, Nat.zero_or]
    generalize f &&& 475136 = y at *
    constructor
    · intro h; subst h; exact absurd h2 (by decide)
    · intro h; exact absurd rfl h.1
  · rw [e, h4]
    have hle : (f &&& 475136) ≤ 4 ||| (f &&& 475136) := Nat.right_le_or
    generalize f &&& 475136 = y at *
    constructor
    · intro h
      rw [h] at hle
      refine ⟨by decide, ?_⟩
      match y, hle, h2 with
      | 0, _, _ => rfl
      | 1, _, h => exact absurd h (by decide)
      | 2, _, h => exact absurd h (by decide)
      | 3, _, h => exact absurd h (by decide)
      | 4, _, h => exact absurd h (by decide)
    · rintro ⟨_, rfl⟩; rfl
theorem whole_split (f : Nat) (hf : f < 18446744073709551616) : wholeB f = (!(bits BinOp.and IntKind.u64 (f : Int) 4 == 0) && !(bits BinOp.and IntKind.u64 (f : Int) 475136 != 0)) := by
  unfold wholeB
  have e1 := bits_and_u64_nat f 475140 hf (by decide)
  have e2 := bits_and_u64_nat f 4 hf (by decide)
  have e3 := bits_and_u64_nat f 475136 hf (by decide)
  have c1 : ((475140 : Nat) : Int) = 475140 := rfl
  have c2 : ((4 : Nat) : Int) = 4 := rfl
  have c3 : ((475136 : Nat) : Int) = 475136 := rfl
  rw [c1] at e1
  rw [c2] at e2
  rw [c3] at e3
  rw [e1, e2, e3, Bool.eq_iff_iff]
  have := and_whole f
  simp
  omega
set_option maxRecDepth 100000 in
set_option maxHeartbeats 16000000 in
theorem rcheckU_any (h : BH) (l : List Blk) (A : Option Addr) (n c B : Nat) (w : World) (hd : h.Bd) (hr : RdL w B A n l) (hB : B ≤ w.heap.size) :
    Calls Tryz.prog 53 #[bunV h A n c] w fun e w' => e = .returned (.int .i64 (cauU (h.bun l))) ∧ Below w.heap.size w w' := by
  have HB0 := Lib.hid ((Below.refl w.heap.size w).alloc (Nat.le_refl _) (.cells #[.int .u64 (h.flg : Int), .int .i64 h.crc, .int .i64 h.dsc, .string h.dnm, .int .u64 (h.dn : Int), .int .u64 (h.dv : Int), .int .i64 h.ssc, .string h.snm, .int .u64 (h.sn : Int), .int .u64 (h.sv : Int), .int .i64 h.rsc, .string h.rnm, .int .u64 (h.rn : Int), .int .u64 (h.rv : Int), .int .u64 (h.tim : Int), .int .u64 (h.seq : Int), .int .u64 (h.lif : Int), .slice A n c] 73))
  have HW0 : Hid (Below (w.heap.size + 1) (w.alloc (.cells #[.int .u64 (h.flg : Int), .int .i64 h.crc, .int .i64 h.dsc, .string h.dnm, .int .u64 (h.dn : Int), .int .u64 (h.dv : Int), .int .i64 h.ssc, .string h.snm, .int .u64 (h.sn : Int), .int .u64 (h.sv : Int), .int .i64 h.rsc, .string h.rnm, .int .u64 (h.rn : Int), .int .u64 (h.rv : Int), .int .u64 (h.tim : Int), .int .u64 (h.seq : Int), .int .u64 (h.lif : Int), .slice A n c] 73)) (w.alloc (.cells #[.int .u64 (h.flg : Int), .int .i64 h.crc, .int .i64 h.dsc, .string h.dnm, .int .u64 (h.dn : Int), .int .u64 (h.dv : Int), .int .i64 h.ssc, .string h.snm, .int .u64 (h.sn : Int), .int .u64 (h.sv : Int), .int .i64 h.rsc, .string h.rnm, .int .u64 (h.rn : Int), .int .u64 (h.rv : Int), .int .u64 (h.tim : Int), .int .u64 (h.seq : Int), .int .u64 (h.lif : Int), .slice A n c] 73))) := Below.refl _ _
  have HX := Lib.hid (fun (W : World) (hb : Below (w.heap.size + 1) (w.alloc (.cells #[.int .u64 (h.flg : Int), .int .i64 h.crc, .int .i64 h.dsc, .string h.dnm, .int .u64 (h.dn : Int), .int .u64 (h.dv : Int), .int .i64 h.ssc, .string h.snm, .int .u64 (h.sn : Int), .int .u64 (h.sv : Int), .int .i64 h.rsc, .string h.rnm, .int .u64 (h.rn : Int), .int .u64 (h.rv : Int), .int .u64 (h.tim : Int), .int .u64 (h.seq : Int), .int .u64 (h.lif : Int), .slice A n c] 73)) W) => box18 rfl hb)
  have K1 := Lib.hid (fun W => rcheckE_any h.dsc h.dnm h.dn h.dv W hd.dnm)
  have K2 := Lib.hid (fun W => rcheckE_any h.ssc h.snm h.sn h.sv W hd.snm)
  have K3 := Lib.hid (fun W => rcheckE_any h.rsc h.rnm h.rn h.rv W hd.rnm)
  have N1 := Lib.hid (fun W => rnone_any h.dsc h.dnm h.dn h.dv W)
  have N2 := Lib.hid (fun W => rnone_any h.ssc h.snm h.sn h.sv W)
  have HS : Hid ((w.alloc (.cells #[.int .u64 (h.flg : Int), .int .i64 h.crc, .int .i64 h.dsc, .string h.dnm, .int .u64 (h.dn : Int), .int .u64 (h.dv : Int), .int .i64 h.ssc, .string h.snm, .int .u64 (h.sn : Int), .int .u64 (h.sv : Int), .int .i64 h.rsc, .string h.rnm, .int .u64 (h.rn : Int), .int .u64 (h.rv : Int), .int .u64 (h.tim : Int), .int .u64 (h.seq : Int), .int .u64 (h.lif : Int), .slice A n c] 73)).heap.size = w.heap.size + 1) := by show _ = _; simp
  have KO := Lib.hid (fun (W : World) (hb : Below w.heap.size w W) (h1 : 1 ≤ n) (h2 : n ≤ 1000) => ronce_any A n c B l W (hr.below (hb.mono hB)) (Nat.le_trans hB hb.size) h1 h2)
  obtain ⟨Z, hZ0⟩ : ∃ Z, Z = cauU (h.bun l) := ⟨_, rfl⟩
  rw [← hZ0]
  have hZ : Z = if fragB h.flg = true then 62 else if (decide (0 ≤ h.crc ∧ h.crc ≤ 2) && ((checkB h.dst && (checkB h.src && checkB h.rep)) && ((!(noneB h.dst)) && (!(noneB h.src && !(wholeB h.flg)))))) = true ∧ (decide (1 ≤ n ∧ n ≤ 16) && frm [] l) = true then 0 else 60 := by
    rw [hZ0]
    unfold cauU
    rw [primOk_dec]
    unfold blksOk
    rw [show (h.bun l).blks.length = n from hr.1]
    rfl
  rw [whole_split h.flg hd.flg] at hZ
  have e1 : checkB (ep h.dsc h.dnm h.dn h.dv) = checkB h.dst := rfl
  have e2 : checkB (ep h.ssc h.snm h.sn h.sv) = checkB h.src := rfl
  have e3 : checkB (ep h.rsc h.rnm h.rn h.rv) = checkB h.rep := rfl
  have e4 : noneB (ep h.dsc h.dnm h.dn h.dv) = noneB h.dst := rfl
  have e5 : noneB (ep h.ssc h.snm h.sn h.sv) = noneB h.src := rfl
  rw [e1] at K1
  rw [e2] at K2
  rw [e3] at K3
  rw [e4] at N1
  rw [e5] at N2
  have hfr : (bits BinOp.and IntKind.u64 (h.flg : Int) 1 != 0) = fragB h.flg := rfl
  generalize fragB h.flg = fr at *
  generalize checkB h.dst = c1 at *
  generalize checkB h.src = c2 at *
  generalize checkB h.rep = c3 at *
  generalize noneB h.dst = n1 at *
  generalize noneB h.src = n2 at *
  generalize hb4 : (bits BinOp.and IntKind.u64 (h.flg : Int) 4 == 0) = b4 at *
  generalize hbR : (bits BinOp.and IntKind.u64 (h.flg : Int) 475136 != 0) = bR at *
  generalize frm [] l = fm at *
  clear e1 e2 e3 e4 e5 hd hr hB hZ0
  unfold bunV epdV at *
  cases fr with
  | true =>
    obtain rfl : Z = 62 := hZ
    clear hb4 hbR
    go_enter Tryz.func53, Tryz.ntmps53
    go_wp2_with fail
    go_ret
    exact ⟨rfl, HB0.out⟩
  | false =>
  rw [if_neg (by decide)] at hZ
  by_cases h1 : h.crc < 0
  · obtain rfl : Z = 60 := by rw [hZ, decide_eq_false (by omega)]; rfl
    clear hZ
    go_enter Tryz.func53, Tryz.ntmps53
    go_wp2_with fail
    go_ret
    exact ⟨rfl, HB0.out⟩
  have h1' : decide (h.crc < 0) = false := decide_eq_false h1
  by_cases h2 : 2 < h.crc
  · obtain rfl : Z = 60 := by rw [hZ, decide_eq_false (by omega)]; rfl
    clear hZ
    go_enter Tryz.func53, Tryz.ntmps53
    go_wp2_with fail
    go_ret
    exact ⟨rfl, HB0.out⟩
  have h2' : decide (2 < h.crc) = false := decide_eq_false h2
  rw [decide_eq_true (by omega), Bool.true_and] at hZ
  go_enter Tryz.func53, Tryz.ntmps53
  go_wp2_with fail
  refine (K1.out _).mono ?_
  rintro e w1 ⟨rfl, hb⟩
  have Bw1 := Lib.hid (Below.push HW0.out (Nat.le_of_eq HS.out.symm) hb)
  have Tw1 := Lib.hid (HB0.out.trans (Bw1.out.mono (Nat.le_succ _)))
  clear hb
  obtain ⟨x0, x1, x2, x3, x4, x5, x6, x7, x8, x9, x10, x11, x12, x13, x14, x15, x16, x17⟩ := HX.out _ Bw1.out
  cases c1 with
  | false =>
    obtain rfl : Z = 60 := by rw [hZ]; simp
    clear hZ
    go_wp2_with fail
    go_ret
    exact ⟨rfl, Tw1.out⟩
  | true =>
  go_wp2_with fail
  refine (K2.out _).mono ?_
  rintro e w2 ⟨rfl, hb⟩
  have Bw2 := Lib.hid (Below.push Bw1.out (Nat.le_of_eq HS.out.symm) hb)
  have Tw2 := Lib.hid (HB0.out.trans (Bw2.out.mono (Nat.le_succ _)))
  clear hb
  clear x0 x1 x2 x3 x4 x5 x6 x7 x8 x9 x10 x11 x12 x13 x14 x15 x16 x17
  obtain ⟨x0, x1, x2, x3, x4, x5, x6, x7, x8, x9, x10, x11, x12, x13, x14, x15, x16, x17⟩ := HX.out _ Bw2.out
  cases c2 with
  | false =>
    obtain rfl : Z = 60 := by rw [hZ]; simp
    clear hZ
    go_wp2_with fail
    go_ret
    exact ⟨rfl, Tw2.out⟩
  | true =>
  go_wp2_with fail
  refine (K3.out _).mono ?_
  rintro e w3 ⟨rfl, hb⟩
  have Bw3 := Lib.hid (Below.push Bw2.out (Nat.le_of_eq HS.out.symm) hb)
  have Tw3 := Lib.hid (HB0.out.trans (Bw3.out.mono (Nat.le_succ _)))
  clear hb
  clear x0 x1 x2 x3 x4 x5 x6 x7 x8 x9 x10 x11 x12 x13 x14 x15 x16 x17
  obtain ⟨x0, x1, x2, x3, x4, x5, x6, x7, x8, x9, x10, x11, x12, x13, x14, x15, x16, x17⟩ := HX.out _ Bw3.out
  cases c3 with
  | false =>
    obtain rfl : Z = 60 := by rw [hZ]; simp
    clear hZ
    go_wp2_with fail
    go_ret
    exact ⟨rfl, Tw3.out⟩
  | true =>
  go_wp2_with fail
  refine (N1.out _).mono ?_
  rintro e w4 ⟨rfl, hb⟩
  have Bw4 := Lib.hid (Below.push Bw3.out (Nat.le_of_eq HS.out.symm) hb)
  have Tw4 := Lib.hid (HB0.out.trans (Bw4.out.mono (Nat.le_succ _)))
  clear hb
  clear x0 x1 x2 x3 x4 x5 x6 x7 x8 x9 x10 x11 x12 x13 x14 x15 x16 x17
  obtain ⟨x0, x1, x2, x3, x4, x5, x6, x7, x8, x9, x10, x11, x12, x13, x14, x15, x16, x17⟩ := HX.out _ Bw4.out
  cases n1 with
  | true =>
    obtain rfl : Z = 60 := by rw [hZ]; simp
    clear hZ
    go_wp2_with fail
    go_ret
    exact ⟨rfl, Tw4.out⟩
  | false =>
  by_cases hn1 : n < 1
  · have q1 : (n : Int) < 1 := by omega
    have q2 : decide ((n : Int) < 1) = true := decide_eq_true q1
    obtain rfl : Z = 60 := by rw [hZ, decide_eq_false (show ¬ (1 ≤ n ∧ n ≤ 16) by omega)]; simp
    clear hZ
    go_wp2_with fail
    go_ret
    exact ⟨rfl, Tw4.out⟩
  have q1 : ¬ (n : Int) < 1 := by omega
  have q2 : decide ((n : Int) < 1) = false := decide_eq_false q1
  by_cases hn16 : 16 < n
  · have q3 : (16 : Int) < (n : Int) := by omega
    have q4 : decide ((16 : Int) < (n : Int)) = true := decide_eq_true q3
    obtain rfl : Z = 60 := by rw [hZ, decide_eq_false (show ¬ (1 ≤ n ∧ n ≤ 16) by omega)]; simp
    clear hZ
    go_wp2_with fail
    go_ret
    exact ⟨rfl, Tw4.out⟩
  have q3 : ¬ (16 : Int) < (n : Int) := by omega
  have q4 : decide ((16 : Int) < (n : Int)) = false := decide_eq_false q3
  rw [decide_eq_true (show 1 ≤ n ∧ n ≤ 16 by omega), Bool.true_and] at hZ
  go_wp2_with fail
  refine (KO.out _ Tw4.out (by omega) (by omega)).mono ?_
  rintro e w5 ⟨rfl, hb⟩
  have Bw5 := Lib.hid (Below.push Bw4.out (Nat.le_of_eq HS.out.symm) hb)
  have Tw5 := Lib.hid (HB0.out.trans (Bw5.out.mono (Nat.le_succ _)))
  clear hb x0 x1 x2 x3 x4 x5 x6 x7 x8 x9 x10 x11 x12 x13 x14 x15 x16 x17
  obtain ⟨x0, x1, x2, x3, x4, x5, x6, x7, x8, x9, x10, x11, x12, x13, x14, x15, x16, x17⟩ := HX.out _ Bw5.out
  cases fm with
  | false =>
    obtain rfl : Z = 60 := by rw [hZ]; simp
    clear hZ
    go_wp2_with fail
    go_ret
    exact ⟨rfl, Tw5.out⟩
  | true =>
  go_wp2_with fail
  refine (N2.out _).mono ?_
  rintro e w6 ⟨rfl, hb⟩
  have Bw6 := Lib.hid (Below.push Bw5.out (Nat.le_of_eq HS.out.symm) hb)
  have Tw6 := Lib.hid (HB0.out.trans (Bw6.out.mono (Nat.le_succ _)))
  clear hb x0 x1 x2 x3 x4 x5 x6 x7 x8 x9 x10 x11 x12 x13 x14 x15 x16 x17
  obtain ⟨x0, x1, x2, x3, x4, x5, x6, x7, x8, x9, x10, x11, x12, x13, x14, x15, x16, x17⟩ := HX.out _ Bw6.out
  cases n2 with
  | false =>
    obtain rfl : Z = 0 := by rw [hZ]; simp
    clear hZ
    go_wp2_with fail
    go_ret
    exact ⟨rfl, Tw6.out⟩
  | true =>
  cases b4 with
  | true =>
    obtain rfl : Z = 60 := by rw [hZ]; simp
    clear hZ
    go_wp2_with fail
    go_ret
    exact ⟨rfl, Tw6.out⟩
  | false =>
  cases bR with
  | true =>
    obtain rfl : Z = 60 := by rw [hZ]; simp
    clear hZ
    go_wp2_with fail
    go_ret
    exact ⟨rfl, Tw6.out⟩
  | false =>
    obtain rfl : Z = 0 := by rw [hZ]; simp
    clear hZ
    go_wp2_with fail
    go_ret
    exact ⟨rfl, Tw6.out⟩
end Go.Proofs.YtlecbblmaadpiaaGreatDoor
/- Sealed over a primary block's items; what Primary of layer 6's reference returns. (Made by gen/RfK.py, gen/bun.py.) -/
namespace Go.Proofs.YtlecbblmaadpiaaGreatDoor
open Go.RowKit
set_option maxRecDepth 100000 in
set_option maxHeartbeats 4000000 in
theorem rsealedZ_any (g m cap : Nat) (its : List Itm) (w : World) (hg : g < w.heap.size) (h : RdIs w w.heap.size g 0 its) (hm : its.length = m) (h0 : 0 < m) (hmx : m ≤ 1000) (hcap : m ≤ cap)
    (hF : Fits (.mk 4 0 [] its)) (hp : par (.mk 4 0 [] its) ≤ 1000000) (hh : hgt (.mk 4 0 [] its) ≤ 1001) (hlen : (wri (.mk 4 0 [] its)).length ≤ 1000000) :
    Calls Tryz.prog 100 #[.slice (some ⟨g, 0, none⟩) m cap, .int .i64 0] w (Gives (wri (.mk 4 0 [] its)) w) := by
  have C1 := Lib.hid (rarray_any g 0 m cap w.heap.size its w (Nat.le_refl _) hg h hm h0 (by omega) hcap)
  have C2 := Lib.hid (fun v W (hr : RdI W W.heap.size v (.mk 4 0 [] its)) => rencode_any (.mk 4 0 [] its) v W W.heap.size hp hh (fun _ => Nat.le_trans hlen (by decide)) (Nat.le_refl _) hr)
  rw [enc_ok hF] at C2
  clear hF hp hh hlen h hg hm h0 hmx hcap
  generalize wri (.mk 4 0 [] its) = WB at *
  generalize Itm.mk 4 0 [] its = X at *
  go_enter Tryz.func100, Tryz.ntmps100
  go_wp2_with fail
  refine C1.out.mono ?_
  rintro e w1 ⟨v1, rfl, hv1, hb1⟩
  obtain ⟨k1, n1, A1, nd1, cd1, AL1, nl1, cl1, rfl⟩ := hv1.form
  have B1 := Lib.hid hb1
  have V1 := Lib.hid hv1
  clear hb1 hv1 C1
  go_wp2_with fail
  refine (C2.out _ _ V1.out).mono ?_
  rintro e w2 ⟨v2, rfl, ho2, hb2⟩
  obtain ⟨A2, c2, rfl, hc2, -, hr2⟩ := ho2.rd
  have HR2 := Lib.hid (And.intro hc2 hr2)
  have B2 := Lib.hid (B1.out.trans (hb2.mono B1.out.size))
  clear hb2 ho2 hc2 hr2
  go_wp2_with fail
  go_ret
  exact ⟨_, _, _, rfl, HR2.out.2, HR2.out.1, B2.out⟩
theorem itemE_hgt (e : Epd) : hgt (itemE e) ≤ 3 := by
  unfold itemE
  split
  · simp [hgt, hgts]
  · split <;> simp [hgt, hgts]
theorem itmP_hgt (b : Bun) (s : List UInt8) : hgt (itmP b s) ≤ 1001 := by
  have h1 := itemE_hgt b.dst
  have h2 := itemE_hgt b.src
  have h3 := itemE_hgt b.rep
  unfold itmP partsP
  by_cases h0 : b.crc = 0
  · simp only [if_pos h0]
    simp [hgt, hgts]
    omega
  · simp only [if_neg h0]
    simp [hgt, hgts]
    omega
theorem itmP_par {b : Bun} (s : List UInt8) (h : Wr b) : par (itmP b s) ≤ 1000000 := by have := (itmP_fits s h).2.2; omega
theorem itmP_0 {b : Bun} (h0 : b.crc = 0) : itmP b [] = .mk 4 0 [] (partsP b) := by unfold itmP; rw [if_pos h0, List.append_nil]
theorem itmP_1 {b : Bun} (h0 : b.crc ≠ 0) (s : List UInt8) : itmP b s = .mk 4 0 [] (partsP b ++ [.mk 2 0 s []]) := by unfold itmP; rw [if_neg h0]
theorem rsealedP_any (b : Bun) (g : Nat) (w : World) (hw : Wr b) (hg : g < w.heap.size) (h : RdIs w w.heap.size g 0 (partsP b)) :
    Calls Tryz.prog 100 #[.slice (some ⟨g, 0, none⟩) 8 8, .int .i64 b.crc] w (Gives (primW b) w) := by
  have hbl := bodyP_len hw
  have hc : b.crc = 0 ∨ b.crc = 1 ∨ b.crc = 2 := by have := hw.1; omega
  rcases hc with h0 | h0
  · have e1 : (sumP b) = [] := List.eq_nil_of_length_eq_zero (by rw [sumP_len, h0]; rfl)
    have e2 : wri (itmP b []) = primW b := by rw [wri_itmP b [] (by rw [h0]; rfl)]; unfold primW; rw [e1]
    have hF := itmP_fits [] hw
    have hp := itmP_par [] hw
    have hh := itmP_hgt b []
    have hl : (wri (itmP b [])).length ≤ 1000000 := by rw [wri_itmP b [] (by rw [h0]; rfl), List.append_nil]; omega
    rw [itmP_0 h0] at e2 hF hp hh hl
    rw [h0, ← e2]
    exact rsealedZ_any g 8 8 (partsP b) w hg h rfl (by decide) (by decide) (Nat.le_refl _) hF hp hh hl
  · have key : ∀ N : Nat, ((b.crc = 1 ∧ N = 2) ∨ (b.crc = 2 ∧ N = 4)) → Calls Tryz.prog 100 #[.slice (some ⟨g, 0, none⟩) 8 8, .int .i64 b.crc] w (Gives (primW b) w) := fun N hN => by
      have hs : sumN b.crc = N := by rcases hN with ⟨h1, rfl⟩ | ⟨h1, rfl⟩ <;> (rw [h1]; rfl)
      have hne : b.crc ≠ 0 := by omega
      have hwi := wri_itmP b (List.replicate N 0) (by rw [List.length_replicate, hs])
      have hF := itmP_fits (List.replicate N 0) hw
      have hp := itmP_par (List.replicate N 0) hw
      have hh := itmP_hgt b (List.replicate N 0)
      have hl : (wri (itmP b (List.replicate N 0))).length ≤ 1000000 ∧ N ≤ (wri (itmP b (List.replicate N 0))).length := by
        rw [hwi, List.length_append, List.length_replicate]
        omega
      have hQ : (wri (itmP b (List.replicate N 0))).take ((wri (itmP b (List.replicate N 0))).length - N) ++ crcBytes b.crc (wri (itmP b (List.replicate N 0))) = primW b := by
        rw [hwi, take_app_right _ _ N (by simp)]
        unfold primW sumP nullsP
        rw [hs]
      rw [itmP_1 hne] at hF hp hh hl hQ
      have := rsealedM_any g 8 8 (partsP b) b.crc N w hN hg h rfl (by decide) (by decide) (by decide) hF hp hh hl.1 hl.2
      rw [hQ] at this
      exact this
    rcases h0 with h0 | h0
    · exact key 2 (.inl ⟨h0, rfl⟩)
    · exact key 4 (.inr ⟨h0, rfl⟩)
set_option maxRecDepth 100000 in
set_option maxHeartbeats 8000000 in
theorem rprimary_any (h : BH) (l : List Blk) (A : Option Addr) (n c B : Nat) (w : World) (hd : h.Bd) (hr : RdL w B A n l) (hB : B ≤ w.heap.size) :
    Calls Tryz.prog 50 #[bunV h A n c] w fun e w' => Below w.heap.size w w' ∧ ∃ (A' : Option Addr) (n' c' : Nat), e = .returned (.tuple #[.slice A' n' c', .int .i64 (cauU (h.bun l))]) ∧ n' ≤ c' ∧ Rd w' w'.heap.size A' n' (if cauU (h.bun l) = 0 then primW (h.bun l) else []) := by
  have HB0 := Lib.hid ((Below.refl w.heap.size w).alloc (Nat.le_refl _) (.cells #[.int .u64 (h.flg : Int), .int .i64 h.crc, .int .i64 h.dsc, .string h.dnm, .int .u64 (h.dn : Int), .int .u64 (h.dv : Int), .int .i64 h.ssc, .string h.snm, .int .u64 (h.sn : Int), .int .u64 (h.sv : Int), .int .i64 h.rsc, .string h.rnm, .int .u64 (h.rn : Int), .int .u64 (h.rv : Int), .int .u64 (h.tim : Int), .int .u64 (h.seq : Int), .int .u64 (h.lif : Int), .slice A n c] 73))
  have HW0 : Hid (Below (w.heap.size + 1) (w.alloc (.cells #[.int .u64 (h.flg : Int), .int .i64 h.crc, .int .i64 h.dsc, .string h.dnm, .int .u64 (h.dn : Int), .int .u64 (h.dv : Int), .int .i64 h.ssc, .string h.snm, .int .u64 (h.sn : Int), .int .u64 (h.sv : Int), .int .i64 h.rsc, .string h.rnm, .int .u64 (h.rn : Int), .int .u64 (h.rv : Int), .int .u64 (h.tim : Int), .int .u64 (h.seq : Int), .int .u64 (h.lif : Int), .slice A n c] 73)) (w.alloc (.cells #[.int .u64 (h.flg : Int), .int .i64 h.crc, .int .i64 h.dsc, .string h.dnm, .int .u64 (h.dn : Int), .int .u64 (h.dv : Int), .int .i64 h.ssc, .string h.snm, .int .u64 (h.sn : Int), .int .u64 (h.sv : Int), .int .i64 h.rsc, .string h.rnm, .int .u64 (h.rn : Int), .int .u64 (h.rv : Int), .int .u64 (h.tim : Int), .int .u64 (h.seq : Int), .int .u64 (h.lif : Int), .slice A n c] 73))) := Below.refl _ _
  have HS0 : Hid ((w.alloc (.cells #[.int .u64 (h.flg : Int), .int .i64 h.crc, .int .i64 h.dsc, .string h.dnm, .int .u64 (h.dn : Int), .int .u64 (h.dv : Int), .int .i64 h.ssc, .string h.snm, .int .u64 (h.sn : Int), .int .u64 (h.sv : Int), .int .i64 h.rsc, .string h.rnm, .int .u64 (h.rn : Int), .int .u64 (h.rv : Int), .int .u64 (h.tim : Int), .int .u64 (h.seq : Int), .int .u64 (h.lif : Int), .slice A n c] 73)).heap.size = w.heap.size + 1) := by show _ = _; simp
  have HX := Lib.hid (fun (W : World) (hb : Below (w.heap.size + 1) (w.alloc (.cells #[.int .u64 (h.flg : Int), .int .i64 h.crc, .int .i64 h.dsc, .string h.dnm, .int .u64 (h.dn : Int), .int .u64 (h.dv : Int), .int .i64 h.ssc, .string h.snm, .int .u64 (h.sn : Int), .int .u64 (h.sv : Int), .int .i64 h.rsc, .string h.rnm, .int .u64 (h.rn : Int), .int .u64 (h.rv : Int), .int .u64 (h.tim : Int), .int .u64 (h.seq : Int), .int .u64 (h.lif : Int), .slice A n c] 73)) W) => row_of_box (w := w) rfl hb)
  have C1 := Lib.hid (rcheckU_any h l A n c B (w.alloc (.cells #[.int .u64 (h.flg : Int), .int .i64 h.crc, .int .i64 h.dsc, .string h.dnm, .int .u64 (h.dn : Int), .int .u64 (h.dv : Int), .int .i64 h.ssc, .string h.snm, .int .u64 (h.sn : Int), .int .u64 (h.sv : Int), .int .i64 h.rsc, .string h.rnm, .int .u64 (h.rn : Int), .int .u64 (h.rv : Int), .int .u64 (h.tim : Int), .int .u64 (h.seq : Int), .int .u64 (h.lif : Int), .slice A n c] 73)) hd (hr.below (HB0.out.mono hB)) (Nat.le_trans hB HB0.out.size))
  by_cases hz : cauU (h.bun l) = 0
  case neg =>
    have HE : Hid ((if cauU (h.bun l) = 0 then primW (h.bun l) else []) = ([] : List UInt8)) := if_neg hz
    rw [HE.out]
    have hz1 : (cauU (h.bun l) != 0) = true := by simp [hz]
    have hz2 : (cauU (h.bun l) == 0) = false := by simp [hz]
    generalize cauU (h.bun l) = z at *
    clear hr hB hd hz HE
    unfold bunV at *
    go_enter Tryz.func50, Tryz.ntmps50
    go_wp2_with (first
      | (refine wpList_ld18 rfl (.tmp 1) rfl _ rfl _ _ (HX.out _ HW0.out) rfl ?_)
      | fail)
    refine C1.out.mono ?_
    rintro e w1 ⟨rfl, hb⟩
    have B1 := Lib.hid (HB0.out.trans (hb.mono HB0.out.size))
    clear hb
    go_wp2_with fail
    go_ret2
    exact ⟨B1.out, _, _, _, rfl, Nat.le_refl _, Rd.nil_⟩
  rw [if_pos hz]
  have hwr : Wr (h.bun l) := (primOk_iff.1 (cauU_0.1 hz).2.1).1
  have C2 := Lib.hid (fun W => ritemsU_any h l A n c W hd hwr.1 hwr.2.1 hwr.2.2.1 hwr.2.2.2)
  have C3 := Lib.hid (fun g (W : World) (hg : g < W.heap.size) (hi : RdIs W W.heap.size g 0 (partsP (h.bun l))) => rsealedP_any (h.bun l) g W hwr hg hi)
  have hcr : (h.bun l).crc = h.crc := rfl
  rw [hcr] at C3
  generalize primW (h.bun l) = PW at *
  generalize cauU (h.bun l) = z at *
  subst hz
  clear hr hB hd hwr hcr
  unfold bunV at *
  go_enter Tryz.func50, Tryz.ntmps50
  go_wp2_with (first
    | (refine wpList_ld18 rfl (.tmp 1) rfl _ rfl _ _ (HX.out _ HW0.out) rfl ?_)
    | fail)
  refine C1.out.mono ?_
  rintro e w1 ⟨rfl, hb⟩
  have B1 := Lib.hid (Below.push HW0.out (Nat.le_of_eq HS0.out.symm) hb)
  have T1 := Lib.hid (HB0.out.trans (B1.out.mono (Nat.le_succ _)))
  have R1 := Lib.hid (HX.out _ B1.out)
  clear hb
  go_wp2_with fail
  refine wp_region_held_drew (S := fun W => Below w1.heap.size w1 W) (by kernel_rfl) Below.drew_ (fun hHeld => ?_)
  have BC := Lib.hid hHeld
  refine takeR (i := 0) rfl (by kernel_rfl) (by kernel_rfl) (by kernel_rfl) (fun _ _ _ h => h) (by rfl) (fun W hW => exec_ld18 rfl rfl (rowBelow R1.out hW (row_lt R1.out)) rfl) (by assumption) ?_
  try simp only [Act.put]
  try simp only [List.setIfInBounds_toArray]
  try simp only [List.set_cons_succ]
  try simp only [List.set_cons_zero]
  refine takeR (i := 2) (v := ?v2) rfl (by kernel_rfl) (by kernel_rfl) (by kernel_rfl) (fun _ _ _ h => h) (by rfl) ?hy2 (by assumption) ?rest2
  case hy2 => (intro W hSw; go_simp; try with_reducible rfl)
  try simp only [Act.put]
  try simp only [List.setIfInBounds_toArray]
  try simp only [List.set_cons_succ]
  try simp only [List.set_cons_zero]
  refine takeR (i := 3) (v := ?v3) rfl (by kernel_rfl) (by kernel_rfl) (by kernel_rfl) (fun _ _ _ h => h) (by rfl) ?hy3 (by assumption) ?rest3
  case hy3 => (intro W hSw; have x1 := cell_row (rowBelow R1.out hSw (row_lt R1.out)) 1 rfl; go_simp; try with_reducible rfl)
  try simp only [Act.put]
  try simp only [List.setIfInBounds_toArray]
  try simp only [List.set_cons_succ]
  try simp only [List.set_cons_zero]
  refine wpAnyH_ready (rs := [1]) (by kernel_rfl) (by simp) ?_
  refine AllReadyH.cons rfl (fun K hK => ?_) AllReadyH.nil
  rw [if_pos (by rfl)]
  go_simp
  refine (C2.out _).mono ?_
  rintro e w2 ⟨g, rfl, hg, hit, hb⟩
  replace BC := Lib.hid (BC.out.trans (hb.mono BC.out.size))
  have CS := Lib.hid (C3.out g w2 hg hit)
  clear hb hg hit
  go_simp
  refine hK.out _ _ BC.out (fun hHeld => ?_)
  try simp only [Act.put]
  try simp only [List.setIfInBounds_toArray]
  try simp only [List.set_cons_succ]
  try simp only [List.set_cons_zero]
  clear hK K
  refine wpAnyH_ready (rs := [4]) (by kernel_rfl) (by simp) ?_
  refine AllReadyH.cons rfl (fun K hK => ?_) AllReadyH.nil
  rw [if_pos (by rfl)]
  go_simp
  refine (CS.out).mono ?_
  rintro e w3 ⟨A3, n3, c3, rfl, hr3, hc3, hb⟩
  replace BC := Lib.hid (BC.out.trans (hb.mono BC.out.size))
  have HR := Lib.hid (And.intro hr3 hc3)
  clear hb hr3 hc3
  go_simp
  refine hK.out _ _ BC.out (fun hHeld => ?_)
  try simp only [Act.put]
  try simp only [List.setIfInBounds_toArray]
  try simp only [List.set_cons_succ]
  try simp only [List.set_cons_zero]
  clear hK K
  refine takeR (i := 5) (v := ?v5) rfl (by kernel_rfl) (by kernel_rfl) (by kernel_rfl) (fun _ _ _ h => h) (by rfl) ?hy5 (by assumption) ?rest5
  case hy5 => (intro W hSw; go_simp; try with_reducible rfl)
  try simp only [Act.put]
  try simp only [List.setIfInBounds_toArray]
  try simp only [List.set_cons_succ]
  try simp only [List.set_cons_zero]
  refine takeR (i := 6) (v := ?v6) rfl (by kernel_rfl) (by kernel_rfl) (by kernel_rfl) (fun _ _ _ h => h) (by rfl) ?hy6 (by assumption) ?rest6
  case hy6 => (intro W hSw; go_simp; try with_reducible rfl)
  try simp only [Act.put]
  try simp only [List.setIfInBounds_toArray]
  try simp only [List.set_cons_succ]
  try simp only [List.set_cons_zero]
  refine wpAnyH_done (by kernel_rfl) ?_ _
  go_wp2_with fail
  go_ret2
  exact ⟨T1.out.trans (BC.out.mono T1.out.size), _, _, _, rfl, HR.out.2, HR.out.1⟩
end Go.Proofs.YtlecbblmaadpiaaGreatDoor
