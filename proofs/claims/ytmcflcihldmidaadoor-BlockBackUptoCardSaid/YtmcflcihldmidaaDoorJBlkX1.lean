/- What Check of layer 5 returns. -/
import Derived.Test.YtmcflcihldmidaaDoorJBlkC
import Derived.Test.YtmcflcihldmidaaDoorJBlkO
import Derived.Test.YtmcflcihldmidaaDoorJBlkX2
namespace Go.Proofs.YtmcflcihldmidaaDoor
open Go.RowKit

set_option maxRecDepth 100000 in
set_option maxHeartbeats 1000000 in
theorem bccheck_any (t n f : Nat) (c : Int) (A : Option Addr) (nd cd : Nat) (d : List UInt8) (w : World) (hd : d.length = nd) :
    Calls Tryd.prog 11 #[blkV t n f c A nd cd] w fun e w' => e = .returned (.bool (blkOk ⟨t, n, f, c, d⟩)) ∧ Below w.heap.size w w' := by
  have C1 := Lib.hid (fun W => bcheck_any t n f c A nd cd d W hd)
  have q2 := fun (W : World) (u : TypeId) (x : Value) => run_eql_iface_nil (P := Tryd.prog) (w := W) 51 (by kernel_rfl) u x
  clear hd
  generalize blkOk ⟨t, n, f, c, d⟩ = R at *
  unfold blkV at *
  go_enter Tryd.func11, Tryd.ntmps11
  go_wp2_with fail
  refine (C1.out _).mono ?_
  rintro e w1 ⟨hb, ⟨rfl, rfl⟩ | ⟨rfl, s, rfl⟩⟩
  · have HB := Lib.hid (((Below.refl _ _).alloc (Nat.le_refl _) _).trans (hb.mono (le_alloc _ _)))
    clear hb
    go_wp2_with fail
    go_ret
    exact ⟨rfl, HB.out⟩
  · have HB := Lib.hid (((Below.refl _ _).alloc (Nat.le_refl _) _).trans (hb.mono (le_alloc _ _)))
    clear hb
    unfold bfl at *
    go_wp2_with fail
    go_ret
    exact ⟨rfl, HB.out⟩

end Go.Proofs.YtmcflcihldmidaaDoor
/- The walk of the statement BlockBack. -/
namespace Go.Proofs.YtmcflcihldmidaaDoor
open Go.RowKit

set_option maxRecDepth 100000 in
set_option maxHeartbeats 8000000 in
theorem blockBack_walk (b : Blk) (A : Option Addr) (nd cd : Nat) (Am : Option Addr) (nm cm : Nat) (more : List UInt8) (w : World) (hb : BlkIn w b A nd cd) (hm : Rd w w.heap.size Am nm more ∧ nm ≤ cm ∧ nm ≤ 1048576) (hL : LaidE w) :
    Calls Tryd.prog 4 #[blkV b.typ b.num b.flg b.crc A nd cd, .slice Am nm cm] w fun e w' => e = .returned (.bool true) ∧ Below w.heap.size w w' := by
  obtain ⟨hbd, -, hnd, hr⟩ := hb
  obtain ⟨hmr, hmc, hmn⟩ := hm
  obtain ⟨R, hR⟩ : ∃ R, R = decide (nd ≤ 5000) := ⟨_, rfl⟩
  have HLT := Lib.hid hL.lt
  have HL := Lib.hid (fun W (hb : Below w.heap.size w W) => hL.below hb hL.lt)
  have HH := Lib.hid (fun W (hb : Below w.heap.size w W) => heads05_any W (hL.below hb hL.lt))
  have B0 := Lib.hid ((Below.refl w.heap.size w).alloc (Nat.le_refl _) (.cells #[.int .u64 (b.typ : Int), .int .u64 (b.num : Int), .int .u64 (b.flg : Int), .int .i64 b.crc, .slice A nd cd] 25))
  have G0 := Lib.hid (fun (W : World) (hb : Below (w.heap.size + 1) (w.alloc (.cells #[.int .u64 (b.typ : Int), .int .u64 (b.num : Int), .int .u64 (b.flg : Int), .int .i64 b.crc, .slice A nd cd] 25)) W) => box5 (g := w.heap.size) rfl hb)
  have C1 := Lib.hid (fun W => few_any b.typ b.num b.flg b.crc A nd cd R W hR)
  have C2 := Lib.hid (fun W (hb : Below w.heap.size w W) => bencode_any b A nd cd w.heap.size W hbd hb.size (hr.below hb) (hL.below hb hL.lt))
  have C3 := Lib.hid (fun W => bccheck_any b.typ b.num b.flg b.crc A nd cd b.dat W hr.1)
  have e1 : (⟨b.typ, b.num, b.flg, b.crc, b.dat⟩ : Blk) = b := rfl
  rw [e1] at C3
  have HR := Lib.hid hr
  have HM := Lib.hid (And.intro hmr (And.intro hmc hmn))
  have HBD := Lib.hid hbd
  have hs0 : (w.alloc (.cells #[.int .u64 (b.typ : Int), .int .u64 (b.num : Int), .int .u64 (b.flg : Int), .int .i64 b.crc, .slice A nd cd] 25)).heap.size = w.heap.size + 1 := by simp
  have HS0 := Lib.hid hs0
  clear hL hbd hnd hr hmr hmc hmn hR e1 hs0
  unfold blkV at *
  cases R with
  | false =>
    go_enter Tryd.func4, Tryd.ntmps4
    go_wp2_with fail
    refine (C1.out _).mono ?_
    rintro e w1 ⟨rfl, hb1⟩
    have B1 := Lib.hid (B0.out.trans (hb1.mono B0.out.size))
    clear hb1
    go_wp2_with fail
    refine (HH.out _ B1.out).mono ?_
    rintro e w2 ⟨rfl, hb2⟩
    have B2 := Lib.hid (B1.out.trans (hb2.mono B1.out.size))
    clear hb2
    go_wp2_with fail
    go_ret
    exact ⟨rfl, B2.out⟩
  | true =>
    go_enter Tryd.func4, Tryd.ntmps4
    go_wp2_with fail
    refine (C1.out _).mono ?_
    rintro e w1 ⟨rfl, hb1⟩
    rw [HS0.out] at hb1
    obtain ⟨x0, x1, x2, x3, x4⟩ := G0.out _ hb1
    have X1 := Lib.hid hb1
    have B1 := Lib.hid (B0.out.trans (hb1.mono (Nat.le_succ _)))
    have HZ1 : Hid (w.heap.size + 1 ≤ w1.heap.size) := by show _ ≤ _; have := hb1.size; rw [HS0.out] at this; exact this
    clear hb1
    go_wp2_with fail
    refine (C2.out _ B1.out).mono ?_
    rintro e w2 ⟨v2, rfl, ho2, hb2⟩
    have hx2 := X1.out.trans (hb2.mono HZ1.out)
    have X2 := Lib.hid hx2
    have B2 := Lib.hid (B1.out.trans (hb2.mono B1.out.size))
    have HZ2 : Hid (w.heap.size + 1 ≤ w2.heap.size) := Nat.le_trans HZ1.out hb2.size
    clear x0 x1 x2 x3 x4
    obtain ⟨x0, x1, x2, x3, x4⟩ := G0.out _ hx2
    by_cases hok : blkOk b = true
    · rw [if_pos hok] at ho2 ⊢
      obtain ⟨A2, c2, rfl, hc2, -, hr2⟩ := ho2.rd
      have hdec := decB_blk b more hok HBD.out
      have hlb : (blkW b).length ≤ 4200 := by
        unfold blkW
        rw [List.length_append, sumB_len]
        have h1 := body_len b
        have h2 := sumN_le b.crc
        have h3 := (blkOk_iff.1 hok).2.2.2.2
        omega
      have HOK := Lib.hid hok
      have HDEC := Lib.hid hdec
      generalize hWB : blkW b = WB at *
      generalize hWL : WB.length = WL at *
      have HWL := Lib.hid hWL
      have HR2 := Lib.hid hr2
      have HO0 := Lib.hid (Ob.lit w2 [] #[] rfl (Nat.le_refl _) 0 rfl (by decide) : Ob (w2.alloc (.cells #[] 5)) w2.heap.size 5 (.slice (some ⟨w2.heap.size, 0, none⟩) 0 0) [])
      have HBD1 : Hid (([] : List UInt8).length + WL ≤ 140737488355328) := by show _ ≤ _; simp; omega
      have HBD2 : Hid ((([] : List UInt8) ++ WB).length + nm ≤ 140737488355328) := by show _ ≤ _; have := HM.out.2.2; simp; omega
      have HLB := Lib.hid hlb
      clear hb2 hr2 x0 x1 x2 x3 x4 hx2 ho2 hok hdec hWB hWL hlb hc2
      go_wp2_with (first
        | (at_builtin; refine wpList_appB rfl (.tmp 33) (.tmp 34) 23 rfl w2.heap.size 5 Tryd.underlying23 info_u8 _ [] rfl HO0.out w2.heap.size A2 WL c2 WB rfl (HR2.out.alloc (Nat.le_refl _) _) HBD1.out (le_alloc _ _) ?_; intro v3 w3 ho3 hb3; have O3 := Lib.hid ho3; have Y3 := Lib.hid (((Below.refl w2.heap.size w2).alloc (Nat.le_refl _) _).trans hb3); clear ho3 hb3)
        | (at_builtin; refine wpList_appB rfl (.tmp 35) (.tmp 36) 23 rfl w2.heap.size 5 Tryd.underlying23 info_u8 _ _ rfl O3.out w.heap.size Am nm cm more rfl (HM.out.1.below (B2.out.trans (Y3.out.mono B2.out.size))) HBD2.out Y3.out.size ?_; intro v4 w4 ho4 hb4; have O4 := Lib.hid ho4; have Y4 := Lib.hid (Y3.out.trans hb4); clear ho4 hb4)
        | fail)
      have ho4 := O4.out
      rw [List.nil_append] at ho4
      obtain ⟨A4, c4, rfl, hc4, _, hr4⟩ := ho4.rd
      have B4 := Lib.hid (B2.out.trans (Y4.out.mono B2.out.size))
      have X4 := Lib.hid (X2.out.trans (Y4.out.mono HZ2.out))
      have HZ4 : Hid (w.heap.size + 1 ≤ w4.heap.size) := Nat.le_trans HZ2.out Y4.out.size
      have CD := Lib.hid (bdecode_any A4 _ c4 w4.heap.size _ w4 (Nat.le_refl _) hr4 (by have := HM.out.1.1; have := HM.out.2.2; have := HLB.out; have := HWL.out; rw [List.length_append]; omega) hc4 (HL.out _ B4.out))
      clear ho4 hr4 hc4
      refine CD.out.mono ?_
      rintro e w5 ⟨hb5, b5, A5, nd5, cd5, N5, z5, rfl, hd5, -, hnd5, hr5⟩
      rw [HDEC.out] at hd5
      injection hd5 with h51 hd5
      injection hd5 with h52 h53
      subst h51 h52 h53
      obtain rfl : nd = nd5 := HR.out.1.symm.trans hr5.1
      have B5 := Lib.hid (B4.out.trans (hb5.mono B4.out.size))
      have hz5 : w.heap.size + 1 ≤ w5.heap.size := Nat.le_trans HZ4.out hb5.size
      have hx5 := (X4.out.trans (hb5.mono HZ4.out)).alloc hz5 (.cells #[.int .u64 (b.typ : Int), .int .u64 (b.num : Int), .int .u64 (b.flg : Int), .int .i64 b.crc, .slice A5 nd cd5] 25)
      obtain ⟨x0, x1, x2, x3, x4⟩ := G0.out _ hx5
      obtain ⟨g0, g1, g2, g3, g4⟩ := box5 rfl (Below.refl (w5.heap.size + 1) (w5.alloc (.cells #[.int .u64 (b.typ : Int), .int .u64 (b.num : Int), .int .u64 (b.flg : Int), .int .i64 b.crc, .slice A5 nd cd5] 25)))
      have B6 := Lib.hid (B5.out.alloc B5.out.size (.cells #[.int .u64 (b.typ : Int), .int .u64 (b.num : Int), .int .u64 (b.flg : Int), .int .i64 b.crc, .slice A5 nd cd5] 25))
      have CS := Lib.hid (rsameB_true b.typ b.num b.flg b.crc A A5 nd cd cd5 w5.heap.size b.dat _ (by simp) ((HR.out.below B6.out).more B5.out.size) (hr5.alloc (Nat.le_refl _) (.cells #[.int .u64 (b.typ : Int), .int .u64 (b.num : Int), .int .u64 (b.flg : Int), .int .i64 b.crc, .slice A5 nd cd5] 25)))
      clear hb5 hr5 hnd5 hx5 hz5
      unfold blkV at *
      go_wp2_with fail
      refine CS.out.mono ?_
      rintro e w7 ⟨rfl, hb7⟩
      have B7 := Lib.hid (B6.out.trans (hb7.mono B6.out.size))
      clear hb7
      go_wp2_with fail
      refine (HH.out _ B7.out).mono ?_
      rintro e w8 ⟨rfl, hb8⟩
      have B8 := Lib.hid (B7.out.trans (hb8.mono B7.out.size))
      clear hb8
      go_wp2_with fail
      go_ret
      exact ⟨rfl, B8.out⟩
    · rw [if_neg hok] at ho2 ⊢
      rw [show blkOk b = false by simpa using hok] at C3
      obtain ⟨A2, c2, rfl, -, -, -⟩ := ho2.rdn (n := 0) rfl
      clear hb2 hx2 ho2 hok
      go_wp2_with fail
      refine (C3.out _).mono ?_
      rintro e w3 ⟨rfl, hb3⟩
      have B3 := Lib.hid (B2.out.trans (hb3.mono B2.out.size))
      clear hb3
      go_wp2_with fail
      refine (HH.out _ B3.out).mono ?_
      rintro e w4 ⟨rfl, hb4⟩
      have B4 := Lib.hid (B3.out.trans (hb4.mono B3.out.size))
      clear hb4
      go_wp2_with fail
      go_ret
      exact ⟨rfl, B4.out⟩
end Go.Proofs.YtmcflcihldmidaaDoor
