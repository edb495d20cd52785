/- BlockTells of layer 5's statements, walked. (Made by gen/BcoX.py.) -/
import Derived.Test.YtanbjifdcplmnaaGreatDoorTBcoM
import Derived.Test.YtanbjifdcplmnaaGreatDoorTBcoU
import Derived.Test.YtanbjifdcplmnaaGreatDoorTBcoV
import Derived.Test.YtanbjifdcplmnaaGreatDoorTBlkP
import Derived.Test.YtanbjifdcplmnaaGreatDoorTBunVr
import Derived.Test.YtanbjifdcplmnaaGreatDoorTCfBlockTells
namespace Go.Proofs.YtanbjifdcplmnaaGreatDoor
open Go.RowKit

/-- What Previous's answer tells. -/
def PvR (O : Option Itm) (sc : Int) (s : ByteArray) (n v : Nat) (r : Bool) : Prop :=
  (r = true ∧ ∃ x, O = some x ∧ checkB (ep sc s n v) = true ∧ itemE (ep sc s n v) = x) ∨ (r = false ∧ sc = 0 ∧ s = ⟨#[]⟩ ∧ n = 0 ∧ v = 0 ∧ ∀ x, O = some x → ∀ e0, checkB e0 = true → itemE e0 ≠ x)
theorem GivesPv.form {O : Option Itm} {w w' : World} {e : Ending} (h : GivesPv O w e w') : Below w.heap.size w w' ∧ ∃ (sc : Int) (s : ByteArray) (n v : Nat) (r : Bool), e = .returned (.tuple #[epdV sc s n v, .bool r]) ∧ PvR O sc s n v r := by
  obtain ⟨hb, ⟨x, sc, s, n, v, h1, rfl, h2, h3⟩ | ⟨h1, rfl⟩⟩ := h
  · exact ⟨hb, sc, s, n, v, true, rfl, .inl ⟨rfl, x, h1, h2, h3⟩⟩
  · exact ⟨hb, 0, ⟨#[]⟩, 0, 0, false, rfl, .inr ⟨rfl, rfl, rfl, rfl, rfl, h1⟩⟩
theorem PvR.same {O : Option Itm} {sc sc' : Int} {s s' : ByteArray} {n n' v v' : Nat} {r r' : Bool} (h : PvR O sc s n v r) (h' : PvR O sc' s' n' v' r') : sc = sc' ∧ s = s' ∧ n = n' ∧ v = v' ∧ r = r' := by
  rcases h with ⟨rfl, x, h1, h2, h3⟩ | ⟨rfl, rfl, rfl, rfl, rfl, h1⟩
  · rcases h' with ⟨rfl, y, g1, g2, g3⟩ | ⟨rfl, rfl, rfl, rfl, rfl, g1⟩
    · rw [h1] at g1
      injection g1 with g1
      subst g1
      obtain ⟨e1, e2, e3, e4⟩ := ep_injM (item_inj h2 g2 (h3.trans g3.symm))
      exact ⟨e1, e2, e3, e4, rfl⟩
    · exact absurd h3 (g1 x h1 _ h2)
  · rcases h' with ⟨rfl, y, g1, g2, g3⟩ | ⟨rfl, rfl, rfl, rfl, rfl, g1⟩
    · exact absurd g3 (h1 y g1 _ g2)
    · exact ⟨rfl, rfl, rfl, rfl, rfl⟩
theorem row5_box {W : World} {g : Nat} {t : TypeId} {c0 c1 c2 c3 c4 : Value} (h : W.heap[g]? = some (.cells #[c0, c1, c2, c3, c4] t (0, 0))) : W.cell? ⟨g, 0, none⟩ = some c0 ∧ W.cell? ⟨g, 1, none⟩ = some c1 ∧ W.cell? ⟨g, 2, none⟩ = some c2 ∧ W.cell? ⟨g, 3, none⟩ = some c3 ∧ W.cell? ⟨g, 4, none⟩ = some c4 := ⟨cell_row h 0 rfl, cell_row h 1 rfl, cell_row h 2 rfl, cell_row h 3 rfl, cell_row h 4 rfl⟩

set_option maxRecDepth 100000 in
set_option maxHeartbeats 32000000 in
theorem blockTells_walk (b : Blk) (A : Option Addr) (nd cd : Nat) (a1 a2 : Int) (v : Value) (x : Itm) (w : World) (S : Snt) (hb : BlkIn w b A nd cd) (w1 : (Lit.int .u64 a1).wf = true) (w2 : (Lit.int .u64 a2).wf = true) (hx : RdI w w.heap.size v x ∧ mass x ≤ 1048576) (hA : Wd S w) :
    Calls Tryz.prog 4 #[blkV b.typ b.num b.flg b.crc A nd cd, .int .u64 a1, .int .u64 a2, v] w fun e w' => e = .returned (.bool true) ∧ Below w.heap.size w w' := by
  obtain ⟨hS, hL⟩ := hA
  obtain ⟨hbd, -, hnd, hr⟩ := hb
  obtain ⟨hx, hm⟩ := hx
  have hp : par x ≤ 1000000 := by have := par_mass5 x; omega
  obtain ⟨k0, -⟩ := wfU w1
  obtain ⟨q0, -⟩ := wfU w2
  obtain ⟨kk, rfl⟩ : ∃ kk : Nat, a1 = (kk : Int) := ⟨a1.toNat, by omega⟩
  obtain ⟨nn, rfl⟩ : ∃ nn : Nat, a2 = (nn : Int) := ⟨a2.toNat, by omega⟩
  obtain ⟨R, hR⟩ : ∃ R, R = decide (nd ≤ 5000) := ⟨_, rfl⟩
  have HH := Lib.hid (fun W (hb : Below w.heap.size w W) => heads05_any W (hL.below hb hL.lt))
  have CF := Lib.hid (fun W => few_any b.typ b.num b.flg b.crc A nd cd R W hR)
  have CD := Lib.hid (fun W (hb : Below w.heap.size w W) => rdeep_any 40 x v W w.heap.size (by decide) hb.size (hx.below hb))
  have H1 := Lib.hid (fun (hn : nd ≤ 5000) W (hb : Below w.heap.size w W) => hops_any b.typ b.num b.flg b.crc A nd cd w.heap.size b.dat W hb.size (hr.below hb) (Nat.le_trans hn (by decide)) hnd (hL.below hb hL.lt))
  have H2 := Lib.hid (fun (hn : nd ≤ 5000) W (hb : Below w.heap.size w W) => rhops_any b.typ b.num b.flg b.crc A nd cd w.heap.size b.dat W hb.size (hr.below hb) (Nat.le_trans hn (by decide)) hnd)
  have H3 := Lib.hid (fun (hn : nd ≤ 5000) W (hb : Below w.heap.size w W) => age_any b.typ b.num b.flg b.crc A nd cd w.heap.size b.dat W hb.size (hr.below hb) (Nat.le_trans hn (by decide)) hnd (hL.below hb hL.lt))
  have H4 := Lib.hid (fun (hn : nd ≤ 5000) W (hb : Below w.heap.size w W) => rage_any b.typ b.num b.flg b.crc A nd cd w.heap.size b.dat W hb.size (hr.below hb) (Nat.le_trans hn (by decide)) hnd)
  have H5 := Lib.hid (fun (hn : nd ≤ 5000) W (hb : Below w.heap.size w W) => (prev_any S b.typ b.num b.flg b.crc A nd cd w.heap.size b.dat W hb.size (hr.below hb) (Nat.le_trans hn (by decide)) hnd (hL.below hb hL.lt) (hS.below hb (Nat.le_refl _))).mono (fun _ _ h => GivesPv.form h))
  have H6 := Lib.hid (fun (hn : nd ≤ 5000) W (hb : Below w.heap.size w W) => (rprev_any b.typ b.num b.flg b.crc A nd cd w.heap.size b.dat W hb.size (hr.below hb) (Nat.le_trans hn (by decide)) hnd).mono (fun _ _ h => GivesPv.form h))
  have HLEN : Hid ((wri x).length ≤ 140737488355328) := by show _ ≤ _; have := wri_mass x; omega
  have H7 := Lib.hid (fun W (hb : Below w.heap.size w W) => bmake_any kk nn x v W w.heap.size hp (fun _ => HLEN.out) hb.size (hx.below hb) (hL.below hb hL.lt))
  have H8 := Lib.hid (fun (hg : hgt x ≤ 1001) W (hb : Below w.heap.size w W) => rmakeB_any kk nn x v W w.heap.size hp hg (fun _ => HLEN.out) hb.size (hx.below hb))
  have HG : Hid (dpB 40 x ≤ 30 → hgt x ≤ 1001) := fun h => by have := hgt_dpB 40 x (by omega); omega
  have HND : Hid (R = true → nd ≤ 5000) := fun h => by rw [hR] at h; exact of_decide_eq_true h
  obtain ⟨kx, nx, Ax, ndx, cdx, ALx, nlx, clx, rfl⟩ := hx.form
  have B0 := Lib.hid (((Below.refl w.heap.size w).alloc (Nat.le_refl _) (.cells #[.int .u64 (b.typ : Int), .int .u64 (b.num : Int), .int .u64 (b.flg : Int), .int .i64 b.crc, .slice A nd cd] 25)).alloc (le_alloc _ _) (.cells #[.int .i64 kx, .int .u64 (nx : Int), .slice Ax ndx cdx, .slice ALx nlx clx] 37))
  have RB0 := Lib.hid (rowBelow (heap_alloc_new w (.cells #[.int .u64 (b.typ : Int), .int .u64 (b.num : Int), .int .u64 (b.flg : Int), .int .i64 b.crc, .slice A nd cd] 25)) ((Below.refl _ _).alloc (Nat.le_refl _) (.cells #[.int .i64 kx, .int .u64 (nx : Int), .slice Ax ndx cdx, .slice ALx nlx clx] 37)) (row_lt (heap_alloc_new w (.cells #[.int .u64 (b.typ : Int), .int .u64 (b.num : Int), .int .u64 (b.flg : Int), .int .i64 b.crc, .slice A nd cd] 25))))
  have RI0 : Hid (((w.alloc (.cells #[.int .u64 (b.typ : Int), .int .u64 (b.num : Int), .int .u64 (b.flg : Int), .int .i64 b.crc, .slice A nd cd] 25)).alloc (.cells #[.int .i64 kx, .int .u64 (nx : Int), .slice Ax ndx cdx, .slice ALx nlx clx] 37)).heap[w.heap.size + 1]? = some (.cells #[.int .i64 kx, .int .u64 (nx : Int), .slice Ax ndx cdx, .slice ALx nlx clx] 37 (0, 0))) := by have := heap_alloc_new (w.alloc (.cells #[.int .u64 (b.typ : Int), .int .u64 (b.num : Int), .int .u64 (b.flg : Int), .int .i64 b.crc, .slice A nd cd] 25)) (.cells #[.int .i64 kx, .int .u64 (nx : Int), .slice Ax ndx cdx, .slice ALx nlx clx] 37); show _ = _; simpa using this
  generalize hopsI (contB b.typ 10 b.dat) = T1 at *
  generalize ageI (contB b.typ 7 b.dat) = T2 at *
  generalize contB b.typ 6 b.dat = T3 at *
  generalize dpB 40 x = D at *
  clear hS hL hbd hnd hr hx hm k0 q0 w1 w2 hR hp
  obtain ⟨t1, t2, t3⟩ := T1
  obtain ⟨g1, g2⟩ := T2
  unfold GivesHp at H1 H2
  have s1 : ((t1 : Int) == (t1 : Int)) = true := by simp
  have s2 : ((t2 : Int) == (t2 : Int)) = true := by simp
  have s3 : (t3 == t3) = true := by simp
  have s4 : ((g1 : Int) == (g1 : Int)) = true := by simp
  have s5 : (g2 == g2) = true := by simp
  unfold blkV at *
  go_enter Tryz.func4, Tryz.ntmps4
  obtain ⟨x0, x1, x2, x3, x4⟩ := row5_box RB0.out
  go_wp2_with fail
  clear x0 x1 x2 x3 x4
  refine (CF.out _).mono ?_
  rintro e u0 ⟨rfl, hb0⟩
  have B1 := Lib.hid (B0.out.trans (hb0.mono B0.out.size))
  have RB1 := Lib.hid (rowBelow RB0.out hb0 (row_lt RB0.out))
  have RI1 := Lib.hid (rowBelow RI0.out hb0 (row_lt RI0.out))
  clear hb0
  cases R with
  | false =>
    go_wp2_with fail
    refine (HH.out _ B1.out).mono ?_
    rintro e uh ⟨rfl, hbh⟩
    have BH := Lib.hid (B1.out.trans (hbh.mono B1.out.size))
    clear hbh
    go_wp2_with fail
    go_ret
    exact ⟨rfl, BH.out⟩
  | true =>
  have hn := HND.out rfl
  have HN := Lib.hid hn
  clear hn HND
  obtain ⟨x0, x1, x2, x3⟩ := row4_box RI1.out
  go_wp2_with fail
  clear x0 x1 x2 x3
  refine (CD.out _ B1.out).mono ?_
  rintro e u1 ⟨rfl, hb1⟩
  have B2 := Lib.hid (B1.out.trans (hb1.mono B1.out.size))
  have RB2 := Lib.hid (rowBelow RB1.out hb1 (row_lt RB1.out))
  have RI2 := Lib.hid (rowBelow RI1.out hb1 (row_lt RI1.out))
  clear hb1
  by_cases hD : D ≤ 30
  case neg =>
    have hDi : (30 : Int) < (D : Int) := by omega
    clear hD
    go_wp2_with fail
    refine (HH.out _ B2.out).mono ?_
    rintro e uh ⟨rfl, hbh⟩
    have BH := Lib.hid (B2.out.trans (hbh.mono B2.out.size))
    clear hbh
    go_wp2_with fail
    go_ret
    exact ⟨rfl, BH.out⟩
  have HGX := Lib.hid (HG.out hD)
  have hDi : ¬ (30 : Int) < (D : Int) := by omega
  have hDj : (D : Int) ≤ 30 := by omega
  clear hD HG
  obtain ⟨x0, x1, x2, x3, x4⟩ := row5_box RB2.out
  go_wp2_with fail
  clear x0 x1 x2 x3 x4
  refine (H1.out HN.out _ B2.out).mono ?_
  rintro e u2 ⟨rfl, hb2⟩
  have B3 := Lib.hid (B2.out.trans (hb2.mono B2.out.size))
  have RB3 := Lib.hid (rowBelow RB2.out hb2 (row_lt RB2.out))
  have RI3 := Lib.hid (rowBelow RI2.out hb2 (row_lt RI2.out))
  clear hb2
  dsimp only
  obtain ⟨x0, x1, x2, x3, x4⟩ := row5_box RB3.out
  go_wp2_with fail
  clear x0 x1 x2 x3 x4
  refine (H2.out HN.out _ B3.out).mono ?_
  rintro e u3 ⟨rfl, hb3⟩
  have B4 := Lib.hid (B3.out.trans (hb3.mono B3.out.size))
  have RB4 := Lib.hid (rowBelow RB3.out hb3 (row_lt RB3.out))
  have RI4 := Lib.hid (rowBelow RI3.out hb3 (row_lt RI3.out))
  clear hb3
  dsimp only
  obtain ⟨x0, x1, x2, x3, x4⟩ := row5_box RB4.out
  go_wp2_with fail
  clear x0 x1 x2 x3 x4
  refine (H3.out HN.out _ B4.out).mono ?_
  rintro e u4 ⟨rfl, hb4⟩
  have B5 := Lib.hid (B4.out.trans (hb4.mono B4.out.size))
  have RB5 := Lib.hid (rowBelow RB4.out hb4 (row_lt RB4.out))
  have RI5 := Lib.hid (rowBelow RI4.out hb4 (row_lt RI4.out))
  clear hb4
  dsimp only
  obtain ⟨x0, x1, x2, x3, x4⟩ := row5_box RB5.out
  go_wp2_with fail
  clear x0 x1 x2 x3 x4
  refine (H4.out HN.out _ B5.out).mono ?_
  rintro e u5 ⟨rfl, hb5⟩
  have B6 := Lib.hid (B5.out.trans (hb5.mono B5.out.size))
  have RB6 := Lib.hid (rowBelow RB5.out hb5 (row_lt RB5.out))
  have RI6 := Lib.hid (rowBelow RI5.out hb5 (row_lt RI5.out))
  clear hb5
  dsimp only
  obtain ⟨x0, x1, x2, x3, x4⟩ := row5_box RB6.out
  go_wp2_with fail
  clear x0 x1 x2 x3 x4
  refine (H5.out HN.out _ B6.out).mono ?_
  rintro e u6 ⟨hb6, pc, ps, pn, pv, pr, rfl, hp⟩
  have B7 := Lib.hid (B6.out.trans (hb6.mono B6.out.size))
  have RB7 := Lib.hid (rowBelow RB6.out hb6 (row_lt RB6.out))
  have RI7 := Lib.hid (rowBelow RI6.out hb6 (row_lt RI6.out))
  clear hb6
  unfold epdV
  have al := (Below.refl u6.heap.size u6).alloc (Nat.le_refl _) (.cells #[.int .i64 pc, .string ps, .int .u64 (pn : Int), .int .u64 (pv : Int)] 46)
  have P8 := Lib.hid (heap_alloc_new u6 (.cells #[.int .i64 pc, .string ps, .int .u64 (pn : Int), .int .u64 (pv : Int)] 46))
  have B8 := Lib.hid (B7.out.trans (al.mono B7.out.size))
  have RB8 := Lib.hid (rowBelow RB7.out al (row_lt RB7.out))
  have RI8 := Lib.hid (rowBelow RI7.out al (row_lt RI7.out))
  clear al
  have HP := Lib.hid hp
  clear hp
  obtain ⟨x0, x1, x2, x3, x4⟩ := row5_box RB8.out
  go_wp2_with fail
  clear x0 x1 x2 x3 x4
  refine (H6.out HN.out _ B8.out).mono ?_
  rintro e u8 ⟨hb8, rc, rs, rn, rv, rr, rfl, hr⟩
  have B9 := Lib.hid (B8.out.trans (hb8.mono B8.out.size))
  have RB9 := Lib.hid (rowBelow RB8.out hb8 (row_lt RB8.out))
  have RI9 := Lib.hid (rowBelow RI8.out hb8 (row_lt RI8.out))
  have P9 := Lib.hid (rowBelow P8.out hb8 (row_lt P8.out))
  obtain ⟨rfl, rfl, rfl, rfl, rfl⟩ := HP.out.same hr
  clear hb8 hr HP
  unfold epdV
  have al := (Below.refl u8.heap.size u8).alloc (Nat.le_refl _) (.cells #[.int .i64 pc, .string ps, .int .u64 (pn : Int), .int .u64 (pv : Int)] 46)
  have Q10 := Lib.hid (heap_alloc_new u8 (.cells #[.int .i64 pc, .string ps, .int .u64 (pn : Int), .int .u64 (pv : Int)] 46))
  have B10 := Lib.hid (B9.out.trans (al.mono B9.out.size))
  have RB10 := Lib.hid (rowBelow RB9.out al (row_lt RB9.out))
  have RI10 := Lib.hid (rowBelow RI9.out al (row_lt RI9.out))
  have P10 := Lib.hid (rowBelow P9.out al (row_lt P9.out))
  clear al
  obtain ⟨x0, x1, x2, x3⟩ := row4_box RI10.out
  go_wp2_with fail
  clear x0 x1 x2 x3
  refine (H7.out _ B10.out).mono ?_
  rintro e u10 ⟨hb10, mb, mA, md, me, mz, rfl, hm, hnm, hrm⟩
  have B11 := Lib.hid (B10.out.trans (hb10.mono B10.out.size))
  have RB11 := Lib.hid (rowBelow RB10.out hb10 (row_lt RB10.out))
  have RI11 := Lib.hid (rowBelow RI10.out hb10 (row_lt RI10.out))
  have P11 := Lib.hid (rowBelow P10.out hb10 (row_lt P10.out))
  have Q11 := Lib.hid (rowBelow Q10.out hb10 (row_lt Q10.out))
  have HM := Lib.hid hm
  have HRM := Lib.hid hrm
  clear hb10 hm hrm hnm
  have al := (Below.refl u10.heap.size u10).alloc (Nat.le_refl _) (.cells #[.int .u64 (mb.typ : Int), .int .u64 (mb.num : Int), .int .u64 (mb.flg : Int), .int .i64 mb.crc, .slice mA md me] 25)
  have M12 := Lib.hid (heap_alloc_new u10 (.cells #[.int .u64 (mb.typ : Int), .int .u64 (mb.num : Int), .int .u64 (mb.flg : Int), .int .i64 mb.crc, .slice mA md me] 25))
  have B12 := Lib.hid (B11.out.trans (al.mono B11.out.size))
  have RB12 := Lib.hid (rowBelow RB11.out al (row_lt RB11.out))
  have RI12 := Lib.hid (rowBelow RI11.out al (row_lt RI11.out))
  have P12 := Lib.hid (rowBelow P11.out al (row_lt P11.out))
  have Q12 := Lib.hid (rowBelow Q11.out al (row_lt Q11.out))
  have HRM2 := Lib.hid (HRM.out.alloc (Nat.le_refl _) (.cells #[.int .u64 (mb.typ : Int), .int .u64 (mb.num : Int), .int .u64 (mb.flg : Int), .int .i64 mb.crc, .slice mA md me] 25))
  clear al HRM
  unfold blkV
  obtain ⟨x0, x1, x2, x3⟩ := row4_box RI12.out
  go_wp2_with fail
  clear x0 x1 x2 x3
  refine (H8.out HGX.out _ B12.out).mono ?_
  rintro e u12 ⟨hb12, yb, yA, yd, ye, yz, rfl, hy, hny, hry⟩
  have B13 := Lib.hid (B12.out.trans (hb12.mono B12.out.size))
  have RB13 := Lib.hid (rowBelow RB12.out hb12 (row_lt RB12.out))
  have RI13 := Lib.hid (rowBelow RI12.out hb12 (row_lt RI12.out))
  have P13 := Lib.hid (rowBelow P12.out hb12 (row_lt P12.out))
  have Q13 := Lib.hid (rowBelow Q12.out hb12 (row_lt Q12.out))
  have M13 := Lib.hid (rowBelow M12.out hb12 (row_lt M12.out))
  rw [HM.out] at hy
  injection hy with hy1 hy2
  subst hy1 hy2
  have HRM3 := Lib.hid ((HRM2.out.below (hb12.mono (le_alloc _ _))).more (Nat.le_trans (le_alloc _ _) hb12.size))
  have HRY := Lib.hid hry
  clear hb12 hry hny HM HRM2
  have al := (Below.refl u12.heap.size u12).alloc (Nat.le_refl _) (.cells #[.int .u64 (mb.typ : Int), .int .u64 (mb.num : Int), .int .u64 (mb.flg : Int), .int .i64 mb.crc, .slice yA yd ye] 25)
  have N14 := Lib.hid (heap_alloc_new u12 (.cells #[.int .u64 (mb.typ : Int), .int .u64 (mb.num : Int), .int .u64 (mb.flg : Int), .int .i64 mb.crc, .slice yA yd ye] 25))
  have B14 := Lib.hid (B13.out.trans (al.mono B13.out.size))
  have RB14 := Lib.hid (rowBelow RB13.out al (row_lt RB13.out))
  have RI14 := Lib.hid (rowBelow RI13.out al (row_lt RI13.out))
  have P14 := Lib.hid (rowBelow P13.out al (row_lt P13.out))
  have Q14 := Lib.hid (rowBelow Q13.out al (row_lt Q13.out))
  have M14 := Lib.hid (rowBelow M13.out al (row_lt M13.out))
  have hdm := HRM3.out.1
  have hdy := HRY.out.1
  obtain rfl : md = yd := hdm.symm.trans hdy
  have HS1 := Lib.hid (HRM3.out.alloc (Nat.le_refl _) (.cells #[.int .u64 (mb.typ : Int), .int .u64 (mb.num : Int), .int .u64 (mb.flg : Int), .int .i64 mb.crc, .slice yA md ye] 25))
  have HS2 := Lib.hid (HRY.out.alloc (Nat.le_refl _) (.cells #[.int .u64 (mb.typ : Int), .int .u64 (mb.num : Int), .int .u64 (mb.flg : Int), .int .i64 mb.crc, .slice yA md ye] 25))
  clear al hdm hdy HRM3 HRY
  unfold blkV
  obtain ⟨y10, y11, y12, y13⟩ := row4_box P14.out
  obtain ⟨y20, y21, y22, y23⟩ := row4_box Q14.out
  obtain ⟨y30, y31, y32, y33, y34⟩ := row5_box M14.out
  obtain ⟨y40, y41, y42, y43, y44⟩ := row5_box N14.out
  have s6 : (pr == pr) = true := by simp
  have s7 : (mz == mz) = true := by simp
  have z1 := fun W => eql_eid pc pc ps ps (pn : Int) (pn : Int) (pv : Int) (pv : Int) true (by simp) W
  go_wp2_with fail
  refine (rsameB_true mb.typ mb.num mb.flg mb.crc mA yA md me ye u12.heap.size mb.dat _ (le_alloc _ _) HS1.out HS2.out).mono ?_
  rintro e u14 ⟨rfl, hb14⟩
  have B15 := Lib.hid (B14.out.trans (hb14.mono B14.out.size))
  clear hb14 y10 y11 y12 y13 y20 y21 y22 y23 y30 y31 y32 y33 y34 y40 y41 y42 y43 y44
  go_wp2_with fail
  refine (HH.out _ B15.out).mono ?_
  rintro e uh ⟨rfl, hbh⟩
  have BH := Lib.hid (B15.out.trans (hbh.mono B15.out.size))
  clear hbh
  go_wp2_with fail
  go_ret
  exact ⟨rfl, BH.out⟩
end Go.Proofs.YtanbjifdcplmnaaGreatDoor
