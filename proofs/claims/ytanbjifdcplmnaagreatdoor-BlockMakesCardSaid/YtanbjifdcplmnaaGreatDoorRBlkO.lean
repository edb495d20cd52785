/- What Age and Previous of layer 5 return, of any block. -/
import Derived.Test.YtanbjifdcplmnaaGreatDoorRBcoH
import Derived.Test.YtanbjifdcplmnaaGreatDoorRBlkI
import Derived.Test.YtanbjifdcplmnaaGreatDoorREidF
import Derived.Test.YtanbjifdcplmnaaGreatDoorREidW0
import Derived.Test.YtanbjifdcplmnaaGreatDoorRKCheck
import Derived.Test.YtanbjifdcplmnaaGreatDoorRRfA
import Derived.Test.YtanbjifdcplmnaaGreatDoorRSame
namespace Go.Proofs.YtanbjifdcplmnaaGreatDoor
open Go.RowKit

/-- The age that an item says. -/
def ageI (o : Option Itm) : Nat × Bool :=
  match o with
  | none => (0, false)
  | some x => (x.num, x.kind == 0)
set_option maxRecDepth 100000 in
set_option maxHeartbeats 8000000 in
theorem age_any (t n f : Nat) (c : Int) (A : Option Addr) (nd cd B : Nat) (d : List UInt8) (w : World) (hB : B ≤ w.heap.size) (h : Rd w B A nd d) (hn : nd ≤ 140737488355328) (hc : nd ≤ cd) (hL : LaidE w) :
    Calls Tryz.prog 14 #[blkV t n f c A nd cd] w fun e w' => e = .returned (.tuple #[.int .u64 ((ageI (contB t 7 d)).1 : Int), .bool (ageI (contB t 7 d)).2]) ∧ Below w.heap.size w w' := by
  have HB0 := Lib.hid ((Below.refl w.heap.size w).alloc (Nat.le_refl _) (.cells #[.int .u64 (t : Int), .int .u64 (n : Int), .int .u64 (f : Int), .int .i64 c, .slice A nd cd] 25))
  have C1 := Lib.hid (contents_any t n f 7 c A nd cd B d (w.alloc (.cells #[.int .u64 (t : Int), .int .u64 (n : Int), .int .u64 (f : Int), .int .i64 c, .slice A nd cd] 25)) (Nat.le_trans hB (le_alloc _ _)) (h.alloc hB _) hn hc (hL.below HB0.out hL.lt))
  have hs0 : (w.alloc (.cells #[.int .u64 (t : Int), .int .u64 (n : Int), .int .u64 (f : Int), .int .i64 c, .slice A nd cd] 25)).heap.size = w.heap.size + 1 := by simp
  have HS0 := Lib.hid hs0
  have CU := Lib.hid (fun (k : Int) (n : Nat) (v2 v3 : Value) (W : World) (g2 : v2.oneCell' = true) (g3 : v3.oneCell' = true) => uintof_any k n v2 v3 (k == 0) W g2 g3 rfl)
  generalize contB t 7 d = O at *
  clear h hB hn hc hL hs0
  unfold blkV at *
  go_enter Tryz.func14, Tryz.ntmps14
  go_wp2_with fail
  refine C1.out.mono ?_
  rintro e w1 ⟨hb, ⟨v, x, rfl, rfl, hv⟩ | ⟨rfl, rfl⟩⟩
  case inr =>
    rw [HS0.out] at hb
    have B1 := Lib.hid ((HB0.out.trans (hb.mono (Nat.le_succ _))))
    clear hb
    go_wp2_with fail
    exact bodyPost_ret (v := .tuple #[.int .u64 0, .bool false]) (by simp [results, Tryz.results14, go_sem]) rfl ⟨rfl, B1.out.alloc B1.out.size _⟩
  rw [HS0.out] at hb
  obtain ⟨k, m, e0, l⟩ := x
  have hv' := hv.unmask
  obtain ⟨A1, nd1, cd1, AL, cl1, rfl, -, -, -, -, hcl, hrow⟩ := hv'.open
  have B1 := Lib.hid ((HB0.out.trans (hb.mono (Nat.le_succ _))))
  clear hb hv hv' hrow C1 hcl
  generalize l.length = L at *
  go_wp2_with fail
  refine (CU.out k m (.slice _ _ _) (.slice _ _ _) _ rfl rfl).mono ?_
  rintro e w3 ⟨rfl, hb3⟩
  have B3 := Lib.hid ((B1.out.alloc B1.out.size _).trans (hb3.mono (B1.out.alloc B1.out.size _).size))
  clear hb3
  go_wp2_with fail
  exact bodyPost_ret (v := .tuple #[.int .u64 (m : Int), .bool (k == 0)]) (by simp [results, Tryz.results14, go_sem]) rfl ⟨rfl, B3.out⟩

/-- What Previous gives. -/
def GivesPv (o : Option Itm) (w : World) (e : Ending) (w' : World) : Prop := Below w.heap.size w w' ∧
  ((∃ (x : Itm) (sc : Int) (s : ByteArray) (n v : Nat), o = some x ∧ e = .returned (.tuple #[epdV sc s n v, .bool true]) ∧ checkB (ep sc s n v) = true ∧ itemE (ep sc s n v) = x) ∨
   ((∀ x, o = some x → ∀ e0, checkB e0 = true → itemE e0 ≠ x) ∧ e = .returned (.tuple #[epdV 0 ⟨#[]⟩ 0 0, .bool false])))
set_option maxRecDepth 100000 in
set_option maxHeartbeats 8000000 in
theorem prev_any (S : Snt) (t n f : Nat) (c : Int) (A : Option Addr) (nd cd B : Nat) (d : List UInt8) (w : World) (hB : B ≤ w.heap.size) (h : Rd w B A nd d) (hn : nd ≤ 140737488355328) (hc : nd ≤ cd) (hL : LaidE w) (hS : Lds S w) :
    Calls Tryz.prog 16 #[blkV t n f c A nd cd] w (GivesPv (contB t 6 d) w) := by
  have HBA := Lib.hid ((Below.refl w.heap.size w).alloc (Nat.le_refl _) (.cells #[.int .u64 (t : Int), .int .u64 (n : Int), .int .u64 (f : Int), .int .i64 c, .slice A nd cd] 25))
  have HB0 := Lib.hid (HBA.out.alloc (le_alloc _ _) (.cells #[.int .i64 0, .string ⟨#[]⟩, .int .u64 0, .int .u64 0] 46))
  have HSL := Lib.hid (hS.alloc (.cells #[.int .u64 (t : Int), .int .u64 (n : Int), .int .u64 (f : Int), .int .i64 c, .slice A nd cd] 25))
  have hs0 : ((w.alloc (.cells #[.int .u64 (t : Int), .int .u64 (n : Int), .int .u64 (f : Int), .int .i64 c, .slice A nd cd] 25)).alloc (.cells #[.int .i64 0, .string ⟨#[]⟩, .int .u64 0, .int .u64 0] 46)).heap.size = w.heap.size + 2 := by simp
  have HS0 := Lib.hid hs0
  have C1 := Lib.hid (contents_any t n f 6 c A nd cd B d ((w.alloc (.cells #[.int .u64 (t : Int), .int .u64 (n : Int), .int .u64 (f : Int), .int .i64 c, .slice A nd cd] 25)).alloc (.cells #[.int .i64 0, .string ⟨#[]⟩, .int .u64 0, .int .u64 0] 46)) (by rw [hs0]; omega) (h.below (HB0.out.mono hB)) hn hc (hL.below HB0.out hL.lt))
  have HE := Lib.hid (fun (W : World) (hb : Below (w.heap.size + 1 + 1) ((w.alloc (.cells #[.int .u64 (t : Int), .int .u64 (n : Int), .int .u64 (f : Int), .int .i64 c, .slice A nd cd] 25)).alloc (.cells #[.int .i64 0, .string ⟨#[]⟩, .int .u64 0, .int .u64 0] 46)) W) => zeroE (w := (w.alloc (.cells #[.int .u64 (t : Int), .int .u64 (n : Int), .int .u64 (f : Int), .int .i64 c, .slice A nd cd] 25))) (g := w.heap.size + 1) (by simp) hb)
  have HA := Lib.hid hS
  generalize contB t 6 d = O at *
  clear h hB hn hc hL hs0 hS
  unfold blkV at *
  go_enter Tryz.func16, Tryz.ntmps16
  go_wp2_with fail
  refine C1.out.mono ?_
  rintro e w1 ⟨hb, ⟨v, x, rfl, rfl, hv⟩ | ⟨rfl, rfl⟩⟩
  case inr =>
    rw [HS0.out] at hb
    have hb2 := hb.alloc (by have := hb.size; rw [HS0.out] at this; exact this) (.cells #[.int .i64 0, .int .u64 0, .slice none 0 0, .slice none 0 0] 37)
    obtain ⟨⟨z0, z1, z2, z3⟩, f0, f1, f2, f3⟩ := HE.out _ hb2
    have B1 := Lib.hid (HB0.out.trans (hb2.mono (by omega)))
    clear hb hb2
    go_wp2_with fail
    exact bodyPost_ret (v := .tuple #[epdV 0 ⟨#[]⟩ 0 0, .bool false]) (by simp [results, Tryz.results16, go_sem, z0, z1, z2, z3, epdV]) rfl ⟨below_set4 B1.out (by omega), .inr ⟨fun x hx => (by cases hx), rfl⟩⟩
  rw [HS0.out] at hb
  have hz1 : w.heap.size + 2 ≤ w1.heap.size := by have := hb.size; rw [HS0.out] at this; exact this
  have hv' := hv.unmask
  obtain ⟨k1, n1, A1, nd1, cd1, AL1, nl1, cl1, rfl⟩ := hv'.form
  have hb2 := hb.alloc hz1 (.cells #[.int .i64 k1, .int .u64 (n1 : Int), .slice A1 nd1 cd1, .slice AL1 nl1 cl1] 37)
  have B1 := Lib.hid (HB0.out.trans (hb2.mono (by omega)))
  have B2 := Lib.hid hb2
  have hz2 : w.heap.size + 2 ≤ (w1.alloc (.cells #[.int .i64 k1, .int .u64 (n1 : Int), .slice A1 nd1 cd1, .slice AL1 nl1 cl1] 37)).heap.size := Nat.le_trans hz1 (le_alloc _ _)
  have HZ2 := Lib.hid hz2
  have CF := Lib.hid (from_any S x _ w1.heap.size (w1.alloc (.cells #[.int .i64 k1, .int .u64 (n1 : Int), .slice A1 nd1 cd1, .slice AL1 nl1 cl1] 37)) (HA.out.below B1.out (Nat.le_refl _)) (le_alloc _ _) (hv'.below ((Below.refl _ _).alloc (Nat.le_refl _) _)))
  clear hb hb2 hv hv' C1 hz1 hz2
  go_wp2_with fail
  refine CF.out.mono ?_
  rintro e w3 ⟨hb3, ⟨sc, s, n, v, rfl, -, -, -, hck, hit⟩ | ⟨hno, rfl⟩⟩
  · have H := Lib.hid (And.intro hck hit)
    have hb4 := (B2.out.trans (hb3.mono HZ2.out)).alloc (Nat.le_trans HZ2.out hb3.size) (.cells #[.int .i64 sc, .string s, .int .u64 (n : Int), .int .u64 (v : Int)] 46)
    obtain ⟨⟨z0, z1, z2, z3⟩, f0, f1, f2, f3⟩ := HE.out _ hb4
    have B4 := Lib.hid (HB0.out.trans (hb4.mono (by omega)))
    clear hck hit hb3 hb4
    unfold epdV at *
    go_wp2_with fail
    exact bodyPost_ret (v := .tuple #[epdV sc s n v, .bool true]) (by simp [results, Tryz.results16, go_sem, z0, z1, z2, z3, epdV]) rfl ⟨below_set4 B4.out (by omega), .inl ⟨x, sc, s, n, v, rfl, rfl, H.out.1, H.out.2⟩⟩
  · have H := Lib.hid hno
    have hb4 := (B2.out.trans (hb3.mono HZ2.out)).alloc (Nat.le_trans HZ2.out hb3.size) (.cells #[.int .i64 0, .string ⟨#[]⟩, .int .u64 0, .int .u64 0] 46)
    obtain ⟨⟨z0, z1, z2, z3⟩, f0, f1, f2, f3⟩ := HE.out _ hb4
    have B4 := Lib.hid (HB0.out.trans (hb4.mono (by omega)))
    clear hno hb3 hb4
    unfold epdV at *
    go_wp2_with fail
    exact bodyPost_ret (v := .tuple #[epdV 0 ⟨#[]⟩ 0 0, .bool false]) (by simp [results, Tryz.results16, go_sem, z0, z1, z2, z3, epdV]) rfl ⟨below_set4 B4.out (by omega), .inr ⟨fun y hy => (by injection hy with hy; subst hy; exact H.out), rfl⟩⟩
end Go.Proofs.YtanbjifdcplmnaaGreatDoor
/- Plain facts of layer 5: what blocks of hops, of an age, of a node ahead hold. -/
namespace Go.Proofs.YtanbjifdcplmnaaGreatDoor
open Go.RowKit

theorem contB_of (k : Nat) {x : Itm} (f : Fits x) (s : Siz x) : contB k k (wri x) = some x := by
  have h := decode_wr f s []
  rw [List.append_nil] at h
  unfold contB
  rw [if_pos ⟨rfl, by rw [h], by rw [h]⟩, h]
theorem makeB_of (k n : Nat) {x : Itm} (f : Fits x) (hk : 2 ≤ k ∧ k ≤ 255) (hn : n ≠ 0) (hl : (wri x).length ≤ 4096) : makeB k n x = (⟨k, n, 0, 2, wri x⟩, 0) := by
  have h : blkOk ⟨k, n, 0, 2, wri x⟩ = true := blkOk_iff.2 ⟨⟨by show 1 ≤ k; omega, hk.2⟩, hn, .inl (by show k ≠ 1; omega), ⟨by show (0 : Int) ≤ 2; decide, by show (2 : Int) ≤ 2; decide⟩, hl⟩
  unfold makeB
  rw [enc_ok f, if_neg (by simp), if_neg (by rw [h]; decide)]
theorem fitsU (n : Nat) : Fits (.mk 0 n [] []) := ⟨by simp [rights, right, own], by simp [dep, deps], by simp [par, pars]⟩
theorem sizU {n : Nat} (h : n < 18446744073709551616) : Siz (.mk 0 n [] []) := by simp only [Siz, Sizs]; exact ⟨h, by decide, by decide, trivial⟩
theorem lenU (n : Nat) : (wri (.mk 0 n [] [])).length ≤ 9 := by rw [wri_u, hd_len]; have := hsz_le n; omega
def hopI (a b : Nat) : Itm := .mk 4 0 [] [.mk 0 a [] [], .mk 0 b [] []]
theorem fitsH (a b : Nat) : Fits (hopI a b) := ⟨by simp [hopI, rights, right, own], by simp [hopI, dep, deps], by simp [hopI, par, pars]⟩
theorem sizH {a b : Nat} (ha : a < 18446744073709551616) (hb : b < 18446744073709551616) : Siz (hopI a b) := by unfold hopI; simp only [Siz, Sizs]; exact ⟨by decide, by decide, by simp, ⟨ha, by decide, by decide, trivial⟩, ⟨hb, by decide, by decide, trivial⟩, trivial⟩
theorem lenH (a b : Nat) : (wri (hopI a b)).length ≤ 19 := by
  have e : wri (hopI a b) = hd 4 2 ++ (wri (.mk 0 a [] []) ++ (wri (.mk 0 b [] []) ++ [])) := by
    unfold hopI
    rw [wri, if_neg (by decide), if_neg (by decide), if_pos rfl, wrs, wrs, wrs]
    rfl
  have h1 := lenU a
  have h2 := lenU b
  rw [e]
  simp only [List.length_append, List.length_nil, hd_len]
  have : hsz 2 = 0 := by rfl
  omega
theorem hopsI_hop (a b : Nat) : hopsI (some (hopI a b)) = if 1 ≤ a ∧ a ≤ 255 then (a, b, true) else (0, 0, false) := by
  show (if (4 : Int) = 4 ∧ _ then _ else _) = _
  simp only [true_and, Itm.kind, Itm.num]
theorem itemE_f {e : Epd} (h : checkB e = true) : Fits (itemE e) := by
  obtain ⟨h1, h2, h3⟩ := itemE_good h
  exact ⟨h1, by omega, by omega⟩
end Go.Proofs.YtanbjifdcplmnaaGreatDoor
/- What must come at any rate ('heads' of layer 5's statements): true. -/
namespace Go.Proofs.YtanbjifdcplmnaaGreatDoor
open Go.RowKit

def hBlk : Blk := ⟨1, 1, 0, 0, [5]⟩
def hHops : Itm := .mk 4 0 [] [.mk 0 9 [] [], .mk 0 1 [] []]
theorem hb_w : blkW hBlk = [0x85, 1, 1, 0, 0, 0x41, 5] := by rfl
theorem hb_ok : blkOk hBlk = true := by rfl
theorem hb_dec : decB [0x85, 1, 1, 0, 0, 0x41, 5] = (hBlk, 7, 0) := by
  have h := decB_blk hBlk [] hb_ok ⟨by decide, by decide, by decide⟩
  rw [List.append_nil, hb_w] at h
  exact h
theorem hh_make : makeB 10 2 hHops = (⟨10, 2, 0, 2, [0x82, 9, 1]⟩, 0) := by rfl
theorem hh_cont : contB 10 10 [0x82, 9, 1] = some hHops := by rfl
theorem hz_no : blkOk Blk.zero = false := by rfl

theorem RdIs.twoB {W : World} {a0 a1 a2 a3 b0 b1 b2 b3 : Value} {x y : Itm} {t : TypeId} (h1 : RdI W W.heap.size (.agg #[a0, a1, a2, a3]) x) (h2 : RdI W W.heap.size (.agg #[b0, b1, b2, b3]) y) :
    RdIs (W.alloc (.cells #[a0, a1, a2, a3, b0, b1, b2, b3] t)) (W.heap.size + 1) W.heap.size 0 [x, y] := by
  rw [RdIs, RdIs, RdIs]
  refine ⟨⟨a0, a1, a2, a3, by simp, by simp, by simp, by simp, (h1.alloc (Nat.le_refl _) _).more (Nat.le_succ _)⟩, ⟨b0, b1, b2, b3, by simp, by simp, by simp, by simp, (h2.alloc (Nat.le_refl _) _).more (Nat.le_succ _)⟩, trivial⟩

set_option maxRecDepth 100000 in
set_option maxHeartbeats 8000000 in
theorem heads05_any (w : World) (hL : LaidE w) : Calls Tryz.prog 9 #[] w fun e w' => e = .returned (.bool true) ∧ Below w.heap.size w w' := by
  have HLT := Lib.hid hL.lt
  have HL := Lib.hid (fun W (hb : Below w.heap.size w W) => hL.below hb hL.lt)
  have C1 : Hid (Calls Tryz.prog 32 #[.agg #[.int .u64 1, .int .u64 1, .int .u64 0, .int .i64 0, .slice (some ⟨w.heap.size, 0, none⟩) 1 1]] (w.alloc (.cells #[.int .u8 5] 5)) fun e w' => ∃ v, e = .returned (.tuple #[v, .int .i64 0]) ∧ Ob w' (w.alloc (.cells #[.int .u8 5] 5)).heap.size 5 v [0x85, 1, 1, 0, 0, 0x41, 5] ∧ Below (w.alloc (.cells #[.int .u8 5] 5)).heap.size (w.alloc (.cells #[.int .u8 5] 5)) w') := by
    have h := bencode_any hBlk (some ⟨w.heap.size, 0, none⟩) 1 1 (w.heap.size + 1) (w.alloc (.cells #[.int .u8 5] 5)) ⟨by decide, by decide, by decide⟩ (Nat.le_of_eq (by simp)) (Rd.lit w _ rfl [5] 5 #[.int .u8 5] rfl 1 rfl) (HL.out _ ((Below.refl _ _).alloc (Nat.le_refl _) _))
    rw [hb_ok, if_pos rfl, if_pos rfl, hb_w] at h
    exact h
  have B0 := Lib.hid ((Below.refl w.heap.size w).alloc (Nat.le_refl _) (.cells #[.int .u8 5] 5))
  clear hL
  go_enter Tryz.func9, Tryz.ntmps9
  go_wp2_with fail
  refine C1.out.mono ?_
  rintro e w1 ⟨v1, rfl, ho1, hb1⟩
  obtain ⟨A1, c1, rfl, hc1, hm1, hr1⟩ := ho1.rdn (n := 7) rfl
  have B1 := Lib.hid (B0.out.trans (hb1.mono (le_alloc _ _)))
  have R1 := Lib.hid hr1
  have HC1 := Lib.hid hc1
  clear ho1 hb1 hr1 hc1 hm1
  go_wp2_with fail
  refine (bdecode_any A1 7 c1 w1.heap.size _ w1 (Nat.le_refl _) R1.out (by decide) HC1.out (HL.out _ B1.out)).mono ?_
  rintro e w2 ⟨hb2, b, A2, nd2, cd2, N, z, rfl, hd, -, hnd2, hr2⟩
  rw [hb_dec] at hd
  injection hd with hd1 hd
  injection hd with hd2 hd3
  subst hd1 hd2 hd3
  obtain rfl : 1 = nd2 := hr2.1
  have B2 := Lib.hid (B1.out.trans (hb2.mono B1.out.size))
  have R2 := Lib.hid ((R1.out.below hb2).more hb2.size)
  have hb3 := (Below.refl w2.heap.size w2).alloc (Nat.le_refl _) (.cells #[.int .u64 1, .int .u64 1, .int .u64 0, .int .i64 0, .slice A2 1 cd2] 25)
  have hx4 : (w2.alloc (.cells #[.int .u64 1, .int .u64 1, .int .u64 0, .int .i64 0, .slice A2 1 cd2] 25)).cell? ⟨w2.heap.size, 4, none⟩ = some (.slice A2 1 cd2) := by rw [World.cell?_alloc_at _ _ _ _ rfl]; rfl
  have HX4 := Lib.hid hx4
  have hlt2 : w2.heap.size < (w2.alloc (.cells #[.int .u64 1, .int .u64 1, .int .u64 0, .int .i64 0, .slice A2 1 cd2] 25)).heap.size := by simp
  have HLT2 := Lib.hid hlt2
  have B3 := Lib.hid (B2.out.trans (hb3.mono B2.out.size))
  have R3 := Lib.hid ((R2.out.below hb3).more hb3.size)
  clear hb2 hr2 hnd2 hb3 hx4 hlt2
  unfold blkV hBlk at *
  go_wp2_with fail
  refine (ruint_any 9 _ (by decide) (by decide)).mono ?_
  rintro e w3 ⟨v3, rfl, hv3, hb3⟩
  obtain ⟨k3, n3, A3, nd3, cd3, AL3, nl3, cl3, rfl⟩ := hv3.form
  have V3 := Lib.hid hv3
  have B4 := Lib.hid (B3.out.trans (hb3.mono B3.out.size))
  have X4 := Lib.hid ((hb3.cell (p := ⟨w2.heap.size, 4, none⟩) HLT2.out).trans HX4.out)
  have L4 := Lib.hid (Nat.lt_of_lt_of_le HLT2.out hb3.size)
  have R4 := Lib.hid ((R3.out.below hb3).more hb3.size)
  clear hv3 hb3
  go_wp2_with fail
  refine (ruint_any 1 _ (by decide) (by decide)).mono ?_
  rintro e w4 ⟨v4, rfl, hv4, hb4⟩
  obtain ⟨k4, n4, A4, nd4, cd4, AL4, nl4, cl4, rfl⟩ := hv4.form
  have V4 := Lib.hid (RdIs.twoB (t := 37) ((V3.out.below hb4).more hb4.size) hv4)
  have B5 := Lib.hid (B4.out.trans (hb4.mono B4.out.size))
  have X5 := Lib.hid ((hb4.cell (p := ⟨w2.heap.size, 4, none⟩) L4.out).trans X4.out)
  have L5 := Lib.hid (Nat.lt_of_lt_of_le L4.out hb4.size)
  have R5 := Lib.hid ((R4.out.below hb4).more hb4.size)
  clear hv4 hb4
  go_wp2_with fail
  refine (rarray_any w4.heap.size 0 2 2 (w4.heap.size + 1) _ _ (Nat.le_of_eq (by simp)) (Nat.lt_succ_self _) V4.out rfl (by decide) (by decide) (Nat.le_refl _)).mono ?_
  rintro e w5 ⟨v5, rfl, hv5, hb5⟩
  have hv5' : RdI w5 w5.heap.size v5 hHops := hv5
  obtain ⟨k5, n5, A5, nd5, cd5, AL5, nl5, cl5, rfl⟩ := hv5'.form
  have hb5' := ((Below.refl w4.heap.size w4).alloc (Nat.le_refl _) _).trans (hb5.mono (le_alloc _ _))
  have V5 := Lib.hid hv5'
  have B6 := Lib.hid (B5.out.trans (hb5'.mono B5.out.size))
  have X6 := Lib.hid ((hb5'.cell (p := ⟨w2.heap.size, 4, none⟩) L5.out).trans X5.out)
  have L6 := Lib.hid (Nat.lt_of_lt_of_le L5.out hb5'.size)
  have R6 := Lib.hid ((R5.out.below hb5').more hb5'.size)
  clear hv5 hv5' hb5 hb5'
  go_wp2_with fail
  refine (bmake_any 10 2 hHops _ w5 w5.heap.size (by decide) (fun _ => by decide) (Nat.le_refl _) V5.out (HL.out _ B6.out)).mono ?_
  rintro e w6 ⟨hb6, b6, A6, nd6, cd6, z6, rfl, hm6, hnd6, hr6⟩
  rw [hh_make] at hm6
  injection hm6 with h61 h62
  subst h61 h62
  have B7 := Lib.hid (B6.out.trans (hb6.mono B6.out.size))
  have X7 := Lib.hid ((hb6.cell (p := ⟨w2.heap.size, 4, none⟩) L6.out).trans X6.out)
  have L7 := Lib.hid (Nat.lt_of_lt_of_le L6.out hb6.size)
  have R7 := Lib.hid ((R6.out.below hb6).more hb6.size)
  obtain rfl : 3 = nd6 := hr6.1
  have HR6 := Lib.hid (And.intro hnd6 hr6)
  have G6 := box5 (w := w6) (c0 := .int .u64 10) (c1 := .int .u64 2) (c2 := .int .u64 0) (c3 := .int .i64 2) (c4 := .slice A6 3 cd6) (t := 25) rfl (Below.refl _ _)
  obtain ⟨g0, g1, g2, g3, g4⟩ := G6
  clear hb6 hr6 hnd6
  unfold blkV at *
  go_wp2_with fail
  refine (hops_ok 10 2 0 2 A6 3 cd6 w6.heap.size [0x82, 9, 1] 0 9 1 [] [] [] [] [] _ (by simp) (HR6.out.2.alloc (Nat.le_refl _) _) (by decide) HR6.out.1.1 (HL.out _ (B7.out.alloc B7.out.size _)) hh_cont (by decide) (by decide)).mono ?_
  rintro e w7 ⟨rfl, hb7⟩
  have hb7' := ((Below.refl w6.heap.size w6).alloc (Nat.le_refl _) (.cells #[.int .u64 10, .int .u64 2, .int .u64 0, .int .i64 2, .slice A6 3 cd6] 25)).trans (hb7.mono (le_alloc _ _))
  have B8 := Lib.hid (B7.out.trans (hb7'.mono B7.out.size))
  have X8 := Lib.hid ((hb7'.cell (p := ⟨w2.heap.size, 4, none⟩) L7.out).trans X7.out)
  have L8 := Lib.hid (Nat.lt_of_lt_of_le L7.out hb7'.size)
  have R8 := Lib.hid ((R7.out.below hb7').more hb7'.size)
  have CZ := Lib.hid (bencode_any Blk.zero none 0 0 w7.heap.size w7 ⟨by decide, by decide, by decide⟩ (Nat.le_refl _) Rd.nil_ (HL.out _ B8.out))
  rw [hz_no, if_neg (by decide), if_neg (by decide)] at CZ
  clear hb7 hb7' g0 g1 g2 g3 g4
  go_wp2_with fail
  refine CZ.out.mono ?_
  rintro e w8 ⟨v8, rfl, ho8, hb8⟩
  obtain ⟨A8, c8, rfl, -, -, -⟩ := ho8.rdn (n := 0) rfl
  have B9 := Lib.hid (B8.out.trans (hb8.mono B8.out.size))
  have hb9 := (Below.refl w8.heap.size w8).alloc (Nat.le_refl _) (.cells #[.int .u8 133, .int .u8 1, .int .u8 1, .int .u8 0, .int .u8 0, .int .u8 65, .int .u8 5] 5)
  have x9 := (hb9.cell (p := ⟨w2.heap.size, 4, none⟩) (Nat.lt_of_lt_of_le L8.out hb8.size)).trans ((hb8.cell (p := ⟨w2.heap.size, 4, none⟩) L8.out).trans X8.out)
  have R9 := Lib.hid (((R8.out.below hb8).more hb8.size).below hb9)
  have R10 := Lib.hid (Rd.lit w8 _ rfl [0x85, 1, 1, 0, 0, 0x41, 5] 5 #[.int .u8 133, .int .u8 1, .int .u8 1, .int .u8 0, .int .u8 0, .int .u8 65, .int .u8 5] rfl 7 rfl)
  have B10 := Lib.hid (B9.out.trans (hb9.mono B9.out.size))
  clear hb8 ho8 hb9
  go_wp2_with fail
  refine (same_true A1 _ 7 c1 7 7 _ _ _ _ R9.out R10.out).mono ?_
  rintro e w9 ⟨rfl, rfl⟩
  go_wp2_with fail
  go_ret
  exact ⟨rfl, B10.out⟩
end Go.Proofs.YtanbjifdcplmnaaGreatDoor
