/- What Age and Previous of layer 5 return, of any block. -/
import Derived.Test.YtanbjifdcplmnaaGreatDoorTAsW
import Derived.Test.YtanbjifdcplmnaaGreatDoorTBcoH
import Derived.Test.YtanbjifdcplmnaaGreatDoorTBlkH
import Derived.Test.YtanbjifdcplmnaaGreatDoorTBlkI
import Derived.Test.YtanbjifdcplmnaaGreatDoorTBlkP
import Derived.Test.YtanbjifdcplmnaaGreatDoorTBlkW1
import Derived.Test.YtanbjifdcplmnaaGreatDoorTBunS
import Derived.Test.YtanbjifdcplmnaaGreatDoorTCborE
import Derived.Test.YtanbjifdcplmnaaGreatDoorTCfBlockTells
import Derived.Test.YtanbjifdcplmnaaGreatDoorTEidF
import Derived.Test.YtanbjifdcplmnaaGreatDoorTEidS
import Derived.Test.YtanbjifdcplmnaaGreatDoorTKCheck
import Derived.Test.YtanbjifdcplmnaaGreatDoorTSame
import Derived.Test.YtanbjifdcplmnaaGreatDoorTShaE
import Derived.Deep.RegionHeld3
import Derived.Deep.Slices
import Derived.Test.YtanbjifdcplmnaaGreatDoorCards
import Derived.Test.YtanbjifdcplmnaaGreatDoorTie
import Derived.LaidLaws
import Derived.Lay
import Derived.LaidSub
import Derived.LaidHandle
import Derived.ChangeArms
namespace Go.Proofs.YtanbjifdcplmnaaGreatDoor
open Go.RowKit

/-- The age that an item says. -/
def ageI (o : Option Itm) : Nat × Bool :=
  match o with
  | none => (0, false)
  | some x => (x.num, x.kind == 0)
set_option maxRecDepth 100000 in
set_option maxHeartbeats 8000000 in
theorem age_any (t n f : Nat) (c : Int) (A : Option Addr) (nd cd B : Nat) (d : List UInt8) (w : World) (hB : B ≤ w.heap.size) (h : Rd w B A nd d) (hn : nd ≤ 140737488355328) (hc : nd ≤ cd) (hL : LaidE w) :
    Calls Tryz.prog 14 #[blkV t n f c A nd cd] w fun e w' => e = .returned (.tuple #[.int .u64 ((ageI (contB t 7 d)).1 : Int), .bool (ageI (contB t 7 d)).2]) ∧ Below w.heap.size w w' := by
  have HB0 := Lib.hid ((Below.refl w.heap.size w).alloc (Nat.le_refl _) (.cells #[.int .u64 (t : Int), .int .u64 (n : Int), .int .u64 (f : Int), .int .i64 c, .slice A nd cd] 25))
  have C1 := Lib.hid (contents_any t n f 7 c A nd cd B d (w.alloc (.cells #[.int .u64 (t : Int), .int .u64 (n : Int), .int .u64 (f : Int), .int .i64 c, .slice A nd cd] 25)) (Nat.le_trans hB (le_alloc _ _)) (h.alloc hB _) hn hc (hL.below HB0.out hL.lt))
  have hs0 : (w.alloc (.cells #[.int .u64 (t : Int), .int .u64 (n : Int), .int .u64 (f : Int), .int .i64 c, .slice A nd cd] 25)).heap.size = w.heap.size + 1 := by simp
  have HS0 := Lib.hid hs0
  have CU := Lib.hid (fun (k : Int) (n : Nat) (v2 v3 : Value) (W : World) (g2 : v2.oneCell' = true) (g3 : v3.oneCell' = true) => uintof_any k n v2 v3 (k == 0) W g2 g3 rfl)
  generalize contB t 7 d = O at *
  clear h hB hn hc hL hs0
  unfold blkV at *
  go_enter Tryz.func14, Tryz.ntmps14
  go_wp2_with fail
  refine C1.out.mono ?_
  rintro e w1 ⟨hb, ⟨v, x, rfl, rfl, hv⟩ | ⟨rfl, rfl⟩⟩
  case inr =>
    rw [HS0.out] at hb
    have B1 := Lib.hid ((HB0.out.trans (hb.mono (Nat.le_succ _))))
    clear hb
    go_wp2_with fail
    exact bodyPost_ret (v := .tuple #[.int .u64 0, .bool false]) (by simp [results, Tryz.results14, go_sem]) rfl ⟨rfl, B1.out.alloc B1.out.size _⟩
  rw [HS0.out] at hb
  obtain ⟨k, m, e0, l⟩ := x
  have hv' := hv.unmask
  obtain ⟨A1, nd1, cd1, AL, cl1, rfl, -, -, -, -, hcl, hrow⟩ := hv'.open
  have B1 := Lib.hid ((HB0.out.trans (hb.mono (Nat.le_succ _))))
  clear hb hv hv' hrow C1 hcl
  generalize l.length = L at *
  go_wp2_with fail
  refine (CU.out k m (.slice _ _ _) (.slice _ _ _) _ rfl rfl).mono ?_
  rintro e w3 ⟨rfl, hb3⟩
  have B3 := Lib.hid ((B1.out.alloc B1.out.size _).trans (hb3.mono (B1.out.alloc B1.out.size _).size))
  clear hb3
  go_wp2_with fail
  exact bodyPost_ret (v := .tuple #[.int .u64 (m : Int), .bool (k == 0)]) (by simp [results, Tryz.results14, go_sem]) rfl ⟨rfl, B3.out⟩

/-- What Previous gives. -/
def GivesPv (o : Option Itm) (w : World) (e : Ending) (w' : World) : Prop := Below w.heap.size w w' ∧
  ((∃ (x : Itm) (sc : Int) (s : ByteArray) (n v : Nat), o = some x ∧ e = .returned (.tuple #[epdV sc s n v, .bool true]) ∧ checkB (ep sc s n v) = true ∧ itemE (ep sc s n v) = x) ∨
   ((∀ x, o = some x → ∀ e0, checkB e0 = true → itemE e0 ≠ x) ∧ e = .returned (.tuple #[epdV 0 ⟨#[]⟩ 0 0, .bool false])))
set_option maxRecDepth 100000 in
set_option maxHeartbeats 8000000 in
theorem prev_any (S : Snt) (t n f : Nat) (c : Int) (A : Option Addr) (nd cd B : Nat) (d : List UInt8) (w : World) (hB : B ≤ w.heap.size) (h : Rd w B A nd d) (hn : nd ≤ 140737488355328) (hc : nd ≤ cd) (hL : LaidE w) (hS : Lds S w) :
    Calls Tryz.prog 16 #[blkV t n f c A nd cd] w (GivesPv (contB t 6 d) w) := by
  have HBA := Lib.hid ((Below.refl w.heap.size w).alloc (Nat.le_refl _) (.cells #[.int .u64 (t : Int), .int .u64 (n : Int), .int .u64 (f : Int), .int .i64 c, .slice A nd cd] 25))
  have HB0 := Lib.hid (HBA.out.alloc (le_alloc _ _) (.cells #[.int .i64 0, .string ⟨#[]⟩, .int .u64 0, .int .u64 0] 46))
  have HSL := Lib.hid (hS.alloc (.cells #[.int .u64 (t : Int), .int .u64 (n : Int), .int .u64 (f : Int), .int .i64 c, .slice A nd cd] 25))
  have hs0 : ((w.alloc (.cells #[.int .u64 (t : Int), .int .u64 (n : Int), .int .u64 (f : Int), .int .i64 c, .slice A nd cd] 25)).alloc (.cells #[.int .i64 0, .string ⟨#[]⟩, .int .u64 0, .int .u64 0] 46)).heap.size = w.heap.size + 2 := by simp
  have HS0 := Lib.hid hs0
  have C1 := Lib.hid (contents_any t n f 6 c A nd cd B d ((w.alloc (.cells #[.int .u64 (t : Int), .int .u64 (n : Int), .int .u64 (f : Int), .int .i64 c, .slice A nd cd] 25)).alloc (.cells #[.int .i64 0, .string ⟨#[]⟩, .int .u64 0, .int .u64 0] 46)) (by rw [hs0]; omega) (h.below (HB0.out.mono hB)) hn hc (hL.below HB0.out hL.lt))
  have HE := Lib.hid (fun (W : World) (hb : Below (w.heap.size + 1 + 1) ((w.alloc (.cells #[.int .u64 (t : Int), .int .u64 (n : Int), .int .u64 (f : Int), .int .i64 c, .slice A nd cd] 25)).alloc (.cells #[.int .i64 0, .string ⟨#[]⟩, .int .u64 0, .int .u64 0] 46)) W) => zeroE (w := (w.alloc (.cells #[.int .u64 (t : Int), .int .u64 (n : Int), .int .u64 (f : Int), .int .i64 c, .slice A nd cd] 25))) (g := w.heap.size + 1) (by simp) hb)
  have HA := Lib.hid hS
  generalize contB t 6 d = O at *
  clear h hB hn hc hL hs0 hS
  unfold blkV at *
  go_enter Tryz.func16, Tryz.ntmps16
  go_wp2_with fail
  refine C1.out.mono ?_
  rintro e w1 ⟨hb, ⟨v, x, rfl, rfl, hv⟩ | ⟨rfl, rfl⟩⟩
  case inr =>
    rw [HS0.out] at hb
    have hb2 := hb.alloc (by have := hb.size; rw [HS0.out] at this; exact this) (.cells #[.int .i64 0, .int .u64 0, .slice none 0 0, .slice none 0 0] 37)
    obtain ⟨⟨z0, z1, z2, z3⟩, f0, f1, f2, f3⟩ := HE.out _ hb2
    have B1 := Lib.hid (HB0.out.trans (hb2.mono (by omega)))
    clear hb hb2
    go_wp2_with fail
    exact bodyPost_ret (v := .tuple #[epdV 0 ⟨#[]⟩ 0 0, .bool false]) (by simp [results, Tryz.results16, go_sem, z0, z1, z2, z3, epdV]) rfl ⟨below_set4 B1.out (by omega), .inr ⟨fun x hx => (by cases hx), rfl⟩⟩
  rw [HS0.out] at hb
  have hz1 : w.heap.size + 2 ≤ w1.heap.size := by have := hb.size; rw [HS0.out] at this; exact this
  have hv' := hv.unmask
  obtain ⟨k1, n1, A1, nd1, cd1, AL1, nl1, cl1, rfl⟩ := hv'.form
  have hb2 := hb.alloc hz1 (.cells #[.int .i64 k1, .int .u64 (n1 : Int), .slice A1 nd1 cd1, .slice AL1 nl1 cl1] 37)
  have B1 := Lib.hid (HB0.out.trans (hb2.mono (by omega)))
  have B2 := Lib.hid hb2
  have hz2 : w.heap.size + 2 ≤ (w1.alloc (.cells #[.int .i64 k1, .int .u64 (n1 : Int), .slice A1 nd1 cd1, .slice AL1 nl1 cl1] 37)).heap.size := Nat.le_trans hz1 (le_alloc _ _)
  have HZ2 := Lib.hid hz2
  have CF := Lib.hid (from_any S x _ w1.heap.size (w1.alloc (.cells #[.int .i64 k1, .int .u64 (n1 : Int), .slice A1 nd1 cd1, .slice AL1 nl1 cl1] 37)) (HA.out.below B1.out (Nat.le_refl _)) (le_alloc _ _) (hv'.below ((Below.refl _ _).alloc (Nat.le_refl _) _)))
  clear hb hb2 hv hv' C1 hz1 hz2
  go_wp2_with fail
  refine CF.out.mono ?_
  rintro e w3 ⟨hb3, ⟨sc, s, n, v, rfl, -, -, -, hck, hit⟩ | ⟨hno, rfl⟩⟩
  · have H := Lib.hid (And.intro hck hit)
    have hb4 := (B2.out.trans (hb3.mono HZ2.out)).alloc (Nat.le_trans HZ2.out hb3.size) (.cells #[.int .i64 sc, .string s, .int .u64 (n : Int), .int .u64 (v : Int)] 46)
    obtain ⟨⟨z0, z1, z2, z3⟩, f0, f1, f2, f3⟩ := HE.out _ hb4
    have B4 := Lib.hid (HB0.out.trans (hb4.mono (by omega)))
    clear hck hit hb3 hb4
    unfold epdV at *
    go_wp2_with fail
    exact bodyPost_ret (v := .tuple #[epdV sc s n v, .bool true]) (by simp [results, Tryz.results16, go_sem, z0, z1, z2, z3, epdV]) rfl ⟨below_set4 B4.out (by omega), .inl ⟨x, sc, s, n, v, rfl, rfl, H.out.1, H.out.2⟩⟩
  · have H := Lib.hid hno
    have hb4 := (B2.out.trans (hb3.mono HZ2.out)).alloc (Nat.le_trans HZ2.out hb3.size) (.cells #[.int .i64 0, .string ⟨#[]⟩, .int .u64 0, .int .u64 0] 46)
    obtain ⟨⟨z0, z1, z2, z3⟩, f0, f1, f2, f3⟩ := HE.out _ hb4
    have B4 := Lib.hid (HB0.out.trans (hb4.mono (by omega)))
    clear hno hb3 hb4
    unfold epdV at *
    go_wp2_with fail
    exact bodyPost_ret (v := .tuple #[epdV 0 ⟨#[]⟩ 0 0, .bool false]) (by simp [results, Tryz.results16, go_sem, z0, z1, z2, z3, epdV]) rfl ⟨below_set4 B4.out (by omega), .inr ⟨fun y hy => (by injection hy with hy; subst hy; exact H.out), rfl⟩⟩
end Go.Proofs.YtanbjifdcplmnaaGreatDoor
/- What Make, uintOf and contents of layer 5 return. -/
namespace Go.Proofs.YtanbjifdcplmnaaGreatDoor
open Go.RowKit

/-- What Make answers. -/
def makeB (k n : Nat) (x : Itm) : Blk × Int := if (enc x).2 ≠ 0 then (.zero, (enc x).2) else if blkOk ⟨k, n, 0, 2, (enc x).1⟩ = false then (.zero, 50) else (⟨k, n, 0, 2, (enc x).1⟩, 0)
def MakeB (k n : Nat) (x : Itm) (w : World) (e : Ending) (w' : World) : Prop := Below w.heap.size w w' ∧
  ∃ (b : Blk) (A : Option Addr) (nd cd : Nat) (z : Int), e = .returned (.tuple #[blkV b.typ b.num b.flg b.crc A nd cd, .int .i64 z]) ∧ makeB k n x = (b, z) ∧ (nd ≤ cd ∧ nd ≤ 140737488355328) ∧ Rd w' w'.heap.size A nd b.dat

set_option maxRecDepth 100000 in
set_option maxHeartbeats 8000000 in
theorem bmake_any (k n : Nat) (x : Itm) (v : Value) (w : World) (B : Nat) (hp : par x ≤ 1000000) (hlen : Fits x → (wri x).length ≤ 140737488355328) (hB : B ≤ w.heap.size) (h : RdI w B v x) (hL : LaidE w) :
    Calls Tryz.prog 18 #[.int .u64 (k : Int), .int .u64 (n : Int), v] w (MakeB k n x w) := by
  obtain ⟨kx, nx, A, nd, cd, AL, nl, cl, rfl⟩ := h.form
  have hz0 := fun (W : World) (hb : Below (w.heap.size + 1 + 1) ((w.alloc (.cells #[.int .i64 kx, .int .u64 (nx : Int), .slice A nd cd, .slice AL nl cl] 37)).alloc (.cells #[.int .u64 0, .int .u64 0, .int .u64 0, .int .i64 0, .slice none 0 0] 25)) W) => zero5 (g := w.heap.size + 1) (by simp) hb
  have HZ := Lib.hid hz0
  have HZB : Hid (∀ (W : World) (_ : Below (w.heap.size + 1 + 1) ((w.alloc (.cells #[.int .i64 kx, .int .u64 (nx : Int), .slice A nd cd, .slice AL nl cl] 37)).alloc (.cells #[.int .u64 0, .int .u64 0, .int .u64 0, .int .i64 0, .slice none 0 0] 25)) W), W.heap[w.heap.size + 1]? = some (.cells #[.int .u64 0, .int .u64 0, .int .u64 0, .int .i64 0, .slice none 0 0] 25 (0, 0))) := fun W hb => by
    rw [hb.block (w.heap.size + 1) (Nat.lt_succ_self _)]
    have := heap_alloc_new (w.alloc (.cells #[.int .i64 kx, .int .u64 (nx : Int), .slice A nd cd, .slice AL nl cl] 37)) (.cells #[.int .u64 0, .int .u64 0, .int .u64 0, .int .i64 0, .slice none 0 0] 25)
    simpa using this
  have HB0 : Hid (Below w.heap.size w ((w.alloc (.cells #[.int .i64 kx, .int .u64 (nx : Int), .slice A nd cd, .slice AL nl cl] 37)).alloc (.cells #[.int .u64 0, .int .u64 0, .int .u64 0, .int .i64 0, .slice none 0 0] 25))) := ((Below.refl _ _).alloc (Nat.le_refl _) _).alloc (le_alloc _ _) _
  have hs0 : ((w.alloc (.cells #[.int .i64 kx, .int .u64 (nx : Int), .slice A nd cd, .slice AL nl cl] 37)).alloc (.cells #[.int .u64 0, .int .u64 0, .int .u64 0, .int .i64 0, .slice none 0 0] 25)).heap.size = w.heap.size + 2 := by simp
  have HS0 := Lib.hid hs0
  have C1 := Lib.hid (cencode_any x _ _ B hp hlen (by rw [hs0]; omega) (h.below (HB0.out.mono hB)) (hL.below HB0.out hL.lt))
  have HL := Lib.hid (hL.below HB0.out hL.lt)
  have HLT := Lib.hid hL.lt
  have HM : Hid (makeB k n x = if (enc x).2 ≠ 0 then (.zero, (enc x).2) else if blkOk ⟨k, n, 0, 2, (enc x).1⟩ = false then (.zero, 50) else (⟨k, n, 0, 2, (enc x).1⟩, 0)) := rfl
  have q1 := fun (W : World) (u : TypeId) (x : Value) => run_neq_iface_nil (P := Tryz.prog) (w := W) 60 (by kernel_rfl) u x
  have hec := enc_cases x
  clear h hp hlen hB hL hz0 hs0
  generalize hen : enc x = en at *
  obtain ⟨el, ez⟩ := en
  clear hen
  simp only at *
  rcases hec with ⟨-, he⟩ | ⟨-, he1, he2⟩
  · obtain rfl : ez = 0 := by injection he
    clear he
    have hM2 := HM.out
    rw [if_neg (by simp)] at hM2
    have HM2 := Lib.hid hM2
    clear hM2 HM
    have CC := Lib.hid (fun (A : Option Addr) (nd cd : Nat) (W : World) (hd : el.length = nd) => bcheck_any k n 0 2 A nd cd el W hd)
    have CN := Lib.hid (fun s W (hb : Below w.heap.size w W) => bnumber_any 50 s W (LaidE.below (B := w.heap.size) (w := w) (by have h := HL.out; exact (HB0.out.cell (p := ⟨0, 0, none⟩) HLT.out).symm.trans h) hb HLT.out))
    have H4 : Hid (blkOk ⟨k, n, 0, 2, el⟩ = true → el.length ≤ 4096) := fun h => (blkOk_iff.1 h).2.2.2.2
    generalize blkOk ⟨k, n, 0, 2, el⟩ = R at *
    go_enter Tryz.func18, Tryz.ntmps18
    go_wp2_with fail
    refine C1.out.mono ?_
    rintro e w1 ⟨A1, n1, c1, rfl, hr, hc, hb⟩
    have hw1 : w.heap.size + 2 ≤ w1.heap.size := by have := hb.size; rw [HS0.out] at this; exact this
    have hn1 : n1 = el.length := hr.1.symm
    have hb2 := (hb.mono (show w.heap.size + 1 + 1 ≤ _ by rw [HS0.out]; exact Nat.le_refl _)).alloc hw1 (.cells #[.int .u64 (k : Int), .int .u64 (n : Int), .int .u64 0, .int .i64 2, .slice A1 n1 c1] 25)
    have hw2 : (w1.alloc (.cells #[.int .u64 (k : Int), .int .u64 (n : Int), .int .u64 0, .int .i64 2, .slice A1 n1 c1] 25)).heap.size = w1.heap.size + 1 := by simp
    have C2 := Lib.hid (CC.out A1 n1 c1 (w1.alloc (.cells #[.int .u64 (k : Int), .int .u64 (n : Int), .int .u64 0, .int .i64 2, .slice A1 n1 c1] 25)) hr.1)
    have B2 := Lib.hid hb2
    have R2 := Lib.hid (hr.alloc (Nat.le_refl _) (.cells #[.int .u64 (k : Int), .int .u64 (n : Int), .int .u64 0, .int .i64 2, .slice A1 n1 c1] 25))
    have HW := Lib.hid (And.intro hw1 (And.intro hw2 hc))
    have HN1 := Lib.hid hn1
    clear hb hb2 hr hw1 hw2 hn1 hc C1
    unfold blkV at *
    go_wp2_with fail
    refine C2.out.mono ?_
    rintro e w2 ⟨hb, ⟨rfl, rfl⟩ | ⟨rfl, s, rfl⟩⟩
    · have hbE := B2.out.trans (hb.mono (by rw [HW.out.2.1]; have := HW.out.1; omega))
      obtain ⟨⟨z0, z1, z2, z3, z4⟩, f0, f1, f2, f3, f4⟩ := HZ.out _ hbE
      obtain ⟨g0, g1, g2, g3, g4⟩ := box5 rfl (hb.mono (show w1.heap.size + 1 ≤ _ by rw [HW.out.2.1]; exact Nat.le_refl _))
      have BE := Lib.hid hbE
      have RE := Lib.hid ((R2.out.below (hb.mono (by rw [HW.out.2.1]; omega))).more (show w1.heap.size ≤ w2.heap.size by have := hb.size; rw [HW.out.2.1] at this; omega))
      clear hbE hb
      go_wp2_with fail
      refine bodyPost_ret (v := .tuple #[.agg #[.int .u64 (k : Int), .int .u64 (n : Int), .int .u64 0, .int .i64 2, .slice A1 n1 c1], .int .i64 0]) (by simp [results, Tryz.results18, go_sem, z0, z1, z2, z3, z4]) rfl ⟨below_put5 (HB0.out.trans (BE.out.mono (by omega))) (Nat.le_succ _), ⟨k, n, 0, 2, el⟩, A1, n1, c1, 0, rfl, by rw [HM2.out]; rfl, ⟨HW.out.2.2, ?_⟩, ?_⟩
      · have := H4.out trivial; have := HN1.out; omega
      · exact Rd.put5 RE.out (by simp [World.setCell]) (RE.out.off5 (HZB.out _ BE.out))
    · obtain ⟨g0, g1, g2, g3, g4⟩ := box5 rfl (hb.mono (show w1.heap.size + 1 ≤ _ by rw [HW.out.2.1]; exact Nat.le_refl _))
      have hb3 := B2.out.trans (hb.mono (by rw [HW.out.2.1]; have := HW.out.1; omega))
      have B3 := Lib.hid hb3
      have C4 := Lib.hid (CN.out s w2 (HB0.out.trans (hb3.mono (by omega))))
      clear hb hb3
      unfold bfl at *
      go_wp2_with fail
      refine C4.out.mono ?_
      rintro e w3 ⟨rfl, hb⟩
      have hbE := B3.out.trans (hb.mono (by have := B3.out.size; have := HS0.out; omega))
      obtain ⟨⟨z0, z1, z2, z3, z4⟩, f0, f1, f2, f3, f4⟩ := HZ.out _ hbE
      have BE := Lib.hid hbE
      clear hbE hb g0 g1 g2 g3 g4
      go_wp2_with fail
      refine bodyPost_ret (v := .tuple #[blkV 0 0 0 0 none 0 0, .int .i64 50]) (by simp [results, Tryz.results18, go_sem, z0, z1, z2, z3, z4, blkV]) rfl ⟨below_put5 (HB0.out.trans (BE.out.mono (by omega))) (Nat.le_succ _), Blk.zero, none, 0, 0, 50, rfl, by rw [HM2.out]; rfl, ⟨Nat.le_refl _, by decide⟩, Rd.nil_⟩
  · have hezn : ez ≠ 0 := by omega
    have hez0 : (ez == 0) = false := by simpa using hezn
    have hM2 := HM.out
    rw [if_pos hezn] at hM2
    have HM2 := Lib.hid hM2
    clear hM2 HM hezn he2
    go_enter Tryz.func18, Tryz.ntmps18
    go_wp2_with fail
    refine C1.out.mono ?_
    rintro e w1 ⟨A1, n1, c1, rfl, hr, hc, hb⟩
    have hbE := hb.mono (show w.heap.size + 1 + 1 ≤ _ by rw [HS0.out]; exact Nat.le_refl _)
    obtain ⟨⟨z0, z1, z2, z3, z4⟩, f0, f1, f2, f3, f4⟩ := HZ.out _ hbE
    have BE := Lib.hid hbE
    clear hbE hb hr hc
    go_wp2_with fail
    refine bodyPost_ret (v := .tuple #[blkV 0 0 0 0 none 0 0, .int .i64 ez]) (by simp [results, Tryz.results18, go_sem, z0, z1, z2, z3, z4, blkV]) rfl ⟨below_put5 (HB0.out.trans (BE.out.mono (by omega))) (Nat.le_succ _), Blk.zero, none, 0, 0, ez, rfl, HM2.out, ⟨Nat.le_refl _, by decide⟩, Rd.nil_⟩
end Go.Proofs.YtanbjifdcplmnaaGreatDoor
/- Plain facts of layer 5: what blocks of hops, of an age, of a node ahead hold. -/
namespace Go.Proofs.YtanbjifdcplmnaaGreatDoor
open Go.RowKit

theorem contB_of (k : Nat) {x : Itm} (f : Fits x) (s : Siz x) : contB k k (wri x) = some x := by
  have h := decode_wr f s []
  rw [List.append_nil] at h
  unfold contB
  rw [if_pos ⟨rfl, by rw [h], by rw [h]⟩, h]
theorem makeB_of (k n : Nat) {x : Itm} (f : Fits x) (hk : 2 ≤ k ∧ k ≤ 255) (hn : n ≠ 0) (hl : (wri x).length ≤ 4096) : makeB k n x = (⟨k, n, 0, 2, wri x⟩, 0) := by
  have h : blkOk ⟨k, n, 0, 2, wri x⟩ = true := blkOk_iff.2 ⟨⟨by show 1 ≤ k; omega, hk.2⟩, hn, .inl (by show k ≠ 1; omega), ⟨by show (0 : Int) ≤ 2; decide, by show (2 : Int) ≤ 2; decide⟩, hl⟩
  unfold makeB
  rw [enc_ok f, if_neg (by simp), if_neg (by rw [h]; decide)]
theorem fitsU (n : Nat) : Fits (.mk 0 n [] []) := ⟨by simp [rights, right, own], by simp [dep, deps], by simp [par, pars]⟩
theorem sizU {n : Nat} (h : n < 18446744073709551616) : Siz (.mk 0 n [] []) := by simp only [Siz, Sizs]; exact ⟨h, by decide, by decide, trivial⟩
theorem lenU (n : Nat) : (wri (.mk 0 n [] [])).length ≤ 9 := by rw [wri_u, hd_len]; have := hsz_le n; omega
def hopI (a b : Nat) : Itm := .mk 4 0 [] [.mk 0 a [] [], .mk 0 b [] []]
theorem fitsH (a b : Nat) : Fits (hopI a b) := ⟨by simp [hopI, rights, right, own], by simp [hopI, dep, deps], by simp [hopI, par, pars]⟩
theorem sizH {a b : Nat} (ha : a < 18446744073709551616) (hb : b < 18446744073709551616) : Siz (hopI a b) := by unfold hopI; simp only [Siz, Sizs]; exact ⟨by decide, by decide, by simp, ⟨ha, by decide, by decide, trivial⟩, ⟨hb, by decide, by decide, trivial⟩, trivial⟩
theorem lenH (a b : Nat) : (wri (hopI a b)).length ≤ 19 := by
  have e : wri (hopI a b) = hd 4 2 ++ (wri (.mk 0 a [] []) ++ (wri (.mk 0 b [] []) ++ [])) := by
    unfold hopI
    rw [wri, if_neg (by decide), if_neg (by decide), if_pos rfl, wrs, wrs, wrs]
    rfl
  have h1 := lenU a
  have h2 := lenU b
  rw [e]
  simp only [List.length_append, List.length_nil, hd_len]
  have : hsz 2 = 0 := by rfl
  omega
theorem hopsI_hop (a b : Nat) : hopsI (some (hopI a b)) = if 1 ≤ a ∧ a ≤ 255 then (a, b, true) else (0, 0, false) := by
  show (if (4 : Int) = 4 ∧ _ then _ else _) = _
  simp only [true_and, Itm.kind, Itm.num]
theorem itemE_f {e : Epd} (h : checkB e = true) : Fits (itemE e) := by
  obtain ⟨h1, h2, h3⟩ := itemE_good h
  exact ⟨h1, by omega, by omega⟩
end Go.Proofs.YtanbjifdcplmnaaGreatDoor
/- What must come at any rate ('heads' of layer 5's statements): true. -/
namespace Go.Proofs.YtanbjifdcplmnaaGreatDoor
open Go.RowKit

def hBlk : Blk := ⟨1, 1, 0, 0, [5]⟩
def hHops : Itm := .mk 4 0 [] [.mk 0 9 [] [], .mk 0 1 [] []]
theorem hb_w : blkW hBlk = [0x85, 1, 1, 0, 0, 0x41, 5] := by rfl
theorem hb_ok : blkOk hBlk = true := by rfl
theorem hb_dec : decB [0x85, 1, 1, 0, 0, 0x41, 5] = (hBlk, 7, 0) := by
  have h := decB_blk hBlk [] hb_ok ⟨by decide, by decide, by decide⟩
  rw [List.append_nil, hb_w] at h
  exact h
theorem hh_make : makeB 10 2 hHops = (⟨10, 2, 0, 2, [0x82, 9, 1]⟩, 0) := by rfl
theorem hh_cont : contB 10 10 [0x82, 9, 1] = some hHops := by rfl
theorem hz_no : blkOk Blk.zero = false := by rfl

theorem RdIs.twoB {W : World} {a0 a1 a2 a3 b0 b1 b2 b3 : Value} {x y : Itm} {t : TypeId} (h1 : RdI W W.heap.size (.agg #[a0, a1, a2, a3]) x) (h2 : RdI W W.heap.size (.agg #[b0, b1, b2, b3]) y) :
    RdIs (W.alloc (.cells #[a0, a1, a2, a3, b0, b1, b2, b3] t)) (W.heap.size + 1) W.heap.size 0 [x, y] := by
  rw [RdIs, RdIs, RdIs]
  refine ⟨⟨a0, a1, a2, a3, by simp, by simp, by simp, by simp, (h1.alloc (Nat.le_refl _) _).more (Nat.le_succ _)⟩, ⟨b0, b1, b2, b3, by simp, by simp, by simp, by simp, (h2.alloc (Nat.le_refl _) _).more (Nat.le_succ _)⟩, trivial⟩

set_option maxRecDepth 100000 in
set_option maxHeartbeats 8000000 in
theorem heads05_any (w : World) (hL : LaidE w) : Calls Tryz.prog 9 #[] w fun e w' => e = .returned (.bool true) ∧ Below w.heap.size w w' := by
  have HLT := Lib.hid hL.lt
  have HL := Lib.hid (fun W (hb : Below w.heap.size w W) => hL.below hb hL.lt)
  have C1 : Hid (Calls Tryz.prog 32 #[.agg #[.int .u64 1, .int .u64 1, .int .u64 0, .int .i64 0, .slice (some ⟨w.heap.size, 0, none⟩) 1 1]] (w.alloc (.cells #[.int .u8 5] 5)) fun e w' => ∃ v, e = .returned (.tuple #[v, .int .i64 0]) ∧ Ob w' (w.alloc (.cells #[.int .u8 5] 5)).heap.size 5 v [0x85, 1, 1, 0, 0, 0x41, 5] ∧ Below (w.alloc (.cells #[.int .u8 5] 5)).heap.size (w.alloc (.cells #[.int .u8 5] 5)) w') := by
    have h := bencode_any hBlk (some ⟨w.heap.size, 0, none⟩) 1 1 (w.heap.size + 1) (w.alloc (.cells #[.int .u8 5] 5)) ⟨by decide, by decide, by decide⟩ (Nat.le_of_eq (by simp)) (Rd.lit w _ rfl [5] 5 #[.int .u8 5] rfl 1 rfl) (HL.out _ ((Below.refl _ _).alloc (Nat.le_refl _) _))
    rw [hb_ok, if_pos rfl, if_pos rfl, hb_w] at h
    exact h
  have B0 := Lib.hid ((Below.refl w.heap.size w).alloc (Nat.le_refl _) (.cells #[.int .u8 5] 5))
  clear hL
  go_enter Tryz.func9, Tryz.ntmps9
  go_wp2_with fail
  refine C1.out.mono ?_
  rintro e w1 ⟨v1, rfl, ho1, hb1⟩
  obtain ⟨A1, c1, rfl, hc1, hm1, hr1⟩ := ho1.rdn (n := 7) rfl
  have B1 := Lib.hid (B0.out.trans (hb1.mono (le_alloc _ _)))
  have R1 := Lib.hid hr1
  have HC1 := Lib.hid hc1
  clear ho1 hb1 hr1 hc1 hm1
  go_wp2_with fail
  refine (bdecode_any A1 7 c1 w1.heap.size _ w1 (Nat.le_refl _) R1.out (by decide) HC1.out (HL.out _ B1.out)).mono ?_
  rintro e w2 ⟨hb2, b, A2, nd2, cd2, N, z, rfl, hd, -, hnd2, hr2⟩
  rw [hb_dec] at hd
  injection hd with hd1 hd
  injection hd with hd2 hd3
  subst hd1 hd2 hd3
  obtain rfl : 1 = nd2 := hr2.1
  have B2 := Lib.hid (B1.out.trans (hb2.mono B1.out.size))
  have R2 := Lib.hid ((R1.out.below hb2).more hb2.size)
  have hb3 := (Below.refl w2.heap.size w2).alloc (Nat.le_refl _) (.cells #[.int .u64 1, .int .u64 1, .int .u64 0, .int .i64 0, .slice A2 1 cd2] 25)
  have hx4 : (w2.alloc (.cells #[.int .u64 1, .int .u64 1, .int .u64 0, .int .i64 0, .slice A2 1 cd2] 25)).cell? ⟨w2.heap.size, 4, none⟩ = some (.slice A2 1 cd2) := by rw [World.cell?_alloc_at _ _ _ _ rfl]; rfl
  have HX4 := Lib.hid hx4
  have hlt2 : w2.heap.size < (w2.alloc (.cells #[.int .u64 1, .int .u64 1, .int .u64 0, .int .i64 0, .slice A2 1 cd2] 25)).heap.size := by simp
  have HLT2 := Lib.hid hlt2
  have B3 := Lib.hid (B2.out.trans (hb3.mono B2.out.size))
  have R3 := Lib.hid ((R2.out.below hb3).more hb3.size)
  clear hb2 hr2 hnd2 hb3 hx4 hlt2
  unfold blkV hBlk at *
  go_wp2_with fail
  refine (ruint_any 9 _ (by decide) (by decide)).mono ?_
  rintro e w3 ⟨v3, rfl, hv3, hb3⟩
  obtain ⟨k3, n3, A3, nd3, cd3, AL3, nl3, cl3, rfl⟩ := hv3.form
  have V3 := Lib.hid hv3
  have B4 := Lib.hid (B3.out.trans (hb3.mono B3.out.size))
  have X4 := Lib.hid ((hb3.cell (p := ⟨w2.heap.size, 4, none⟩) HLT2.out).trans HX4.out)
  have L4 := Lib.hid (Nat.lt_of_lt_of_le HLT2.out hb3.size)
  have R4 := Lib.hid ((R3.out.below hb3).more hb3.size)
  clear hv3 hb3
  go_wp2_with fail
  refine (ruint_any 1 _ (by decide) (by decide)).mono ?_
  rintro e w4 ⟨v4, rfl, hv4, hb4⟩
  obtain ⟨k4, n4, A4, nd4, cd4, AL4, nl4, cl4, rfl⟩ := hv4.form
  have V4 := Lib.hid (RdIs.twoB (t := 37) ((V3.out.below hb4).more hb4.size) hv4)
  have B5 := Lib.hid (B4.out.trans (hb4.mono B4.out.size))
  have X5 := Lib.hid ((hb4.cell (p := ⟨w2.heap.size, 4, none⟩) L4.out).trans X4.out)
  have L5 := Lib.hid (Nat.lt_of_lt_of_le L4.out hb4.size)
  have R5 := Lib.hid ((R4.out.below hb4).more hb4.size)
  clear hv4 hb4
  go_wp2_with fail
  refine (rarray_any w4.heap.size 0 2 2 (w4.heap.size + 1) _ _ (Nat.le_of_eq (by simp)) (Nat.lt_succ_self _) V4.out rfl (by decide) (by decide) (Nat.le_refl _)).mono ?_
  rintro e w5 ⟨v5, rfl, hv5, hb5⟩
  have hv5' : RdI w5 w5.heap.size v5 hHops := hv5
  obtain ⟨k5, n5, A5, nd5, cd5, AL5, nl5, cl5, rfl⟩ := hv5'.form
  have hb5' := ((Below.refl w4.heap.size w4).alloc (Nat.le_refl _) _).trans (hb5.mono (le_alloc _ _))
  have V5 := Lib.hid hv5'
  have B6 := Lib.hid (B5.out.trans (hb5'.mono B5.out.size))
  have X6 := Lib.hid ((hb5'.cell (p := ⟨w2.heap.size, 4, none⟩) L5.out).trans X5.out)
  have L6 := Lib.hid (Nat.lt_of_lt_of_le L5.out hb5'.size)
  have R6 := Lib.hid ((R5.out.below hb5').more hb5'.size)
  clear hv5 hv5' hb5 hb5'
  go_wp2_with fail
  refine (bmake_any 10 2 hHops _ w5 w5.heap.size (by decide) (fun _ => by decide) (Nat.le_refl _) V5.out (HL.out _ B6.out)).mono ?_
  rintro e w6 ⟨hb6, b6, A6, nd6, cd6, z6, rfl, hm6, hnd6, hr6⟩
  rw [hh_make] at hm6
  injection hm6 with h61 h62
  subst h61 h62
  have B7 := Lib.hid (B6.out.trans (hb6.mono B6.out.size))
  have X7 := Lib.hid ((hb6.cell (p := ⟨w2.heap.size, 4, none⟩) L6.out).trans X6.out)
  have L7 := Lib.hid (Nat.lt_of_lt_of_le L6.out hb6.size)
  have R7 := Lib.hid ((R6.out.below hb6).more hb6.size)
  obtain rfl : 3 = nd6 := hr6.1
  have HR6 := Lib.hid (And.intro hnd6 hr6)
  have G6 := box5 (w := w6) (c0 := .int .u64 10) (c1 := .int .u64 2) (c2 := .int .u64 0) (c3 := .int .i64 2) (c4 := .slice A6 3 cd6) (t := 25) rfl (Below.refl _ _)
  obtain ⟨g0, g1, g2, g3, g4⟩ := G6
  clear hb6 hr6 hnd6
  unfold blkV at *
  go_wp2_with fail
  refine (hops_ok 10 2 0 2 A6 3 cd6 w6.heap.size [0x82, 9, 1] 0 9 1 [] [] [] [] [] _ (by simp) (HR6.out.2.alloc (Nat.le_refl _) _) (by decide) HR6.out.1.1 (HL.out _ (B7.out.alloc B7.out.size _)) hh_cont (by decide) (by decide)).mono ?_
  rintro e w7 ⟨rfl, hb7⟩
  have hb7' := ((Below.refl w6.heap.size w6).alloc (Nat.le_refl _) (.cells #[.int .u64 10, .int .u64 2, .int .u64 0, .int .i64 2, .slice A6 3 cd6] 25)).trans (hb7.mono (le_alloc _ _))
  have B8 := Lib.hid (B7.out.trans (hb7'.mono B7.out.size))
  have X8 := Lib.hid ((hb7'.cell (p := ⟨w2.heap.size, 4, none⟩) L7.out).trans X7.out)
  have L8 := Lib.hid (Nat.lt_of_lt_of_le L7.out hb7'.size)
  have R8 := Lib.hid ((R7.out.below hb7').more hb7'.size)
  have CZ := Lib.hid (bencode_any Blk.zero none 0 0 w7.heap.size w7 ⟨by decide, by decide, by decide⟩ (Nat.le_refl _) Rd.nil_ (HL.out _ B8.out))
  rw [hz_no, if_neg (by decide), if_neg (by decide)] at CZ
  clear hb7 hb7' g0 g1 g2 g3 g4
  go_wp2_with fail
  refine CZ.out.mono ?_
  rintro e w8 ⟨v8, rfl, ho8, hb8⟩
  obtain ⟨A8, c8, rfl, -, -, -⟩ := ho8.rdn (n := 0) rfl
  have B9 := Lib.hid (B8.out.trans (hb8.mono B8.out.size))
  have hb9 := (Below.refl w8.heap.size w8).alloc (Nat.le_refl _) (.cells #[.int .u8 133, .int .u8 1, .int .u8 1, .int .u8 0, .int .u8 0, .int .u8 65, .int .u8 5] 5)
  have x9 := (hb9.cell (p := ⟨w2.heap.size, 4, none⟩) (Nat.lt_of_lt_of_le L8.out hb8.size)).trans ((hb8.cell (p := ⟨w2.heap.size, 4, none⟩) L8.out).trans X8.out)
  have R9 := Lib.hid (((R8.out.below hb8).more hb8.size).below hb9)
  have R10 := Lib.hid (Rd.lit w8 _ rfl [0x85, 1, 1, 0, 0, 0x41, 5] 5 #[.int .u8 133, .int .u8 1, .int .u8 1, .int .u8 0, .int .u8 0, .int .u8 65, .int .u8 5] rfl 7 rfl)
  have B10 := Lib.hid (B9.out.trans (hb9.mono B9.out.size))
  clear hb8 ho8 hb9
  go_wp2_with fail
  refine (same_true A1 _ 7 c1 7 7 _ _ _ _ R9.out R10.out).mono ?_
  rintro e w9 ⟨rfl, rfl⟩
  go_wp2_with fail
  go_ret
  exact ⟨rfl, B10.out⟩
end Go.Proofs.YtanbjifdcplmnaaGreatDoor
/- Two endpoints compared whole. -/
namespace Go.Proofs.YtanbjifdcplmnaaGreatDoor
open Go.RowKit

set_option maxRecDepth 100000 in
set_option maxHeartbeats 2000000 in
theorem eql_eid (sc sc' : Int) (s s' : ByteArray) (n n' v v' : Int) (be : Bool) (hbe : be = true ↔ (sc = sc' ∧ s = s' ∧ n = n' ∧ v = v')) (w : World) :
    (binOp .eql 46 (.agg #[.int .i64 sc, .string s, .int .u64 n, .int .u64 v]) (.agg #[.int .i64 sc', .string s', .int .u64 n', .int .u64 v'])).run Tryz.prog w = .ok (.bool be) w := by
  have hss : s.toList = s'.toList ↔ s = s' := by
    rw [Lib.toList_data, Lib.toList_data]
    constructor
    · intro h; rw [← strL_data s, h, strL_data]
    · rintro rfl; rfl
  go_simp
  cases be with
  | true =>
    obtain ⟨h1, h2, h3, h4⟩ := hbe.1 rfl
    rw [if_pos h1, if_pos h2, if_pos h3, if_pos h4]
  | false =>
    split
    · split
      · split
        · split
          · rename_i h1 h2 h3 h4
            have := hbe.2 ⟨h1, h2, h3, h4⟩
            cases this
          · rfl
        · rfl
      · rfl
    · rfl
end Go.Proofs.YtanbjifdcplmnaaGreatDoor
/- Make of layer 5's reference. (Made of BlkJ.) -/
namespace Go.Proofs.YtanbjifdcplmnaaGreatDoor
open Go.RowKit

set_option maxRecDepth 100000 in
set_option maxHeartbeats 8000000 in
theorem rmakeB_any (k n : Nat) (x : Itm) (v : Value) (w : World) (B : Nat) (hp : par x ≤ 1000000) (hg : hgt x ≤ 1001) (hlen : Fits x → (wri x).length ≤ 140737488355328) (hB : B ≤ w.heap.size) (h : RdI w B v x) :
    Calls Tryz.prog 19 #[.int .u64 (k : Int), .int .u64 (n : Int), v] w (MakeB k n x w) := by
  obtain ⟨kx, nx, A, nd, cd, AL, nl, cl, rfl⟩ := h.form
  have hz0 := fun (W : World) (hb : Below (w.heap.size + 1 + 1) ((w.alloc (.cells #[.int .i64 kx, .int .u64 (nx : Int), .slice A nd cd, .slice AL nl cl] 37)).alloc (.cells #[.int .u64 0, .int .u64 0, .int .u64 0, .int .i64 0, .slice none 0 0] 25)) W) => zero5 (g := w.heap.size + 1) (by simp) hb
  have HZ := Lib.hid hz0
  have HZB : Hid (∀ (W : World) (_ : Below (w.heap.size + 1 + 1) ((w.alloc (.cells #[.int .i64 kx, .int .u64 (nx : Int), .slice A nd cd, .slice AL nl cl] 37)).alloc (.cells #[.int .u64 0, .int .u64 0, .int .u64 0, .int .i64 0, .slice none 0 0] 25)) W), W.heap[w.heap.size + 1]? = some (.cells #[.int .u64 0, .int .u64 0, .int .u64 0, .int .i64 0, .slice none 0 0] 25 (0, 0))) := fun W hb => by
    rw [hb.block (w.heap.size + 1) (Nat.lt_succ_self _)]
    have := heap_alloc_new (w.alloc (.cells #[.int .i64 kx, .int .u64 (nx : Int), .slice A nd cd, .slice AL nl cl] 37)) (.cells #[.int .u64 0, .int .u64 0, .int .u64 0, .int .i64 0, .slice none 0 0] 25)
    simpa using this
  have HB0 : Hid (Below w.heap.size w ((w.alloc (.cells #[.int .i64 kx, .int .u64 (nx : Int), .slice A nd cd, .slice AL nl cl] 37)).alloc (.cells #[.int .u64 0, .int .u64 0, .int .u64 0, .int .i64 0, .slice none 0 0] 25))) := ((Below.refl _ _).alloc (Nat.le_refl _) _).alloc (le_alloc _ _) _
  have hs0 : ((w.alloc (.cells #[.int .i64 kx, .int .u64 (nx : Int), .slice A nd cd, .slice AL nl cl] 37)).alloc (.cells #[.int .u64 0, .int .u64 0, .int .u64 0, .int .i64 0, .slice none 0 0] 25)).heap.size = w.heap.size + 2 := by simp
  have HS0 := Lib.hid hs0
  have C1 := Lib.hid (rencode_any x _ _ B hp hg hlen (by rw [hs0]; omega) (h.below (HB0.out.mono hB)))
  have HM : Hid (makeB k n x = if (enc x).2 ≠ 0 then (.zero, (enc x).2) else if blkOk ⟨k, n, 0, 2, (enc x).1⟩ = false then (.zero, 50) else (⟨k, n, 0, 2, (enc x).1⟩, 0)) := rfl
  have hec := enc_cases x
  clear h hp hg hlen hB hz0 hs0
  generalize hen : enc x = en at *
  obtain ⟨el, ez⟩ := en
  clear hen
  simp only at *
  rcases hec with ⟨-, he⟩ | ⟨-, he1, he2⟩
  · obtain rfl : ez = 0 := by injection he
    clear he
    have hM2 := HM.out
    rw [if_neg (by simp)] at hM2
    have HM2 := Lib.hid hM2
    clear hM2 HM
    have CC := Lib.hid (fun (A : Option Addr) (nd cd : Nat) (W : World) (hd : el.length = nd) => rcheckB_any k n 0 2 A nd cd el W hd)
    have H4 : Hid (blkOk ⟨k, n, 0, 2, el⟩ = true → el.length ≤ 4096) := fun h => (blkOk_iff.1 h).2.2.2.2
    generalize blkOk ⟨k, n, 0, 2, el⟩ = R at *
    go_enter Tryz.func19, Tryz.ntmps19
    go_wp2_with fail
    refine C1.out.mono ?_
    rintro e w1 ⟨vv, rfl, ho, hb⟩
    obtain ⟨A1, c1, rfl, hc, -, hr⟩ := ho.rd
    obtain ⟨n1, hn1⟩ : ∃ n1, n1 = el.length := ⟨_, rfl⟩
    rw [← hn1] at hc hr ⊢
    have hw1 : w.heap.size + 2 ≤ w1.heap.size := by have := hb.size; rw [HS0.out] at this; exact this
    have hb2 := (hb.mono (show w.heap.size + 1 + 1 ≤ _ by rw [HS0.out]; exact Nat.le_refl _)).alloc hw1 (.cells #[.int .u64 (k : Int), .int .u64 (n : Int), .int .u64 0, .int .i64 2, .slice A1 n1 c1] 25)
    have hw2 : (w1.alloc (.cells #[.int .u64 (k : Int), .int .u64 (n : Int), .int .u64 0, .int .i64 2, .slice A1 n1 c1] 25)).heap.size = w1.heap.size + 1 := by simp
    have C2 := Lib.hid (CC.out A1 n1 c1 (w1.alloc (.cells #[.int .u64 (k : Int), .int .u64 (n : Int), .int .u64 0, .int .i64 2, .slice A1 n1 c1] 25)) hn1.symm)
    have B2 := Lib.hid hb2
    have R2 := Lib.hid (hr.alloc (Nat.le_refl _) (.cells #[.int .u64 (k : Int), .int .u64 (n : Int), .int .u64 0, .int .i64 2, .slice A1 n1 c1] 25))
    have HW := Lib.hid (And.intro hw1 (And.intro hw2 hc))
    have HN1 := Lib.hid hn1
    obtain ⟨g0, g1, g2, g3, g4⟩ := box5 (w := w1) rfl (Below.refl (w1.heap.size + 1) (w1.alloc (.cells #[.int .u64 (k : Int), .int .u64 (n : Int), .int .u64 0, .int .i64 2, .slice A1 n1 c1] 25)))
    clear hb hb2 hr hw1 hw2 hn1 hc ho C1 CC
    unfold blkV at *
    go_wp2_with fail
    refine C2.out.mono ?_
    rintro e w2 ⟨rfl, hb⟩
    have hbE := B2.out.trans (hb.mono (by rw [HW.out.2.1]; have := HW.out.1; omega))
    obtain ⟨⟨z0, z1, z2, z3, z4⟩, f0, f1, f2, f3, f4⟩ := HZ.out _ hbE
    have BE := Lib.hid hbE
    clear g0 g1 g2 g3 g4
    cases R with
    | true =>
      obtain ⟨g0, g1, g2, g3, g4⟩ := box5 (w := w1) rfl (hb.mono (show w1.heap.size + 1 ≤ _ by rw [HW.out.2.1]; exact Nat.le_refl _))
      have RE := Lib.hid ((R2.out.below (hb.mono (by rw [HW.out.2.1]; omega))).more (show w1.heap.size ≤ w2.heap.size by have := hb.size; rw [HW.out.2.1] at this; omega))
      clear hbE hb
      go_wp2_with fail
      refine bodyPost_ret (v := .tuple #[.agg #[.int .u64 (k : Int), .int .u64 (n : Int), .int .u64 0, .int .i64 2, .slice A1 n1 c1], .int .i64 0]) (by simp [results, Tryz.results19, go_sem, z0, z1, z2, z3, z4]) rfl ⟨below_put5 (HB0.out.trans (BE.out.mono (by omega))) (Nat.le_succ _), ⟨k, n, 0, 2, el⟩, A1, n1, c1, 0, rfl, by rw [HM2.out]; rfl, ⟨HW.out.2.2, ?_⟩, ?_⟩
      · have := H4.out trivial; have := HN1.out; omega
      · exact Rd.put5 RE.out (by simp [World.setCell]) (RE.out.off5 (HZB.out _ BE.out))
    | false =>
      clear hbE hb
      go_wp2_with fail
      refine bodyPost_ret (v := .tuple #[blkV 0 0 0 0 none 0 0, .int .i64 50]) (by simp [results, Tryz.results19, go_sem, z0, z1, z2, z3, z4, blkV]) rfl ⟨below_put5 (HB0.out.trans (BE.out.mono (by omega))) (Nat.le_succ _), Blk.zero, none, 0, 0, 50, rfl, by rw [HM2.out]; rfl, ⟨Nat.le_refl _, by decide⟩, Rd.nil_⟩
  · have hezn : ez ≠ 0 := by omega
    have hez0 : (ez != 0) = true := by simpa using hezn
    have hM2 := HM.out
    rw [if_pos hezn] at hM2
    have HM2 := Lib.hid hM2
    clear hM2 HM hezn he2
    go_enter Tryz.func19, Tryz.ntmps19
    go_wp2_with fail
    refine C1.out.mono ?_
    rintro e w1 ⟨vv, rfl, ho, hb⟩
    obtain ⟨A1, c1, rfl, -, -, -⟩ := ho.rd
    have hbE := hb.mono (show w.heap.size + 1 + 1 ≤ _ by rw [HS0.out]; exact Nat.le_refl _)
    obtain ⟨⟨z0, z1, z2, z3, z4⟩, f0, f1, f2, f3, f4⟩ := HZ.out _ hbE
    have BE := Lib.hid hbE
    clear hbE hb ho
    go_wp2_with fail
    refine bodyPost_ret (v := .tuple #[blkV 0 0 0 0 none 0 0, .int .i64 ez]) (by simp [results, Tryz.results19, go_sem, z0, z1, z2, z3, z4, blkV]) rfl ⟨below_put5 (HB0.out.trans (BE.out.mono (by omega))) (Nat.le_succ _), Blk.zero, none, 0, 0, ez, rfl, HM2.out, ⟨Nat.le_refl _, by decide⟩, Rd.nil_⟩
end Go.Proofs.YtanbjifdcplmnaaGreatDoor
/- Bundles and blocks that come in as arguments, opened. (Made by gen/bun.py.) -/
namespace Go.Proofs.YtanbjifdcplmnaaGreatDoor
open Go.RowKit Go.ChangeShapes Go.WideShapes Go.ChangeAt Go.Deep

section
variable {H : Type} {enc : TypeId × Value → H} {w : World}
theorem cEid : Tryz.prog.cellsOf 46 = 4 := by kernel_rfl
theorem cStr : Tryz.prog.cellsOf 9 = 1 := by kernel_rfl
theorem cSch : Tryz.prog.cellsOf 44 = 1 := by kernel_rfl
theorem bU8 : Tryz.prog.bytesOf 5 = 1 := by kernel_rfl
theorem bBlk : 1 ≤ Tryz.prog.bytesOf 25 := of_decide_eq_true (by kernel_rfl)
theorem weightsAll_mem {e : TypeId} : ∀ (l : List (DataW H)) (i : Nat) (hi : i < l.length) (x : Nat), x ∈ DataW.weights Tryz.prog e (l[i]'hi) → x ∈ DataW.weightsAll Tryz.prog e l
  | [], _, hi, _, _ => absurd hi (Nat.not_lt_zero _)
  | d :: r, 0, _, x, h => by rw [DataW.weightsAll]; exact List.mem_append.2 (.inl h)
  | d :: r, i + 1, hi, x, h => by rw [DataW.weightsAll]; exact List.mem_append.2 (.inr (weightsAll_mem r i (by simpa using hi) x (by simpa using h)))

set_option maxRecDepth 100000 in
/-- An endpoint's cells that are read. -/
theorem open_eidc {fuel : Nat} {cs : List Value} {y : DataW H × List MemPlace} (h : DataW.trod enc Tryz.prog w 0 (fun _ => true) true fuel 46 cs = some y) (hw : ∀ x ∈ DataW.weights Tryz.prog 46 y.1, x ≤ reachBytes) :
    ∃ (sc : Int) (s : ByteArray) (n v : Nat), cs = [.int .i64 sc, .string s, .int .u64 (n : Int), .int .u64 (v : Int)] ∧ s.size ≤ 140737488355328 ∧ n < 18446744073709551616 ∧ v < 18446744073709551616 := by
  obtain ⟨xs, n, rfl, rfl, hl, hlen, hf⟩ := DataW.trod_struct Tryz.underlying46 h
  rw [cEid] at hl
  match xs, hlen, cs, hl with
  | [y0, y1, y2, y3], _, [c0, c1, c2, c3], _ =>
    have g0 := hf 0 _ rfl
    have g1 := hf 1 _ rfl
    have g2 := hf 2 _ rfl
    have g3 := hf 3 _ rfl
    simp [cStr, cSch, cellsU64] at g0 g1 g2 g3
    obtain ⟨sc, e0, rfl, w0⟩ := DataW.trod_int Tryz.underlying44 g0
    obtain ⟨s, e1, rfl, w1⟩ := DataW.trod_string Tryz.underlying9 g1
    obtain ⟨a2, e2, rfl, w2⟩ := DataW.trod_int Tryz.underlying23 g2
    obtain ⟨a3, e3, rfl, w3⟩ := DataW.trod_int Tryz.underlying23 g3
    simp only [List.cons.injEq, and_true] at e0 e1 e2 e3
    subst e0 e1 e2 e3
    have hz : s.size ≤ 140737488355328 := by
      have h := hw s.data.toList.length (by simp [DataW.weights, Tryz.underlying46, DataW.weightsEach])
      have e : s.data.toList.length = s.size := by simp
      rw [e] at h
      exact Nat.le_trans h (by decide)
    obtain ⟨q2, hq2, rfl⟩ : ∃ g : Nat, g < 18446744073709551616 ∧ a2 = (g : Int) := ⟨a2.toNat, by have h := wfU w2; omega, by have h := wfU w2; omega⟩
    obtain ⟨q3, hq3, rfl⟩ : ∃ g : Nat, g < 18446744073709551616 ∧ a3 = (g : Int) := ⟨a3.toNat, by have h := wfU w3; omega, by have h := wfU w3; omega⟩
    exact ⟨sc, s, q2, q3, rfl, hz, hq2, hq3⟩

set_option maxRecDepth 100000 in
/-- A block's cells that are read. -/
theorem open_blkc {fuel : Nat} {cs : List Value} {y : DataW H × List MemPlace} (h : DataW.trod enc Tryz.prog w 0 (fun _ => true) true fuel 25 cs = some y) (hw : ∀ x ∈ DataW.weights Tryz.prog 25 y.1, x ≤ reachBytes) :
    ∃ (b : Blk) (A : Option Addr) (nd cd : Nat), cs = [.int .u64 (b.typ : Int), .int .u64 (b.num : Int), .int .u64 (b.flg : Int), .int .i64 b.crc, .slice A nd cd] ∧ Bd b ∧ (nd ≤ cd ∧ nd ≤ 140737488355328) ∧ Rd w w.heap.size A nd b.dat := by
  obtain ⟨xs, n, rfl, rfl, hl, hlen, hf⟩ := DataW.trod_struct Tryz.underlying25 h
  rw [cellsBlk] at hl
  match xs, hlen, cs, hl with
  | [y0, y1, y2, y3, y4], _, [c0, c1, c2, c3, c4], _ =>
    have g0 := hf 0 _ rfl
    have g1 := hf 1 _ rfl
    have g2 := hf 2 _ rfl
    have g3 := hf 3 _ rfl
    have g4 := hf 4 _ rfl
    simp [cellsU64, cellsInt, cellsBy] at g0 g1 g2 g3 g4
    obtain ⟨a0, e0, rfl, w0⟩ := DataW.trod_int Tryz.underlying23 g0
    obtain ⟨a1, e1, rfl, w1⟩ := DataW.trod_int Tryz.underlying23 g1
    obtain ⟨a2, e2, rfl, w2⟩ := DataW.trod_int Tryz.underlying23 g2
    obtain ⟨a3, e3, rfl, w3⟩ := DataW.trod_int Tryz.underlying3 g3
    simp only [List.cons.injEq, and_true] at e0 e1 e2 e3
    subst e0 e1 e2 e3
    obtain ⟨q0, hq0, rfl⟩ : ∃ g : Nat, g < 18446744073709551616 ∧ a0 = (g : Int) := ⟨a0.toNat, by have h := wfU w0; omega, by have h := wfU w0; omega⟩
    obtain ⟨q1, hq1, rfl⟩ : ∃ g : Nat, g < 18446744073709551616 ∧ a1 = (g : Int) := ⟨a1.toNat, by have h := wfU w1; omega, by have h := wfU w1; omega⟩
    obtain ⟨q2, hq2, rfl⟩ : ∃ g : Nat, g < 18446744073709551616 ∧ a2 = (g : Int) := ⟨a2.toNat, by have h := wfU w2; omega, by have h := wfU w2; omega⟩
    rcases open_ints Tryz.underlying22 Tryz.underlying5 (by kernel_rfl) g4 with ⟨hcs, _⟩ | ⟨x, l, c, zs, hcs, _, hlc, hm, hz, hd, hcell, hwz⟩
    · simp only [List.cons.injEq, and_true] at hcs
      subst hcs
      exact ⟨⟨q0, q1, q2, a3, []⟩, none, 0, 0, rfl, ⟨hq0, hq1, hq2⟩, ⟨Nat.le_refl _, Nat.zero_le _⟩, Rd.nil_⟩
    · simp only [List.cons.injEq, and_true] at hcs
      subst hcs
      have hz' : zs.length = c := by simpa using hz
      have hb : c ≤ 140737488355328 := by
        subst hd
        have h := hw c (by
          simp [DataW.weights, Tryz.underlying25, Tryz.underlying22, DataW.weightsEach, bU8, lits]
          omega)
        exact Nat.le_trans h (by decide)
      exact ⟨⟨q0, q1, q2, a3, _⟩, some x, l, c, rfl, ⟨hq0, hq1, hq2⟩, ⟨hlc, by omega⟩, Rd.of_ints hlc hz' hcell hwz⟩

/-- Blocks chosen for each element. -/
theorem pick_blk : ∀ (n : Nat) (P : Nat → Blk → Prop), (∀ i, i < n → ∃ x, P i x) → ∃ l : List Blk, l.length = n ∧ ∀ i (hi : i < l.length), P i (l[i]'hi)
  | 0, P, _ => ⟨[], rfl, fun i hi => absurd hi (Nat.not_lt_zero _)⟩
  | n + 1, P, h => by
    obtain ⟨x, hx⟩ := h 0 (by omega)
    obtain ⟨l, h1, h2⟩ := pick_blk n (fun i => P (i + 1)) (fun i hi => h (i + 1) (by omega))
    refine ⟨x :: l, by simp [h1], fun i hi => ?_⟩
    cases i with
    | zero => exact hx
    | succ i => exact h2 i (by simpa using hi)

set_option maxRecDepth 100000 in
theorem arr18 {α : Type} {cs : Array α} (h : cs.size = 18) : ∃ c0 c1 c2 c3 c4 c5 c6 c7 c8 c9 c10 c11 c12 c13 c14 c15 c16 c17, cs = #[c0, c1, c2, c3, c4, c5, c6, c7, c8, c9, c10, c11, c12, c13, c14, c15, c16, c17] := by
  obtain ⟨l⟩ := cs
  match l, h with
  | [c0, c1, c2, c3, c4, c5, c6, c7, c8, c9, c10, c11, c12, c13, c14, c15, c16, c17], _ => exact ⟨c0, c1, c2, c3, c4, c5, c6, c7, c8, c9, c10, c11, c12, c13, c14, c15, c16, c17, rfl⟩
end

/-- An argument that is a block. -/
def BlkIn2 (w : World) (b : Blk) (A : Option Addr) (nd cd : Nat) : Prop := Bd b ∧ (nd ≤ cd ∧ nd ≤ 140737488355328) ∧ Rd w w.heap.size A nd b.dat
set_option maxRecDepth 100000 in
theorem open_blk2 {H : Type} {enc : TypeId × Value → H} {W : World} {r : Reach} {b0 : Nat} {v : Value} {d : DataW H} {p : List MemPlace} (hv : Value.okWide Tryz.prog W r b0 25 v) (h : DataW.Trod enc Tryz.prog W 0 (fun _ => true) true 25 v d p) (hw : ∀ x ∈ DataW.weights Tryz.prog 25 d, x ≤ reachBytes) :
    ∃ (b : Blk) (A : Option Addr) (nd cd : Nat), v = blkV b.typ b.num b.flg b.crc A nd cd ∧ BlkIn2 W b A nd cd := by
  obtain ⟨cs, rfl, hsz⟩ := okWide_struct Tryz.underlying25 hv
  obtain ⟨fuel, hf⟩ := h
  obtain ⟨b, A, nd, cd, hcs, h1⟩ := open_blkc hf hw
  have e : cs = #[.int .u64 (b.typ : Int), .int .u64 (b.num : Int), .int .u64 (b.flg : Int), .int .i64 b.crc, .slice A nd cd] := by have h := congrArg List.toArray hcs; simpa [Value.cells] using h
  subst e
  exact ⟨b, A, nd, cd, rfl, h1⟩
/-- An argument that is a bundle. -/
def BunIn (w : World) (h : BH) (l : List Blk) (A : Option Addr) (n c : Nat) : Prop := h.Bd ∧ RdL w w.heap.size A n l ∧ n ≤ c

end Go.Proofs.YtanbjifdcplmnaaGreatDoor
/- What the listed variables of layer 6's rows give: the handle of the type 'error', and the four sentinels of layer 4; and a world that holds them all. -/
namespace Go.Proofs.YtanbjifdcplmnaaGreatDoor
open Go.RowKit

def laidU : List (String × DataW Unit) := [("errors.errorType", Rows.laid_errors_errorType), ("fairlead/eid.errScheme", Rows.laid_fairlead_eid_errScheme), ("fairlead/eid.errName", Rows.laid_fairlead_eid_errName), ("fairlead/eid.errNumber", Rows.laid_fairlead_eid_errNumber), ("fairlead/eid.errForm", Rows.laid_fairlead_eid_errForm)]
def laidL : List (String × DataW Unit) := [("fairlead/eid.errScheme", Rows.laid_fairlead_eid_errScheme), ("fairlead/eid.errName", Rows.laid_fairlead_eid_errName), ("fairlead/eid.errNumber", Rows.laid_fairlead_eid_errNumber), ("fairlead/eid.errForm", Rows.laid_fairlead_eid_errForm)]

theorem gS : Tryz.prog.globalNamed "fairlead/eid.errScheme" = some 2 := by kernel_rfl
theorem gN : Tryz.prog.globalNamed "fairlead/eid.errName" = some 3 := by kernel_rfl
theorem gU : Tryz.prog.globalNamed "fairlead/eid.errNumber" = some 4 := by kernel_rfl
theorem gF : Tryz.prog.globalNamed "fairlead/eid.errForm" = some 1 := by kernel_rfl
theorem gtS : (Tryz.prog.globals[2]?).map (·.type) = some 60 := by kernel_rfl
theorem gtN : (Tryz.prog.globals[3]?).map (·.type) = some 60 := by kernel_rfl
theorem gtU : (Tryz.prog.globals[4]?).map (·.type) = some 60 := by kernel_rfl
theorem gtF : (Tryz.prog.globals[1]?).map (·.type) = some 60 := by kernel_rfl
theorem cellsEs : Tryz.prog.cellsOf 219 = 1 := by kernel_rfl
theorem cellsSt : Tryz.prog.cellsOf 9 = 1 := by kernel_rfl
theorem starE : "*" ++ "errors.errorString" = "*errors.errorString" := by decide
theorem rowE (u : TypeId) (h : Tryz.prog.typeName? 3 u = some "*errors.errorString") : u = 198 :=
  typeName_ptr_named (nm := "errors.errorString") (by rw [starE]; kernel_rfl) (by kernel_rfl) (by decide) u (by rw [starE]; exact h)

set_option maxRecDepth 1000000 in
/-- One sentinel's cell, and where its text lies. -/
theorem one_of {W : World} {n : String} {g : Nat} {text : List UInt8} {t : TypeId} {cs : Array Value} {fuel : Nat} {p : List MemPlace} {ps : List MemPlace}
    (hg : Tryz.prog.globalNamed n = some g) (ht : (Tryz.prog.globals[g]?).map (·.type) = some 60) (ht' : (Tryz.prog.globals[g]?).map (·.type) = some t) (hv : W.var? Tryz.prog n = some cs)
    (hd : DataW.trod (fun _ => ()) Tryz.prog W 0 (fun _ => true) false fuel t cs.toList = some (.iface "*errors.errorString" (.ptr (.agg [.lit (.string text)])), p))
    (hrows : ∀ b off, MemPlace.cell b off ∈ ps → (∃ c t, W.heap[b]? = some (.cells c t (0, 0))) ∧ ∀ u v, W.cell? ⟨b, off, none⟩ = some (.iface u v) → Value.okWide Tryz.prog W .any 0 u v)
    (hin : ∀ x ∈ MemPlace.row ⟨g, 0, none⟩ cs.size ++ p, x ∈ ps) :
    ∃ a : Addr, cs = #[snt a] ∧ p = MemPlace.row a 1 ∧ W.cell? ⟨g, 0, none⟩ = some (snt a) ∧ ∃ c t, W.heap[a.block]? = some (.cells c t (0, 0)) := by
  obtain rfl := Option.some.inj (ht.symm.trans ht')
  obtain ⟨l⟩ := cs
  have ok : ∀ u v, l = [.iface u v] → Value.okWide Tryz.prog W .any 0 u v := fun u v e => by
    subst e
    exact (hrows g 0 (hin _ (by simp [MemPlace.row]))).2 u v (by simpa using World.var?_cell hg hv 0)
  obtain ⟨a, s, rfl, hc, -, -, rfl⟩ := errorString_of_trod Tryz.underlying60 rowE Tryz.underlying198 Tryz.underlying219 rfl rfl Tryz.underlying9 cellsEs cellsSt hd ok
  obtain ⟨c, t, hb⟩ := (hrows a.block a.off (hin _ (by simp [MemPlace.row]))).1
  exact ⟨a, rfl, rfl, by simpa [snt] using World.var?_cell hg hv 0, c, t, hb⟩

set_option maxRecDepth 1000000 in
theorem lds_of {W : World} (h : laidMet Tryz.prog laidL W) : ∃ A, Lds A W := by
  obtain ⟨ps, hv, hnd, hrows⟩ := h
  unfold laidL at hv
  simp only [DataW.LaidVars] at hv
  obtain ⟨g6, t6, c6, f6, p6, q6, hg6, ht6, hw6, hd6, ⟨g7, t7, c7, f7, p7, q7, hg7, ht7, hw7, hd7, ⟨g8, t8, c8, f8, p8, q8, hg8, ht8, hw8, hd8, ⟨g9, t9, c9, f9, p9, q9, hg9, ht9, hw9, hd9, e9, e8'⟩, e8⟩, e7⟩, e6⟩ := hv
  obtain rfl := Option.some.inj (gS.symm.trans hg6)
  obtain rfl := Option.some.inj (gN.symm.trans hg7)
  obtain rfl := Option.some.inj (gU.symm.trans hg8)
  obtain rfl := Option.some.inj (gF.symm.trans hg9)
  subst e9 e8' e8 e7 e6
  obtain ⟨a6, rfl, rfl, k6, r6⟩ := one_of gS gtS ht6 hw6 hd6 hrows (fun x hx => by simp only [List.mem_append] at hx ⊢; rcases hx with h | h <;> simp only [h, true_or, or_true])
  obtain ⟨a7, rfl, rfl, k7, r7⟩ := one_of gN gtN ht7 hw7 hd7 hrows (fun x hx => by simp only [List.mem_append] at hx ⊢; rcases hx with h | h <;> simp only [h, true_or, or_true])
  obtain ⟨a8, rfl, rfl, k8, r8⟩ := one_of gU gtU ht8 hw8 hd8 hrows (fun x hx => by simp only [List.mem_append] at hx ⊢; rcases hx with h | h <;> simp only [h, true_or, or_true])
  obtain ⟨a9, rfl, rfl, k9, r9⟩ := one_of gF gtF ht9 hw9 hd9 hrows (fun x hx => by simp only [List.mem_append] at hx ⊢; rcases hx with h | h <;> simp only [h, true_or, or_true])
  have n5 := hnd
  simp [MemPlace.row] at n5
  refine ⟨⟨a6, a7, a8, a9⟩, k6, k7, k8, k9, ?_, ?_⟩
  · rintro a (rfl | rfl | rfl | rfl)
    · exact r6
    · exact r7
    · exact r8
    · exact r9
  · refine ⟨fun e => ?_, fun e => ?_, fun e => ?_, fun e => ?_, fun e => ?_, fun e => ?_⟩ <;> (dsimp only at e; subst e; simp at n5)

set_option maxRecDepth 1000000 in
theorem wd_of {W : World} (h : laidMetH Tryz.prog laidU W) : ∃ S, Wd S W := by
  have h' : laidMet Tryz.prog laidL W ∧ handlesMet Tryz.prog [("errors.errorType", Rows.laid_errors_errorType)] W := h
  obtain ⟨S, hS⟩ := lds_of h'.1
  exact ⟨S, hS, laidE_of (show laidMetH Tryz.prog [("errors.errorType", Rows.laid_errors_errorType)] W from ⟨⟨[], rfl, List.nodup_nil, fun _ _ h => by cases h⟩, h'.2⟩)⟩

noncomputable def laidW (os : Os) : World := (laidWorld os).layVars Tryz.prog laidL
set_option maxRecDepth 1000000 in
theorem laidW_met (os : Os) (args : Array Value) : laidMet Tryz.prog laidL ((laidW os).forCall (fun _ _ => 0) ⟨#[], args, []⟩).memory := by
  have e1 : (laidL.filter fun x => (laidL.map (·.1)).contains x.1) = laidL := List.filter_eq_self.2 fun x hx => List.contains_iff_mem.2 (List.mem_map.2 ⟨x, hx, rfl⟩)
  have e2 : (laidL.filter fun x => !(laidL.map (·.1)).contains x.1) = [] := List.filter_eq_nil_iff.2 fun x hx => by rw [List.contains_iff_mem.2 (List.mem_map.2 ⟨x, hx, rfl⟩)]; simp
  have h : laidMet Tryz.prog laidL (laidW os) := laidMet_layVars (w0 := laidWorld os) (laidL.map (·.1)) [] (by rw [e1]; rfl) (by rw [e1]; kernel_rfl) (by rw [e1]; kernel_rfl) (by rw [e2]; exact LaidIn.none)
  exact h.of_heap (by simp [World.memory, World.forCall, Input.heap])
set_option maxRecDepth 1000000 in
theorem laidW_metH (os : Os) (args : Array Value) : laidMetH Tryz.prog laidU ((laidW os).forCall (fun _ _ => 0) ⟨#[], args, []⟩).memory :=
  laidMetH_of_parts (laidW_met os args) (by kernel_rfl)
end Go.Proofs.YtanbjifdcplmnaaGreatDoor
