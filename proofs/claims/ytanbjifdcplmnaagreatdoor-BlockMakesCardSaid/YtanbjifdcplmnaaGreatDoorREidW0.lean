/- What Encode of layer 5 return. -/
import Derived.Test.YtanbjifdcplmnaaGreatDoorRBlkC
import Derived.Test.YtanbjifdcplmnaaGreatDoorRBlkE
import Derived.Test.YtanbjifdcplmnaaGreatDoorRBlkH
import Derived.Test.YtanbjifdcplmnaaGreatDoorRBlkL
import Derived.Test.YtanbjifdcplmnaaGreatDoorREidF
import Derived.Test.YtanbjifdcplmnaaGreatDoorREidQ
import Derived.Deep.RegionHeld3
namespace Go.Proofs.YtanbjifdcplmnaaGreatDoor
open Go.RowKit

set_option maxRecDepth 100000 in
set_option maxHeartbeats 2000000 in
theorem bencode_any (b : Blk) (A : Option Addr) (nd cd B : Nat) (w : World) (hb : Bd b) (hB : B ≤ w.heap.size) (h : Rd w B A nd b.dat) (hL : LaidE w) :
    Calls Tryz.prog 32 #[blkV b.typ b.num b.flg b.crc A nd cd] w fun e w' => ∃ v, e = .returned (.tuple #[v, .int .i64 (if blkOk b = true then 0 else 50)]) ∧ Ob w' w.heap.size 5 v (if blkOk b = true then blkW b else []) ∧ Below w.heap.size w w' := by
  have hB1 := (Below.refl w.heap.size w).alloc (Nat.le_refl _) (.cells #[.int .u64 (b.typ : Int), .int .u64 (b.num : Int), .int .u64 (b.flg : Int), .int .i64 b.crc, .slice A nd cd] 25)
  have C1 := Lib.hid (bcheck_any b.typ b.num b.flg b.crc A nd cd b.dat (w.alloc (.cells #[.int .u64 (b.typ : Int), .int .u64 (b.num : Int), .int .u64 (b.flg : Int), .int .i64 b.crc, .slice A nd cd] 25)) h.1)
  have C2 := Lib.hid (fun (hok : blkOk b = true) W (hw : Below w.heap.size w W) => bwrite_any b A nd cd B W hok hb (Nat.le_trans hB hw.size) (h.below (hw.mono hB)))
  have C3 := Lib.hid (fun z s W (hw : Below w.heap.size w W) => bnumber_any z s W (hL.below hw hL.lt))
  have q1 := fun (W : World) (u : TypeId) (x : Value) => run_neq_iface_nil (P := Tryz.prog) (w := W) 60 (by kernel_rfl) u x
  have HB1 := Lib.hid hB1
  clear h hb hB hL hB1
  have e1 : (⟨b.typ, b.num, b.flg, b.crc, b.dat⟩ : Blk) = b := rfl
  rw [e1] at C1
  clear e1
  generalize b.typ = T at *
  generalize b.num = N at *
  generalize b.flg = F at *
  generalize b.crc = CR at *
  generalize hR : blkOk b = R at *
  clear hR
  generalize blkW b = BW at *
  unfold blkV at *
  go_enter Tryz.func32, Tryz.ntmps32
  go_wp2_with fail
  refine C1.out.mono ?_
  rintro e w1 ⟨hb1, ⟨rfl, rfl⟩ | ⟨rfl, s, rfl⟩⟩
  · obtain ⟨x0, x1, x2, x3, x4⟩ := box5 rfl (hb1.mono (show w.heap.size + 1 ≤ _ by simp))
    have B1 := Lib.hid (HB1.out.trans (hb1.mono (le_alloc _ _)))
    clear hb1
    go_wp2_with fail
    refine (C2.out trivial _ B1.out).mono ?_
    rintro e w2 ⟨v2, rfl, ho2, hb2⟩
    have O2 := Lib.hid (ho2.low B1.out.size)
    have B2 := Lib.hid (B1.out.trans (hb2.mono B1.out.size))
    obtain ⟨A2, c2, rfl, -, -, -⟩ := ho2.rd
    clear ho2 hb2
    go_wp2_with fail
    go_ret2
    exact ⟨_, rfl, O2.out, B2.out⟩
  · have B1 := Lib.hid (HB1.out.trans (hb1.mono (le_alloc _ _)))
    clear hb1
    unfold bfl at *
    go_wp2_with fail
    refine (C3.out 50 s _ B1.out).mono ?_
    rintro e w2 ⟨rfl, hb2⟩
    have B2 := Lib.hid (B1.out.trans (hb2.mono B1.out.size))
    clear hb2
    go_wp2_with fail
    go_ret2
    exact ⟨_, rfl, Ob.nil_ _ _ _, B2.out⟩

end Go.Proofs.YtanbjifdcplmnaaGreatDoor
/- What Make, uintOf and contents of layer 5 return. -/
namespace Go.Proofs.YtanbjifdcplmnaaGreatDoor
open Go.RowKit

/-- What Make answers. -/
def makeB (k n : Nat) (x : Itm) : Blk × Int := if (enc x).2 ≠ 0 then (.zero, (enc x).2) else if blkOk ⟨k, n, 0, 2, (enc x).1⟩ = false then (.zero, 50) else (⟨k, n, 0, 2, (enc x).1⟩, 0)
def MakeB (k n : Nat) (x : Itm) (w : World) (e : Ending) (w' : World) : Prop := Below w.heap.size w w' ∧
  ∃ (b : Blk) (A : Option Addr) (nd cd : Nat) (z : Int), e = .returned (.tuple #[blkV b.typ b.num b.flg b.crc A nd cd, .int .i64 z]) ∧ makeB k n x = (b, z) ∧ (nd ≤ cd ∧ nd ≤ 140737488355328) ∧ Rd w' w'.heap.size A nd b.dat

set_option maxRecDepth 100000 in
set_option maxHeartbeats 8000000 in
theorem bmake_any (k n : Nat) (x : Itm) (v : Value) (w : World) (B : Nat) (hp : par x ≤ 1000000) (hlen : Fits x → (wri x).length ≤ 140737488355328) (hB : B ≤ w.heap.size) (h : RdI w B v x) (hL : LaidE w) :
    Calls Tryz.prog 18 #[.int .u64 (k : Int), .int .u64 (n : Int), v] w (MakeB k n x w) := by
  obtain ⟨kx, nx, A, nd, cd, AL, nl, cl, rfl⟩ := h.form
  have hz0 := fun (W : World) (hb : Below (w.heap.size + 1 + 1) ((w.alloc (.cells #[.int .i64 kx, .int .u64 (nx : Int), .slice A nd cd, .slice AL nl cl] 37)).alloc (.cells #[.int .u64 0, .int .u64 0, .int .u64 0, .int .i64 0, .slice none 0 0] 25)) W) => zero5 (g := w.heap.size + 1) (by simp) hb
  have HZ := Lib.hid hz0
  have HZB : Hid (∀ (W : World) (_ : Below (w.heap.size + 1 + 1) ((w.alloc (.cells #[.int .i64 kx, .int .u64 (nx : Int), .slice A nd cd, .slice AL nl cl] 37)).alloc (.cells #[.int .u64 0, .int .u64 0, .int .u64 0, .int .i64 0, .slice none 0 0] 25)) W), W.heap[w.heap.size + 1]? = some (.cells #[.int .u64 0, .int .u64 0, .int .u64 0, .int .i64 0, .slice none 0 0] 25 (0, 0))) := fun W hb => by
    rw [hb.block (w.heap.size + 1) (Nat.lt_succ_self _)]
    have := heap_alloc_new (w.alloc (.cells #[.int .i64 kx, .int .u64 (nx : Int), .slice A nd cd, .slice AL nl cl] 37)) (.cells #[.int .u64 0, .int .u64 0, .int .u64 0, .int .i64 0, .slice none 0 0] 25)
    simpa using this
  have HB0 : Hid (Below w.heap.size w ((w.alloc (.cells #[.int .i64 kx, .int .u64 (nx : Int), .slice A nd cd, .slice AL nl cl] 37)).alloc (.cells #[.int .u64 0, .int .u64 0, .int .u64 0, .int .i64 0, .slice none 0 0] 25))) := ((Below.refl _ _).alloc (Nat.le_refl _) _).alloc (le_alloc _ _) _
  have hs0 : ((w.alloc (.cells #[.int .i64 kx, .int .u64 (nx : Int), .slice A nd cd, .slice AL nl cl] 37)).alloc (.cells #[.int .u64 0, .int .u64 0, .int .u64 0, .int .i64 0, .slice none 0 0] 25)).heap.size = w.heap.size + 2 := by simp
  have HS0 := Lib.hid hs0
  have C1 := Lib.hid (cencode_any x _ _ B hp hlen (by rw [hs0]; omega) (h.below (HB0.out.mono hB)) (hL.below HB0.out hL.lt))
  have HL := Lib.hid (hL.below HB0.out hL.lt)
  have HLT := Lib.hid hL.lt
  have HM : Hid (makeB k n x = if (enc x).2 ≠ 0 then (.zero, (enc x).2) else if blkOk ⟨k, n, 0, 2, (enc x).1⟩ = false then (.zero, 50) else (⟨k, n, 0, 2, (enc x).1⟩, 0)) := rfl
  have q1 := fun (W : World) (u : TypeId) (x : Value) => run_neq_iface_nil (P := Tryz.prog) (w := W) 60 (by kernel_rfl) u x
  have hec := enc_cases x
  clear h hp hlen hB hL hz0 hs0
  generalize hen : enc x = en at *
  obtain ⟨el, ez⟩ := en
  clear hen
  simp only at *
  rcases hec with ⟨-, he⟩ | ⟨-, he1, he2⟩
  · obtain rfl : ez = 0 := by injection he
    clear he
    have hM2 := HM.out
    rw [if_neg (by simp)] at hM2
    have HM2 := Lib.hid hM2
    clear hM2 HM
    have CC := Lib.hid (fun (A : Option Addr) (nd cd : Nat) (W : World) (hd : el.length = nd) => bcheck_any k n 0 2 A nd cd el W hd)
    have CN := Lib.hid (fun s W (hb : Below w.heap.size w W) => bnumber_any 50 s W (LaidE.below (B := w.heap.size) (w := w) (by have h := HL.out; exact (HB0.out.cell (p := ⟨0, 0, none⟩) HLT.out).symm.trans h) hb HLT.out))
    have H4 : Hid (blkOk ⟨k, n, 0, 2, el⟩ = true → el.length ≤ 4096) := fun h => (blkOk_iff.1 h).2.2.2.2
    generalize blkOk ⟨k, n, 0, 2, el⟩ = R at *
    go_enter Tryz.func18, Tryz.ntmps18
    go_wp2_with fail
    refine C1.out.mono ?_
    rintro e w1 ⟨A1, n1, c1, rfl, hr, hc, hb⟩
    have hw1 : w.heap.size + 2 ≤ w1.heap.size := by have := hb.size; rw [HS0.out] at this; exact this
    have hn1 : n1 = el.length := hr.1.symm
    have hb2 := (hb.mono (show w.heap.size + 1 + 1 ≤ _ by rw [HS0.out]; exact Nat.le_refl _)).alloc hw1 (.cells #[.int .u64 (k : Int), .int .u64 (n : Int), .int .u64 0, .int .i64 2, .slice A1 n1 c1] 25)
    have hw2 : (w1.alloc (.cells #[.int .u64 (k : Int), .int .u64 (n : Int), .int .u64 0, .int .i64 2, .slice A1 n1 c1] 25)).heap.size = w1.heap.size + 1 := by simp
    have C2 := Lib.hid (CC.out A1 n1 c1 (w1.alloc (.cells #[.int .u64 (k : Int), .int .u64 (n : Int), .int .u64 0, .int .i64 2, .slice A1 n1 c1] 25)) hr.1)
    have B2 := Lib.hid hb2
    have R2 := Lib.hid (hr.alloc (Nat.le_refl _) (.cells #[.int .u64 (k : Int), .int .u64 (n : Int), .int .u64 0, .int .i64 2, .slice A1 n1 c1] 25))
    have HW := Lib.hid (And.intro hw1 (And.intro hw2 hc))
    have HN1 := Lib.hid hn1
    clear hb hb2 hr hw1 hw2 hn1 hc C1
    unfold blkV at *
    go_wp2_with fail
    refine C2.out.mono ?_
    rintro e w2 ⟨hb, ⟨rfl, rfl⟩ | ⟨rfl, s, rfl⟩⟩
    · have hbE := B2.out.trans (hb.mono (by rw [HW.out.2.1]; have := HW.out.1; omega))
      obtain ⟨⟨z0, z1, z2, z3, z4⟩, f0, f1, f2, f3, f4⟩ := HZ.out _ hbE
      obtain ⟨g0, g1, g2, g3, g4⟩ := box5 rfl (hb.mono (show w1.heap.size + 1 ≤ _ by rw [HW.out.2.1]; exact Nat.le_refl _))
      have BE := Lib.hid hbE
      have RE := Lib.hid ((R2.out.below (hb.mono (by rw [HW.out.2.1]; omega))).more (show w1.heap.size ≤ w2.heap.size by have := hb.size; rw [HW.out.2.1] at this; omega))
      clear hbE hb
      go_wp2_with fail
      refine bodyPost_ret (v := .tuple #[.agg #[.int .u64 (k : Int), .int .u64 (n : Int), .int .u64 0, .int .i64 2, .slice A1 n1 c1], .int .i64 0]) (by simp [results, Tryz.results18, go_sem, z0, z1, z2, z3, z4]) rfl ⟨below_put5 (HB0.out.trans (BE.out.mono (by omega))) (Nat.le_succ _), ⟨k, n, 0, 2, el⟩, A1, n1, c1, 0, rfl, by rw [HM2.out]; rfl, ⟨HW.out.2.2, ?_⟩, ?_⟩
      · have := H4.out trivial; have := HN1.out; omega
      · exact Rd.put5 RE.out (by simp [World.setCell]) (RE.out.off5 (HZB.out _ BE.out))
    · obtain ⟨g0, g1, g2, g3, g4⟩ := box5 rfl (hb.mono (show w1.heap.size + 1 ≤ _ by rw [HW.out.2.1]; exact Nat.le_refl _))
      have hb3 := B2.out.trans (hb.mono (by rw [HW.out.2.1]; have := HW.out.1; omega))
      have B3 := Lib.hid hb3
      have C4 := Lib.hid (CN.out s w2 (HB0.out.trans (hb3.mono (by omega))))
      clear hb hb3
      unfold bfl at *
      go_wp2_with fail
      refine C4.out.mono ?_
      rintro e w3 ⟨rfl, hb⟩
      have hbE := B3.out.trans (hb.mono (by have := B3.out.size; have := HS0.out; omega))
      obtain ⟨⟨z0, z1, z2, z3, z4⟩, f0, f1, f2, f3, f4⟩ := HZ.out _ hbE
      have BE := Lib.hid hbE
      clear hbE hb g0 g1 g2 g3 g4
      go_wp2_with fail
      refine bodyPost_ret (v := .tuple #[blkV 0 0 0 0 none 0 0, .int .i64 50]) (by simp [results, Tryz.results18, go_sem, z0, z1, z2, z3, z4, blkV]) rfl ⟨below_put5 (HB0.out.trans (BE.out.mono (by omega))) (Nat.le_succ _), Blk.zero, none, 0, 0, 50, rfl, by rw [HM2.out]; rfl, ⟨Nat.le_refl _, by decide⟩, Rd.nil_⟩
  · have hezn : ez ≠ 0 := by omega
    have hez0 : (ez == 0) = false := by simpa using hezn
    have hM2 := HM.out
    rw [if_pos hezn] at hM2
    have HM2 := Lib.hid hM2
    clear hM2 HM hezn he2
    go_enter Tryz.func18, Tryz.ntmps18
    go_wp2_with fail
    refine C1.out.mono ?_
    rintro e w1 ⟨A1, n1, c1, rfl, hr, hc, hb⟩
    have hbE := hb.mono (show w.heap.size + 1 + 1 ≤ _ by rw [HS0.out]; exact Nat.le_refl _)
    obtain ⟨⟨z0, z1, z2, z3, z4⟩, f0, f1, f2, f3, f4⟩ := HZ.out _ hbE
    have BE := Lib.hid hbE
    clear hbE hb hr hc
    go_wp2_with fail
    refine bodyPost_ret (v := .tuple #[blkV 0 0 0 0 none 0 0, .int .i64 ez]) (by simp [results, Tryz.results18, go_sem, z0, z1, z2, z3, z4, blkV]) rfl ⟨below_put5 (HB0.out.trans (BE.out.mono (by omega))) (Nat.le_succ _), Blk.zero, none, 0, 0, ez, rfl, HM2.out, ⟨Nat.le_refl _, by decide⟩, Rd.nil_⟩
end Go.Proofs.YtanbjifdcplmnaaGreatDoor
/- What Hops of layer 5 returns, of a block of hops. -/
namespace Go.Proofs.YtanbjifdcplmnaaGreatDoor
open Go.RowKit

set_option maxRecDepth 100000 in
set_option maxHeartbeats 8000000 in
theorem hops_ok (t n f : Nat) (c : Int) (A : Option Addr) (nd cd B : Nat) (d : List UInt8) (m a q : Nat) (e0 d0 d1 : List UInt8) (l0 l1 : List Itm) (w : World) (hB : B ≤ w.heap.size) (h : Rd w B A nd d) (hn : nd ≤ 140737488355328) (hc : nd ≤ cd) (hL : LaidE w)
    (hx : contB t 10 d = some (.mk 4 m e0 [.mk 0 a d0 l0, .mk 0 q d1 l1])) (h1 : 1 ≤ a) (h2 : a ≤ 255) :
    Calls Tryz.prog 12 #[blkV t n f c A nd cd] w fun e w' => e = .returned (.tuple #[.int .u64 (a : Int), .int .u64 (q : Int), .bool true]) ∧ Below w.heap.size w w' := by
  have HB0 := Lib.hid ((Below.refl w.heap.size w).alloc (Nat.le_refl _) (.cells #[.int .u64 (t : Int), .int .u64 (n : Int), .int .u64 (f : Int), .int .i64 c, .slice A nd cd] 25))
  have C1 := Lib.hid (contents_any t n f 10 c A nd cd B d (w.alloc (.cells #[.int .u64 (t : Int), .int .u64 (n : Int), .int .u64 (f : Int), .int .i64 c, .slice A nd cd] 25)) (Nat.le_trans hB (le_alloc _ _)) (h.alloc hB _) hn hc (hL.below HB0.out hL.lt))
  rw [hx] at C1
  have hs0 : (w.alloc (.cells #[.int .u64 (t : Int), .int .u64 (n : Int), .int .u64 (f : Int), .int .i64 c, .slice A nd cd] 25)).heap.size = w.heap.size + 1 := by simp
  have h1i : ¬ (a : Int) < 1 := by omega
  have h2i : ¬ 255 < (a : Int) := by omega
  have h1j : 1 ≤ (a : Int) := by omega
  have h2j : (a : Int) ≤ 255 := by omega
  have CU := Lib.hid (fun (n : Nat) (v2 v3 : Value) (W : World) (g2 : v2.oneCell' = true) (g3 : v3.oneCell' = true) => uintof_any 0 n v2 v3 true W g2 g3 rfl)
  clear h hB hn hc hL hx h1 h2
  unfold blkV at *
  go_enter Tryz.func12, Tryz.ntmps12
  go_wp2_with fail
  refine C1.out.mono ?_
  rintro e w1 ⟨hb, ⟨v, x, hxx, rfl, hv⟩ | ⟨hxx, -⟩⟩
  case inr => cases hxx
  obtain rfl := Option.some.inj hxx
  rw [hs0] at hb
  have hv' := hv.unmask
  obtain ⟨A1, nd1, cd1, AL, cl1, rfl, -, -, -, -, hcl, hrow⟩ := hv'.open
  obtain ⟨b, o, rfl, hbb, hs⟩ := hrow (by simp)
  rw [RdIs, RdIs] at hs
  obtain ⟨⟨a00, a01, a02, a03, i0, i1, i2, i3, x0⟩, ⟨a10, a11, a12, a13, j0, j1, j2, j3, x1⟩, -⟩ := hs
  obtain ⟨_, _, _, _, _, hy0, -, -, -, -, -, -⟩ := x0.open
  obtain ⟨_, _, _, _, _, hy1, -, -, -, -, -, -⟩ := x1.open
  injection hy0 with hy0
  injection hy1 with hy1
  simp only [Array.mk.injEq, List.cons.injEq, and_true] at hy0 hy1
  obtain ⟨rfl, rfl, rfl, rfl⟩ := hy0
  obtain ⟨rfl, rfl, rfl, rfl⟩ := hy1
  simp only [List.length_cons, List.length_nil, Nat.zero_add] at hcl ⊢
  have hw1 : w.heap.size + 1 ≤ w1.heap.size := by have := hb.size; rw [hs0] at this; exact this
  have B1 := Lib.hid ((HB0.out.trans (hb.mono (Nat.le_succ _))))
  clear hb hv hv' hrow hxx x0 x1 C1
  generalize l0.length = L0 at *
  generalize l1.length = L1 at *
  have hb2 : Below w1.heap.size w1 (w1.alloc (.cells #[.int .i64 4, .int .u64 (m : Int), .slice A1 nd1 cd1, .slice (some ⟨b, o, none⟩) 2 cl1] 37)) := by exact (Below.refl _ _).alloc (Nat.le_refl _) _
  have k : ∀ (W : World) (_ : Below w1.heap.size w1 W) (j : Nat) (u : Value), w1.cell? ⟨b, j, none⟩ = some u → W.cell? ⟨b, j, none⟩ = some u := fun W hW j u hc => (hW.cell (p := ⟨b, j, none⟩) hbb).trans hc
  have t3 : (w1.alloc (.cells #[.int .i64 4, .int .u64 (m : Int), .slice A1 nd1 cd1, .slice (some ⟨b, o, none⟩) 2 cl1] 37)).cell? ⟨w1.heap.size, 3, none⟩ = some (.slice (some ⟨b, o, none⟩) 2 cl1) := by rw [World.cell?_alloc_at _ _ _ _ rfl]; rfl
  have t0 : (w1.alloc (.cells #[.int .i64 4, .int .u64 (m : Int), .slice A1 nd1 cd1, .slice (some ⟨b, o, none⟩) 2 cl1] 37)).cell? ⟨w1.heap.size, 0, none⟩ = some (.int .i64 4) := by rw [World.cell?_alloc_at _ _ _ _ rfl]; rfl
  have T3 := Lib.hid t3
  have a0 := k _ hb2 _ _ i0
  have a1 := k _ hb2 _ _ i1
  have a2 := k _ hb2 _ _ i2
  have a3 := k _ hb2 _ _ i3
  have hz2 : (w1.alloc (.cells #[.int .i64 4, .int .u64 (m : Int), .slice A1 nd1 cd1, .slice (some ⟨b, o, none⟩) 2 cl1] 37)).heap.size = w1.heap.size + 1 := by simp
  have HB2 := Lib.hid hb2
  have HJ := Lib.hid (And.intro j0 (And.intro j1 (And.intro j2 j3)))
  have HK := Lib.hid k
  have HZ2 := Lib.hid hz2
  clear i0 i1 i2 i3 j0 j1 j2 j3 k hb2 hz2
  go_wp2_with fail
  refine (CU.out a (.slice _ _ _) (.slice _ _ _) _ rfl rfl).mono ?_
  rintro e w3 ⟨rfl, hb3⟩
  have b3 := HB2.out.trans (hb3.mono (by have := HZ2.out; omega))
  have t3' := (hb3.cell (p := ⟨w1.heap.size, 3, none⟩) (by have := HZ2.out; show w1.heap.size < _; omega)).trans T3.out
  have c0 := HK.out _ b3 _ _ HJ.out.1
  have c1 := HK.out _ b3 _ _ HJ.out.2.1
  have c2 := HK.out _ b3 _ _ HJ.out.2.2.1
  have c3 := HK.out _ b3 _ _ HJ.out.2.2.2
  have B3 := Lib.hid b3
  clear hb3 b3 t3 t0 a0 a1 a2 a3
  go_wp2_with fail
  refine (CU.out q (.slice _ _ _) (.slice _ _ _) _ rfl rfl).mono ?_
  rintro e w4 ⟨rfl, hb4⟩
  have B4 := Lib.hid (B3.out.trans (hb4.mono B3.out.size))
  clear hb4
  go_wp2_with fail
  exact bodyPost_ret (v := .tuple #[.int .u64 (a : Int), .int .u64 (q : Int), .bool true]) (by simp [results, Tryz.results12, go_sem]) rfl ⟨rfl, B1.out.trans (B4.out.mono (by omega))⟩
end Go.Proofs.YtanbjifdcplmnaaGreatDoor
/- Two endpoints compared whole. -/
namespace Go.Proofs.YtanbjifdcplmnaaGreatDoor
open Go.RowKit

set_option maxRecDepth 100000 in
set_option maxHeartbeats 2000000 in
theorem eql_eid (sc sc' : Int) (s s' : ByteArray) (n n' v v' : Int) (be : Bool) (hbe : be = true ↔ (sc = sc' ∧ s = s' ∧ n = n' ∧ v = v')) (w : World) :
    (binOp .eql 46 (.agg #[.int .i64 sc, .string s, .int .u64 n, .int .u64 v]) (.agg #[.int .i64 sc', .string s', .int .u64 n', .int .u64 v'])).run Tryz.prog w = .ok (.bool be) w := by
  have hss : s.toList = s'.toList ↔ s = s' := by
    rw [Lib.toList_data, Lib.toList_data]
    constructor
    · intro h; rw [← strL_data s, h, strL_data]
    · rintro rfl; rfl
  go_simp
  cases be with
  | true =>
    obtain ⟨h1, h2, h3, h4⟩ := hbe.1 rfl
    rw [if_pos h1, if_pos h2, if_pos h3, if_pos h4]
  | false =>
    split
    · split
      · split
        · split
          · rename_i h1 h2 h3 h4
            have := hbe.2 ⟨h1, h2, h3, h4⟩
            cases this
          · rfl
        · rfl
      · rfl
    · rfl
end Go.Proofs.YtanbjifdcplmnaaGreatDoor
