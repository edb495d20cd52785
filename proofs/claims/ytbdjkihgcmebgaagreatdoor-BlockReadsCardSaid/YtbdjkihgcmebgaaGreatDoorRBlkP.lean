/- A block that comes in as an argument, opened. -/
import Derived.Test.YtbdjkihgcmebgaaGreatDoorRBlkD
import Derived.Test.YtbdjkihgcmebgaaGreatDoorRBlkE
import Derived.Test.YtbdjkihgcmebgaaGreatDoorRBlkI
import Derived.Test.YtbdjkihgcmebgaaGreatDoorRCborD2
import Derived.Test.YtbdjkihgcmebgaaGreatDoorREidC3
import Derived.Test.YtbdjkihgcmebgaaGreatDoorRKDec2
import Derived.Test.YtbdjkihgcmebgaaGreatDoorRKEnc
import Derived.Test.YtbdjkihgcmebgaaGreatDoorRRfR
import Derived.Test.YtbdjkihgcmebgaaGreatDoorRSame
import Derived.Lib.SmallJoins
import Derived.ChangeArms
import Derived.ChangeSlices
import Derived.OpenShut
import Derived.Deep.RegionHeld3
import Derived.BigQuiet
import Derived.Deep.QuietTactic
namespace Go.Proofs.YtbdjkihgcmebgaaGreatDoor
open Go.RowKit Go.ChangeShapes Go.WideShapes Go.ChangeAt

theorem cellsBlk : Tryz.prog.cellsOf 25 = 5 := by kernel_rfl
theorem cellsU64 : Tryz.prog.cellsOf 23 = 1 := by kernel_rfl
theorem cellsInt : Tryz.prog.cellsOf 3 = 1 := by kernel_rfl
theorem cellsBy : Tryz.prog.cellsOf 22 = 1 := by kernel_rfl
theorem arr5 {α : Type} {cs : Array α} (h : cs.size = 5) : ∃ c0 c1 c2 c3 c4, cs = #[c0, c1, c2, c3, c4] := by
  obtain ⟨l⟩ := cs
  match l, h with
  | [c0, c1, c2, c3, c4], _ => exact ⟨c0, c1, c2, c3, c4, rfl⟩
theorem wfU {n : Int} (h : (Lit.int .u64 n).wf = true) : 0 ≤ n ∧ n < 18446744073709551616 := by
  simp [Lit.wf, IntKind.min, IntKind.max, IntKind.signed, IntKind.bits] at h
  omega

/-- An argument that is a block. -/
def BlkIn (w : World) (b : Blk) (A : Option Addr) (nd cd : Nat) : Prop := Bd b ∧ (Lit.int .i64 b.crc).wf = true ∧ nd ≤ cd ∧ Rd w w.heap.size A nd b.dat

set_option maxRecDepth 100000 in
set_option maxHeartbeats 1000000 in
theorem open_blk {H : Type} {enc : TypeId × Value → H} {W : World} {r : Reach} {b0 : Nat} {v : Value} {d : DataW H} {p : List MemPlace} (hv : Value.okWide Tryz.prog W r b0 25 v) (h : DataW.Trod enc Tryz.prog W 0 (fun _ => true) true 25 v d p) :
    ∃ (b : Blk) (A : Option Addr) (nd cd : Nat), v = blkV b.typ b.num b.flg b.crc A nd cd ∧ BlkIn W b A nd cd := by
  obtain ⟨cs, rfl, hsz⟩ := okWide_struct Tryz.underlying25 hv
  obtain ⟨c0, c1, c2, c3, c4, rfl⟩ := arr5 (hsz.trans cellsBlk)
  clear hv hsz
  obtain ⟨fuel, hf⟩ := h
  obtain ⟨xs, n, _, -, hl, hlen, hfs⟩ := DataW.trod_struct Tryz.underlying25 hf
  clear hf hl
  obtain ⟨y0, y1, y2, y3, y4, rfl⟩ : ∃ y0 y1 y2 y3 y4, xs = [y0, y1, y2, y3, y4] := by
    match xs, hlen with
    | [y0, y1, y2, y3, y4], _ => exact ⟨y0, y1, y2, y3, y4, rfl⟩
  have k0 := hfs 0 _ rfl
  have k1 := hfs 1 _ rfl
  have k2 := hfs 2 _ rfl
  have k3 := hfs 3 _ rfl
  have k4 := hfs 4 _ rfl
  simp [Value.cells, cellsU64, cellsInt, cellsBy] at k0 k1 k2 k3 k4
  obtain ⟨a0, e0, rfl, w0⟩ := DataW.trod_int Tryz.underlying23 k0
  obtain ⟨a1, e1, rfl, w1⟩ := DataW.trod_int Tryz.underlying23 k1
  obtain ⟨a2, e2, rfl, w2⟩ := DataW.trod_int Tryz.underlying23 k2
  obtain ⟨a3, e3, rfl, w3⟩ := DataW.trod_int Tryz.underlying3 k3
  simp only [List.cons.injEq, and_true] at e0 e1 e2 e3
  subst e0 e1 e2 e3
  obtain ⟨g0, hg0, rfl⟩ : ∃ g : Nat, g < 18446744073709551616 ∧ a0 = (g : Int) := ⟨a0.toNat, by have h := wfU w0; omega, by have h := wfU w0; omega⟩
  obtain ⟨g1, hg1, rfl⟩ : ∃ g : Nat, g < 18446744073709551616 ∧ a1 = (g : Int) := ⟨a1.toNat, by have h := wfU w1; omega, by have h := wfU w1; omega⟩
  obtain ⟨g2, hg2, rfl⟩ : ∃ g : Nat, g < 18446744073709551616 ∧ a2 = (g : Int) := ⟨a2.toNat, by have h := wfU w2; omega, by have h := wfU w2; omega⟩
  rcases open_ints Tryz.underlying22 Tryz.underlying5 (by kernel_rfl) k4 with ⟨hcs, _⟩ | ⟨x, l, c, zs, hcs, _, hlc, hm, hz, hd, hcell, hwz⟩
  · simp only [List.cons.injEq, and_true] at hcs
    subst hcs
    exact ⟨⟨g0, g1, g2, a3, []⟩, none, 0, 0, rfl, ⟨hg0, hg1, hg2⟩, w3, Nat.le_refl _, Rd.nil_⟩
  · simp only [List.cons.injEq, and_true] at hcs
    subst hcs
    have hz' : zs.length = c := by simpa using hz
    exact ⟨⟨g0, g1, g2, a3, _⟩, some x, l, c, rfl, ⟨hg0, hg1, hg2⟩, w3, hlc, Rd.of_ints hlc hz' hcell hwz⟩
end Go.Proofs.YtbdjkihgcmebgaaGreatDoor
/- What Encode of layer 5 return. -/
namespace Go.Proofs.YtbdjkihgcmebgaaGreatDoor
open Go.RowKit

set_option maxRecDepth 100000 in
set_option maxHeartbeats 2000000 in
theorem bencode_any (b : Blk) (A : Option Addr) (nd cd B : Nat) (w : World) (hb : Bd b) (hB : B ≤ w.heap.size) (h : Rd w B A nd b.dat) (hL : LaidE w) :
    Calls Tryz.prog 17 #[blkV b.typ b.num b.flg b.crc A nd cd] w fun e w' => ∃ v, e = .returned (.tuple #[v, .int .i64 (if blkOk b = true then 0 else 50)]) ∧ Ob w' w.heap.size 5 v (if blkOk b = true then blkW b else []) ∧ Below w.heap.size w w' := by
  have hB1 := (Below.refl w.heap.size w).alloc (Nat.le_refl _) (.cells #[.int .u64 (b.typ : Int), .int .u64 (b.num : Int), .int .u64 (b.flg : Int), .int .i64 b.crc, .slice A nd cd] 25)
  have C1 := Lib.hid (bcheck_any b.typ b.num b.flg b.crc A nd cd b.dat (w.alloc (.cells #[.int .u64 (b.typ : Int), .int .u64 (b.num : Int), .int .u64 (b.flg : Int), .int .i64 b.crc, .slice A nd cd] 25)) h.1)
  have C2 := Lib.hid (fun (hok : blkOk b = true) W (hw : Below w.heap.size w W) => bwrite_any b A nd cd B W hok hb (Nat.le_trans hB hw.size) (h.below (hw.mono hB)))
  have C3 := Lib.hid (fun z s W (hw : Below w.heap.size w W) => bnumber_any z s W (hL.below hw hL.lt))
  have q1 := fun (W : World) (u : TypeId) (x : Value) => run_neq_iface_nil (P := Tryz.prog) (w := W) 35 (by kernel_rfl) u x
  have HB1 := Lib.hid hB1
  clear h hb hB hL hB1
  have e1 : (⟨b.typ, b.num, b.flg, b.crc, b.dat⟩ : Blk) = b := rfl
  rw [e1] at C1
  clear e1
  generalize b.typ = T at *
  generalize b.num = N at *
  generalize b.flg = F at *
  generalize b.crc = CR at *
  generalize hR : blkOk b = R at *
  clear hR
  generalize blkW b = BW at *
  unfold blkV at *
  go_enter Tryz.func17, Tryz.ntmps17
  go_wp2_with fail
  refine C1.out.mono ?_
  rintro e w1 ⟨hb1, ⟨rfl, rfl⟩ | ⟨rfl, s, rfl⟩⟩
  · obtain ⟨x0, x1, x2, x3, x4⟩ := box5 rfl (hb1.mono (show w.heap.size + 1 ≤ _ by simp))
    have B1 := Lib.hid (HB1.out.trans (hb1.mono (le_alloc _ _)))
    clear hb1
    go_wp2_with fail
    refine (C2.out trivial _ B1.out).mono ?_
    rintro e w2 ⟨v2, rfl, ho2, hb2⟩
    have O2 := Lib.hid (ho2.low B1.out.size)
    have B2 := Lib.hid (B1.out.trans (hb2.mono B1.out.size))
    obtain ⟨A2, c2, rfl, -, -, -⟩ := ho2.rd
    clear ho2 hb2
    go_wp2_with fail
    go_ret2
    exact ⟨_, rfl, O2.out, B2.out⟩
  · have B1 := Lib.hid (HB1.out.trans (hb1.mono (le_alloc _ _)))
    clear hb1
    unfold bfl at *
    go_wp2_with fail
    refine (C3.out 50 s _ B1.out).mono ?_
    rintro e w2 ⟨rfl, hb2⟩
    have B2 := Lib.hid (B1.out.trans (hb2.mono B1.out.size))
    clear hb2
    go_wp2_with fail
    go_ret2
    exact ⟨_, rfl, Ob.nil_ _ _ _, B2.out⟩

end Go.Proofs.YtbdjkihgcmebgaaGreatDoor
/- Decode of layer 3, its item read in no block that was there. -/
namespace Go.Proofs.YtbdjkihgcmebgaaGreatDoor
open Go.RowKit

def GivesDL (x : Itm) (n e : Int) (w : World) (en : Ending) (w' : World) : Prop := ∃ v, en = .returned (.tuple #[v, .int .i64 n, .int .i64 e]) ∧ RdI (mask (lows w.heap.size) w') w'.heap.size v x ∧ Below w.heap.size w w'
theorem RdI.maskd {S : Nat → Bool} {W : World} {B : Nat} {v : Value} {x : Itm} (h : RdI (mask S W) B v x) : RdI (mask S W.drew) B v x := RdI.keep (w := mask S W) (w' := mask S W.drew) (fun _ _ => rfl) h

set_option maxRecDepth 100000 in
set_option maxHeartbeats 4000000 in
theorem cdecodeL_any (A : Option Addr) (n c B : Nat) (l : List UInt8) (w : World) (hB : B ≤ w.heap.size) (h : Rd w B A n l) (hn : n ≤ 140737488355328) (hc : n ≤ c) (hL : LaidE w) :
    Calls Tryz.prog 22 #[.slice A n c] w (GivesDL (decode l).1 (decode l).2.1 (decode l).2.2 w) := by
  have hst : RSt ((w.alloc (.cells #[.int .i64 0, .int .u64 0, .slice none 0 0, .slice none 0 0] 42)).alloc (.cells #[.slice A n c, .int .i64 0, .int .i64 0, .int .i64 0] 83)) (w.heap.size + 1) A n c l 0 0 0 :=
    ⟨by simp, by simp, by simp, by simp, by simp, by simp, by simp, ((h.alloc hB _).alloc (Nat.le_trans hB (le_alloc _ _)) _).more (by omega), Nat.zero_le _, hn, hc⟩
  have C1 := Lib.hid (item_all 8 _ _ _ _ _ _ _ _ _ (by rfl) (Nat.zero_le _) hst)
  obtain ⟨r, hr⟩ : ∃ r, r = dec 8 0 (l.drop 0) := ⟨_, rfl⟩
  rw [← hr] at C1
  have HR := Lib.hid hr
  have hlen := h.1
  have HL := Lib.hid hL
  clear hst h hr
  have hgl : 0 < w.heap.size := hL.lt
  clear hL
  rcases r with z | ⟨x, p', l'⟩
  · have hd : decode l = (.zero, 0, z) := by
      unfold decode
      have := HR.out
      rw [List.drop_zero] at this
      rw [← this]
    rw [hd]
    clear hd
    have HC : Hid (Calls Tryz.prog 34 #[.pointer (some ⟨w.heap.size + 1, 0, none⟩)] ((w.alloc (.cells #[.int .i64 0, .int .u64 0, .slice none 0 0, .slice none 0 0] 42)).alloc (.cells #[.slice A n c, .int .i64 0, .int .i64 0, .int .i64 0] 83)) fun e w' =>
      e = .returned (.tuple #[.agg #[.int .i64 0, .int .u64 0, .slice none 0 0, .slice none 0 0], .iface 107 (.agg #[.int .i64 z])]) ∧ Only (w.heap.size + 1) ((w.alloc (.cells #[.int .i64 0, .int .u64 0, .slice none 0 0, .slice none 0 0] 42)).alloc (.cells #[.slice A n c, .int .i64 0, .int .i64 0, .int .i64 0] 83)) w') := C1
    clear C1
    go_enter Tryz.func22, Tryz.ntmps22
    go_wp2_with fail
    refine HC.out.mono ?_
    rintro e w1 ⟨rfl, ho⟩
    have hb1 := (ho.below (by simp)).mono (B' := w.heap.size + 1) (Nat.le_refl _)
    have hb2 : Below (w.heap.size + 1) (w.alloc (.cells #[.int .i64 0, .int .u64 0, .slice none 0 0, .slice none 0 0] 42)) (w1.alloc (.cells #[.int .i64 0, .int .u64 0, .slice none 0 0, .slice none 0 0] 42)) :=
      (((Below.refl _ _).alloc (by simp) _).trans hb1).alloc (by have := hb1.size; simp at this; omega) _
    have hbw : Below w.heap.size w (w1.alloc (.cells #[.int .i64 0, .int .u64 0, .slice none 0 0, .slice none 0 0] 42)) := ((Below.refl _ _).alloc (Nat.le_refl _) _).trans (hb2.mono (Nat.le_succ _))
    have C2 := Lib.hid (number_any z _ (HL.out.below hbw hgl))
    have HB2 := Lib.hid hb2
    have HBW := Lib.hid hbw
    clear ho hb1 hb2 hbw
    go_wp2_with fail
    refine C2.out.mono ?_
    rintro e w3 ⟨rfl, hb3⟩
    have hb4 := HB2.out.trans (hb3.mono (by have := HB2.out.size; simpa using this))
    obtain ⟨⟨z0, z1, z2, z3⟩, f0, f1, f2, f3⟩ := zero_cells hb4
    have HB4 := Lib.hid (((Below.refl w.heap.size w).alloc (Nat.le_refl _) _).trans (hb4.mono (Nat.le_succ _)))
    clear hb3 hb4
    go_wp2_with fail
    refine bodyPost_ret (v := .tuple #[noItem, .int .i64 0, .int .i64 z]) (by simp [results, Tryz.results22, go_sem, z0, z1, z2, z3, noItem]) rfl ⟨_, rfl, RdI.mk_uint (by decide), set4_below HB4.out (Nat.le_refl _)⟩
  · have hd : decode l = (x, ((l.length - l'.length : Nat) : Int), 0) := by
      unfold decode
      have := HR.out
      rw [List.drop_zero] at this
      rw [← this]
    rw [hd]
    clear hd
    obtain ⟨M, hM⟩ : ∃ M, M = l.length - l'.length := ⟨_, rfl⟩
    rw [← hM]
    have HM := Lib.hid hM
    clear hM
    go_enter Tryz.func22, Tryz.ntmps22
    go_wp2_with fail
    refine C1.out.mono ?_
    rintro e w1 ⟨v, i1, rfl, hv, hs1, hl1, ho⟩
    obtain ⟨k1, n1, A1, nd1, cd1, AL1, nl1, cl1, rfl⟩ := hv.form
    have hb1 := (ho.below (by simp)).mono (B' := w.heap.size + 1) (Nat.le_refl _)
    have hsz1 : w.heap.size + 2 ≤ w1.heap.size := by have := ho.size; simpa using this
    have hb2 : Below (w.heap.size + 1) (w.alloc (.cells #[.int .i64 0, .int .u64 0, .slice none 0 0, .slice none 0 0] 42)) (w1.alloc (.cells #[.int .i64 k1, .int .u64 (n1 : Int), .slice A1 nd1 cd1, .slice AL1 nl1 cl1] 42)) :=
      (((Below.refl _ _).alloc (by simp) _).trans hb1).alloc (by omega) _
    obtain ⟨⟨z0, z1, z2, z3⟩, f0, f1, f2, f3⟩ := zero_cells hb2
    have HBW := Lib.hid (((Below.refl w.heap.size w).alloc (Nat.le_refl _) (.cells #[.int .i64 0, .int .u64 0, .slice none 0 0, .slice none 0 0] 42)).trans (hb2.mono (Nat.le_succ _)))
    have r1 := (hs1.alloc (.cells #[.int .i64 k1, .int .u64 (n1 : Int), .slice A1 nd1 cd1, .slice AL1 nl1 cl1] 42)).c1
    have HV := Lib.hid (hv.mask_go (S' := lows (w.heap.size + 2)) (w' := w1.alloc (.cells #[.int .i64 k1, .int .u64 (n1 : Int), .slice A1 nd1 cd1, .slice AL1 nl1 cl1] 42)) (B' := w1.heap.size + 1) (Nat.le_succ _) (fun k hk _ => Below.heap_alloc _ _ _ hk) (fun k _ hk => by have := lows_f.1 hk; simp at this; exact lows_f.2 this))
    have hi1 : M = i1 := by
      have := hs1.hi
      rw [HM.out, ← hl1, List.length_drop]
      omega
    have HI1 := Lib.hid hi1
    have HSZ := Lib.hid hsz1
    clear hv hs1 hl1 ho hb1 hb2 hi1 hsz1
    go_wp2_with fail
    go_region
    go_wp2_with fail
    have hv2 := (HV.out.fin (b := w.heap.size) (lo' := w.heap.size) (u0 := .int .i64 k1) (u1 := .int .u64 (n1 : Int)) (u2 := .slice A1 nd1 cd1) (u3 := .slice AL1 nl1 cl1) (by simp) (by omega) (by omega))
    have hv3 := RdI.maskd hv2
    rw [HI1.out]
    refine bodyPost_ret (v := .tuple #[.agg #[.int .i64 k1, .int .u64 (n1 : Int), .slice A1 nd1 cd1, .slice AL1 nl1 cl1], .int .i64 (i1 : Int), .int .i64 0]) (by simp [results, Tryz.results22, go_sem, z0, z1, z2, z3]) rfl ⟨_, rfl, hv3, (set4_below HBW.out (Nat.le_refl _)).drew⟩
end Go.Proofs.YtbdjkihgcmebgaaGreatDoor
/- What Make, uintOf and contents of layer 5 return. -/
namespace Go.Proofs.YtbdjkihgcmebgaaGreatDoor
open Go.RowKit

/-- What Make answers. -/
def makeB (k n : Nat) (x : Itm) : Blk × Int := if (enc x).2 ≠ 0 then (.zero, (enc x).2) else if blkOk ⟨k, n, 0, 2, (enc x).1⟩ = false then (.zero, 50) else (⟨k, n, 0, 2, (enc x).1⟩, 0)
def MakeB (k n : Nat) (x : Itm) (w : World) (e : Ending) (w' : World) : Prop := Below w.heap.size w w' ∧
  ∃ (b : Blk) (A : Option Addr) (nd cd : Nat) (z : Int), e = .returned (.tuple #[blkV b.typ b.num b.flg b.crc A nd cd, .int .i64 z]) ∧ makeB k n x = (b, z) ∧ (nd ≤ cd ∧ nd ≤ 140737488355328) ∧ Rd w' w'.heap.size A nd b.dat

set_option maxRecDepth 100000 in
set_option maxHeartbeats 8000000 in
theorem bmake_any (k n : Nat) (x : Itm) (v : Value) (w : World) (B : Nat) (hp : par x ≤ 1000000) (hlen : Fits x → (wri x).length ≤ 140737488355328) (hB : B ≤ w.heap.size) (h : RdI w B v x) (hL : LaidE w) :
    Calls Tryz.prog 18 #[.int .u64 (k : Int), .int .u64 (n : Int), v] w (MakeB k n x w) := by
  obtain ⟨kx, nx, A, nd, cd, AL, nl, cl, rfl⟩ := h.form
  have hz0 := fun (W : World) (hb : Below (w.heap.size + 1 + 1) ((w.alloc (.cells #[.int .i64 kx, .int .u64 (nx : Int), .slice A nd cd, .slice AL nl cl] 42)).alloc (.cells #[.int .u64 0, .int .u64 0, .int .u64 0, .int .i64 0, .slice none 0 0] 25)) W) => zero5 (g := w.heap.size + 1) (by simp) hb
  have HZ := Lib.hid hz0
  have HZB : Hid (∀ (W : World) (_ : Below (w.heap.size + 1 + 1) ((w.alloc (.cells #[.int .i64 kx, .int .u64 (nx : Int), .slice A nd cd, .slice AL nl cl] 42)).alloc (.cells #[.int .u64 0, .int .u64 0, .int .u64 0, .int .i64 0, .slice none 0 0] 25)) W), W.heap[w.heap.size + 1]? = some (.cells #[.int .u64 0, .int .u64 0, .int .u64 0, .int .i64 0, .slice none 0 0] 25 (0, 0))) := fun W hb => by
    rw [hb.block (w.heap.size + 1) (Nat.lt_succ_self _)]
    have := heap_alloc_new (w.alloc (.cells #[.int .i64 kx, .int .u64 (nx : Int), .slice A nd cd, .slice AL nl cl] 42)) (.cells #[.int .u64 0, .int .u64 0, .int .u64 0, .int .i64 0, .slice none 0 0] 25)
    simpa using this
  have HB0 : Hid (Below w.heap.size w ((w.alloc (.cells #[.int .i64 kx, .int .u64 (nx : Int), .slice A nd cd, .slice AL nl cl] 42)).alloc (.cells #[.int .u64 0, .int .u64 0, .int .u64 0, .int .i64 0, .slice none 0 0] 25))) := ((Below.refl _ _).alloc (Nat.le_refl _) _).alloc (le_alloc _ _) _
  have hs0 : ((w.alloc (.cells #[.int .i64 kx, .int .u64 (nx : Int), .slice A nd cd, .slice AL nl cl] 42)).alloc (.cells #[.int .u64 0, .int .u64 0, .int .u64 0, .int .i64 0, .slice none 0 0] 25)).heap.size = w.heap.size + 2 := by simp
  have HS0 := Lib.hid hs0
  have C1 := Lib.hid (cencode_any x _ _ B hp hlen (by rw [hs0]; omega) (h.below (HB0.out.mono hB)) (hL.below HB0.out hL.lt))
  have HL := Lib.hid (hL.below HB0.out hL.lt)
  have HLT := Lib.hid hL.lt
  have HM : Hid (makeB k n x = if (enc x).2 ≠ 0 then (.zero, (enc x).2) else if blkOk ⟨k, n, 0, 2, (enc x).1⟩ = false then (.zero, 50) else (⟨k, n, 0, 2, (enc x).1⟩, 0)) := rfl
  have q1 := fun (W : World) (u : TypeId) (x : Value) => run_neq_iface_nil (P := Tryz.prog) (w := W) 35 (by kernel_rfl) u x
  have hec := enc_cases x
  clear h hp hlen hB hL hz0 hs0
  generalize hen : enc x = en at *
  obtain ⟨el, ez⟩ := en
  clear hen
  simp only at *
  rcases hec with ⟨-, he⟩ | ⟨-, he1, he2⟩
  · obtain rfl : ez = 0 := by injection he
    clear he
    have hM2 := HM.out
    rw [if_neg (by simp)] at hM2
    have HM2 := Lib.hid hM2
    clear hM2 HM
    have CC := Lib.hid (fun (A : Option Addr) (nd cd : Nat) (W : World) (hd : el.length = nd) => bcheck_any k n 0 2 A nd cd el W hd)
    have CN := Lib.hid (fun s W (hb : Below w.heap.size w W) => bnumber_any 50 s W (LaidE.below (B := w.heap.size) (w := w) (by have h := HL.out; exact (HB0.out.cell (p := ⟨0, 0, none⟩) HLT.out).symm.trans h) hb HLT.out))
    have H4 : Hid (blkOk ⟨k, n, 0, 2, el⟩ = true → el.length ≤ 4096) := fun h => (blkOk_iff.1 h).2.2.2.2
    generalize blkOk ⟨k, n, 0, 2, el⟩ = R at *
    go_enter Tryz.func18, Tryz.ntmps18
    go_wp2_with fail
    refine C1.out.mono ?_
    rintro e w1 ⟨A1, n1, c1, rfl, hr, hc, hb⟩
    have hw1 : w.heap.size + 2 ≤ w1.heap.size := by have := hb.size; rw [HS0.out] at this; exact this
    have hn1 : n1 = el.length := hr.1.symm
    have hb2 := (hb.mono (show w.heap.size + 1 + 1 ≤ _ by rw [HS0.out]; exact Nat.le_refl _)).alloc hw1 (.cells #[.int .u64 (k : Int), .int .u64 (n : Int), .int .u64 0, .int .i64 2, .slice A1 n1 c1] 25)
    have hw2 : (w1.alloc (.cells #[.int .u64 (k : Int), .int .u64 (n : Int), .int .u64 0, .int .i64 2, .slice A1 n1 c1] 25)).heap.size = w1.heap.size + 1 := by simp
    have C2 := Lib.hid (CC.out A1 n1 c1 (w1.alloc (.cells #[.int .u64 (k : Int), .int .u64 (n : Int), .int .u64 0, .int .i64 2, .slice A1 n1 c1] 25)) hr.1)
    have B2 := Lib.hid hb2
    have R2 := Lib.hid (hr.alloc (Nat.le_refl _) (.cells #[.int .u64 (k : Int), .int .u64 (n : Int), .int .u64 0, .int .i64 2, .slice A1 n1 c1] 25))
    have HW := Lib.hid (And.intro hw1 (And.intro hw2 hc))
    have HN1 := Lib.hid hn1
    clear hb hb2 hr hw1 hw2 hn1 hc C1
    unfold blkV at *
    go_wp2_with fail
    refine C2.out.mono ?_
    rintro e w2 ⟨hb, ⟨rfl, rfl⟩ | ⟨rfl, s, rfl⟩⟩
    · have hbE := B2.out.trans (hb.mono (by rw [HW.out.2.1]; have := HW.out.1; omega))
      obtain ⟨⟨z0, z1, z2, z3, z4⟩, f0, f1, f2, f3, f4⟩ := HZ.out _ hbE
      obtain ⟨g0, g1, g2, g3, g4⟩ := box5 rfl (hb.mono (show w1.heap.size + 1 ≤ _ by rw [HW.out.2.1]; exact Nat.le_refl _))
      have BE := Lib.hid hbE
      have RE := Lib.hid ((R2.out.below (hb.mono (by rw [HW.out.2.1]; omega))).more (show w1.heap.size ≤ w2.heap.size by have := hb.size; rw [HW.out.2.1] at this; omega))
      clear hbE hb
      go_wp2_with fail
      refine bodyPost_ret (v := .tuple #[.agg #[.int .u64 (k : Int), .int .u64 (n : Int), .int .u64 0, .int .i64 2, .slice A1 n1 c1], .int .i64 0]) (by simp [results, Tryz.results18, go_sem, z0, z1, z2, z3, z4]) rfl ⟨below_put5 (HB0.out.trans (BE.out.mono (by omega))) (Nat.le_succ _), ⟨k, n, 0, 2, el⟩, A1, n1, c1, 0, rfl, by rw [HM2.out]; rfl, ⟨HW.out.2.2, ?_⟩, ?_⟩
      · have := H4.out trivial; have := HN1.out; omega
      · exact Rd.put5 RE.out (by simp [World.setCell]) (RE.out.off5 (HZB.out _ BE.out))
    · obtain ⟨g0, g1, g2, g3, g4⟩ := box5 rfl (hb.mono (show w1.heap.size + 1 ≤ _ by rw [HW.out.2.1]; exact Nat.le_refl _))
      have hb3 := B2.out.trans (hb.mono (by rw [HW.out.2.1]; have := HW.out.1; omega))
      have B3 := Lib.hid hb3
      have C4 := Lib.hid (CN.out s w2 (HB0.out.trans (hb3.mono (by omega))))
      clear hb hb3
      unfold bfl at *
      go_wp2_with fail
      refine C4.out.mono ?_
      rintro e w3 ⟨rfl, hb⟩
      have hbE := B3.out.trans (hb.mono (by have := B3.out.size; have := HS0.out; omega))
      obtain ⟨⟨z0, z1, z2, z3, z4⟩, f0, f1, f2, f3, f4⟩ := HZ.out _ hbE
      have BE := Lib.hid hbE
      clear hbE hb g0 g1 g2 g3 g4
      go_wp2_with fail
      refine bodyPost_ret (v := .tuple #[blkV 0 0 0 0 none 0 0, .int .i64 50]) (by simp [results, Tryz.results18, go_sem, z0, z1, z2, z3, z4, blkV]) rfl ⟨below_put5 (HB0.out.trans (BE.out.mono (by omega))) (Nat.le_succ _), Blk.zero, none, 0, 0, 50, rfl, by rw [HM2.out]; rfl, ⟨Nat.le_refl _, by decide⟩, Rd.nil_⟩
  · have hezn : ez ≠ 0 := by omega
    have hez0 : (ez == 0) = false := by simpa using hezn
    have hM2 := HM.out
    rw [if_pos hezn] at hM2
    have HM2 := Lib.hid hM2
    clear hM2 HM hezn he2
    go_enter Tryz.func18, Tryz.ntmps18
    go_wp2_with fail
    refine C1.out.mono ?_
    rintro e w1 ⟨A1, n1, c1, rfl, hr, hc, hb⟩
    have hbE := hb.mono (show w.heap.size + 1 + 1 ≤ _ by rw [HS0.out]; exact Nat.le_refl _)
    obtain ⟨⟨z0, z1, z2, z3, z4⟩, f0, f1, f2, f3, f4⟩ := HZ.out _ hbE
    have BE := Lib.hid hbE
    clear hbE hb hr hc
    go_wp2_with fail
    refine bodyPost_ret (v := .tuple #[blkV 0 0 0 0 none 0 0, .int .i64 ez]) (by simp [results, Tryz.results18, go_sem, z0, z1, z2, z3, z4, blkV]) rfl ⟨below_put5 (HB0.out.trans (BE.out.mono (by omega))) (Nat.le_succ _), Blk.zero, none, 0, 0, ez, rfl, HM2.out, ⟨Nat.le_refl _, by decide⟩, Rd.nil_⟩
end Go.Proofs.YtbdjkihgcmebgaaGreatDoor
/- What uintOf, contents and Hops of layer 5 return. -/
namespace Go.Proofs.YtbdjkihgcmebgaaGreatDoor
open Go.RowKit

set_option maxRecDepth 100000 in
set_option maxHeartbeats 1000000 in
theorem uintof_any (k : Int) (n : Nat) (v2 v3 : Value) (R : Bool) (w : World) (_h2 : v2.oneCell' = true) (_h3 : v3.oneCell' = true) (hR : (k == 0) = R) :
    Calls Tryz.prog 33 #[.agg #[.int .i64 k, .int .u64 (n : Int), v2, v3]] w fun e w' => e = .returned (.tuple #[.int .u64 (n : Int), .bool R]) ∧ Below w.heap.size w w' := by
  have HB := Lib.hid ((Below.refl w.heap.size w).alloc (Nat.le_refl _) (.cells #[.int .i64 k, .int .u64 (n : Int), v2, v3] 42))
  go_enter Tryz.func33, Tryz.ntmps33
  go_wp2_with fail
  go_quiet (fail)
  go_wp2_with fail
  go_ret2
  exact ⟨rfl, HB.out.trans (below_qN _ _ _)⟩

/-- The item that all of a block's data are, if it is of a kind. -/
def contB (t k : Nat) (d : List UInt8) : Option Itm := if t = k ∧ (decode d).2.2 = 0 ∧ (decode d).2.1 = (d.length : Int) then some (decode d).1 else none
def ContB (r : Option Itm) (w : World) (e : Ending) (w' : World) : Prop := Below w.heap.size w w' ∧
  ((∃ v x, r = some x ∧ e = .returned (.tuple #[v, .bool true]) ∧ RdI (mask (lows w.heap.size) w') w'.heap.size v x) ∨ (r = none ∧ e = .returned (.tuple #[.agg #[.int .i64 0, .int .u64 0, .slice none 0 0, .slice none 0 0], .bool false])))

set_option maxRecDepth 100000 in
set_option maxHeartbeats 8000000 in
theorem contents_any (t n f k : Nat) (c : Int) (A : Option Addr) (nd cd B : Nat) (d : List UInt8) (w : World) (hB : B ≤ w.heap.size) (h : Rd w B A nd d) (hn : nd ≤ 140737488355328) (hc : nd ≤ cd) (hL : LaidE w) :
    Calls Tryz.prog 32 #[blkV t n f c A nd cd, .int .u64 (k : Int)] w (ContB (contB t k d) w) := by
  have HB0 : Hid (Below w.heap.size w ((w.alloc (.cells #[.int .u64 (t : Int), .int .u64 (n : Int), .int .u64 (f : Int), .int .i64 c, .slice A nd cd] 25)).alloc (.cells #[.int .i64 0, .int .u64 0, .slice none 0 0, .slice none 0 0] 42))) := ((Below.refl _ _).alloc (Nat.le_refl _) _).alloc (le_alloc _ _) _
  have hs0 : ((w.alloc (.cells #[.int .u64 (t : Int), .int .u64 (n : Int), .int .u64 (f : Int), .int .i64 c, .slice A nd cd] 25)).alloc (.cells #[.int .i64 0, .int .u64 0, .slice none 0 0, .slice none 0 0] 42)).heap.size = w.heap.size + 2 := by simp
  have HS0 := Lib.hid hs0
  have HZ := Lib.hid (fun (W' : World) (hb : Below (w.heap.size + 1 + 1) ((w.alloc (.cells #[.int .u64 (t : Int), .int .u64 (n : Int), .int .u64 (f : Int), .int .i64 c, .slice A nd cd] 25)).alloc (.cells #[.int .i64 0, .int .u64 0, .slice none 0 0, .slice none 0 0] 42)) W') => zero4 (w := w.alloc (.cells #[.int .u64 (t : Int), .int .u64 (n : Int), .int .u64 (f : Int), .int .i64 c, .slice A nd cd] 25)) (g := w.heap.size + 1) (by simp) hb)
  have HG := Lib.hid (fun (W' : World) (hb : Below (w.heap.size + 1) ((w.alloc (.cells #[.int .u64 (t : Int), .int .u64 (n : Int), .int .u64 (f : Int), .int .i64 c, .slice A nd cd] 25)).alloc (.cells #[.int .i64 0, .int .u64 0, .slice none 0 0, .slice none 0 0] 42)) W') => box5 (w := w) rfl (((Below.refl (w.heap.size + 1) (w.alloc (.cells #[.int .u64 (t : Int), .int .u64 (n : Int), .int .u64 (f : Int), .int .i64 c, .slice A nd cd] 25))).alloc (by simp) _).trans hb))
  have C1 := Lib.hid (cdecodeL_any A nd cd B d _ (by rw [hs0]; omega) (h.below (HB0.out.mono hB)) hn hc (hL.below HB0.out hL.lt))
  have HD : Hid (contB t k d = if t = k ∧ (decode d).2.2 = 0 ∧ (decode d).2.1 = (d.length : Int) then some (decode d).1 else none) := rfl
  have hdl := h.1
  have hdc := decode_cases d
  clear h hB hn hc hL hs0
  by_cases htk : t = k
  · subst htk
    have htt : ((t : Int) == (t : Int)) = true := by simp
    rcases hdc with ⟨z, hz, hd⟩ | ⟨x, r, hl, hf, hsz, hd⟩
    · have hzn : ¬ z = 0 := by omega
      have hz0 : (z == 0) = false := by simpa using hzn
      have HR : Hid (contB t t d = none) := by show _ = _; rw [HD.out, hd]; exact if_neg (fun h => hzn h.2.1)
      rw [hd] at C1
      clear hd hz hzn HD
      unfold blkV at *
      go_enter Tryz.func32, Tryz.ntmps32
      go_wp2_with fail
      refine C1.out.mono ?_
      rintro e w1 ⟨v, rfl, hv, hb⟩
      obtain ⟨k1, n1, A1, nd1, cd1, AL1, nl1, cl1, rfl⟩ := hv.form
      rw [HS0.out] at hb
      have hbE := hb.alloc (by have := hb.size; rw [HS0.out] at this; exact this) (.cells #[.int .i64 k1, .int .u64 (n1 : Int), .slice A1 nd1 cd1, .slice AL1 nl1 cl1] 42)
      obtain ⟨g0, g1, g2, g3, g4⟩ := HG.out _ (hbE.mono (by omega))
      obtain ⟨⟨z0, z1, z2, z3⟩, f0, f1, f2, f3⟩ := HZ.out _ hbE
      have BE := Lib.hid hbE
      clear hb hbE hv
      go_wp2_with fail
      refine bodyPost_ret (v := .tuple #[.agg #[.int .i64 0, .int .u64 0, .slice none 0 0, .slice none 0 0], .bool false]) (by simp [results, Tryz.results32, go_sem, z0, z1, z2, z3]) rfl ⟨below_set4 (HB0.out.trans (BE.out.mono (by omega))) (Nat.le_succ _), .inr ⟨HR.out, rfl⟩⟩
    · obtain ⟨M, hM⟩ : ∃ M, M = (wri x).length := ⟨_, rfl⟩
      rw [← hM] at hd
      rw [hd] at C1
      by_cases hMn : M = nd
      · subst hMn
        have HR : Hid (contB t t d = some x) := by show _ = _; rw [HD.out, hd]; exact if_pos ⟨rfl, rfl, by rw [hdl]⟩
        clear hd hl hf hsz hM HD hdl
        unfold blkV at *
        go_enter Tryz.func32, Tryz.ntmps32
        go_wp2_with fail
        refine C1.out.mono ?_
        rintro e w1 ⟨v, rfl, hv, hb⟩
        obtain ⟨k1, n1, A1, nd1, cd1, AL1, nl1, cl1, rfl⟩ := hv.form
        rw [HS0.out] at hb hv
        have hw1 : w.heap.size + 2 ≤ w1.heap.size := by have := hb.size; rw [HS0.out] at this; exact this
        have hbE := hb.alloc hw1 (.cells #[.int .i64 k1, .int .u64 (n1 : Int), .slice A1 nd1 cd1, .slice AL1 nl1 cl1] 42)
        obtain ⟨g0, g1, g2, g3, g4⟩ := HG.out _ (hbE.mono (by omega))
        obtain ⟨⟨z0, z1, z2, z3⟩, f0, f1, f2, f3⟩ := HZ.out _ hbE
        have BE := Lib.hid hbE
        have V1 := Lib.hid (hv.grow ((Below.refl w1.heap.size w1).alloc (Nat.le_refl _) (.cells #[.int .i64 k1, .int .u64 (n1 : Int), .slice A1 nd1 cd1, .slice AL1 nl1 cl1] 42)) (Nat.le_refl _))
        have HNE : Hid (¬ w1.heap.size = w.heap.size + 1) := fun h => by omega
        clear hb hbE hv hw1
        go_wp2_with fail
        refine bodyPost_ret (v := .tuple #[.agg #[.int .i64 k1, .int .u64 (n1 : Int), .slice A1 nd1 cd1, .slice AL1 nl1 cl1], .bool true]) (by simp [results, Tryz.results32, go_sem, z0, z1, z2, z3]) rfl ⟨below_set4 (HB0.out.trans (BE.out.mono (by omega))) (Nat.le_succ _), .inl ⟨_, x, HR.out, rfl, ?_⟩⟩
        exact V1.out.put4 (Nat.le_add_right _ 2) (Nat.lt_succ_self _) (Nat.le_of_eq size_put4.symm)
      · have HR : Hid (contB t t d = none) := by show _ = _; rw [HD.out, hd]; exact if_neg (fun h => hMn (by have := h.2.2; rw [hdl] at this; simp only at this; omega))
        have hMi : ((M : Int) == (nd : Int)) = false := by rw [beq_eq_false_iff_ne]; omega
        have hMi2 : ¬ (M : Int) = (nd : Int) := by omega
        clear hd hl hf hsz hM HD hdl
        unfold blkV at *
        go_enter Tryz.func32, Tryz.ntmps32
        go_wp2_with fail
        refine C1.out.mono ?_
        rintro e w1 ⟨v, rfl, hv, hb⟩
        obtain ⟨k1, n1, A1, nd1, cd1, AL1, nl1, cl1, rfl⟩ := hv.form
        rw [HS0.out] at hb
        have hbE := hb.alloc (by have := hb.size; rw [HS0.out] at this; exact this) (.cells #[.int .i64 k1, .int .u64 (n1 : Int), .slice A1 nd1 cd1, .slice AL1 nl1 cl1] 42)
        obtain ⟨g0, g1, g2, g3, g4⟩ := HG.out _ (hbE.mono (by omega))
        obtain ⟨⟨z0, z1, z2, z3⟩, f0, f1, f2, f3⟩ := HZ.out _ hbE
        have BE := Lib.hid hbE
        clear hb hbE hv
        go_wp2_with fail
        refine bodyPost_ret (v := .tuple #[.agg #[.int .i64 0, .int .u64 0, .slice none 0 0, .slice none 0 0], .bool false]) (by simp [results, Tryz.results32, go_sem, z0, z1, z2, z3]) rfl ⟨below_set4 (HB0.out.trans (BE.out.mono (by omega))) (Nat.le_succ _), .inr ⟨HR.out, rfl⟩⟩
  · have HR : Hid (contB t k d = none) := by show _ = _; rw [HD.out]; exact if_neg (fun h => htk h.1)
    have htt : ((t : Int) == (k : Int)) = false := by rw [beq_eq_false_iff_ne]; omega
    have htt2 : ¬ (t : Int) = (k : Int) := by omega
    obtain ⟨⟨z0, z1, z2, z3⟩, f0, f1, f2, f3⟩ := HZ.out _ (Below.refl _ _)
    clear hdc HD hdl C1
    unfold blkV at *
    go_enter Tryz.func32, Tryz.ntmps32
    go_wp2_with fail
    refine bodyPost_ret (v := .tuple #[.agg #[.int .i64 0, .int .u64 0, .slice none 0 0, .slice none 0 0], .bool false]) (by simp [results, Tryz.results32, go_sem, z0, z1, z2, z3]) rfl ⟨?_, .inr ⟨HR.out, rfl⟩⟩
    first | exact HB0.out | exact below_set4 HB0.out (Nat.le_succ _)
end Go.Proofs.YtbdjkihgcmebgaaGreatDoor
/- What Hops of layer 5 returns, of a block of hops. -/
namespace Go.Proofs.YtbdjkihgcmebgaaGreatDoor
open Go.RowKit

set_option maxRecDepth 100000 in
set_option maxHeartbeats 8000000 in
theorem hops_ok (t n f : Nat) (c : Int) (A : Option Addr) (nd cd B : Nat) (d : List UInt8) (m a q : Nat) (e0 d0 d1 : List UInt8) (l0 l1 : List Itm) (w : World) (hB : B ≤ w.heap.size) (h : Rd w B A nd d) (hn : nd ≤ 140737488355328) (hc : nd ≤ cd) (hL : LaidE w)
    (hx : contB t 10 d = some (.mk 4 m e0 [.mk 0 a d0 l0, .mk 0 q d1 l1])) (h1 : 1 ≤ a) (h2 : a ≤ 255) :
    Calls Tryz.prog 21 #[blkV t n f c A nd cd] w fun e w' => e = .returned (.tuple #[.int .u64 (a : Int), .int .u64 (q : Int), .bool true]) ∧ Below w.heap.size w w' := by
  have HB0 := Lib.hid ((Below.refl w.heap.size w).alloc (Nat.le_refl _) (.cells #[.int .u64 (t : Int), .int .u64 (n : Int), .int .u64 (f : Int), .int .i64 c, .slice A nd cd] 25))
  have C1 := Lib.hid (contents_any t n f 10 c A nd cd B d (w.alloc (.cells #[.int .u64 (t : Int), .int .u64 (n : Int), .int .u64 (f : Int), .int .i64 c, .slice A nd cd] 25)) (Nat.le_trans hB (le_alloc _ _)) (h.alloc hB _) hn hc (hL.below HB0.out hL.lt))
  rw [hx] at C1
  have hs0 : (w.alloc (.cells #[.int .u64 (t : Int), .int .u64 (n : Int), .int .u64 (f : Int), .int .i64 c, .slice A nd cd] 25)).heap.size = w.heap.size + 1 := by simp
  have h1i : ¬ (a : Int) < 1 := by omega
  have h2i : ¬ 255 < (a : Int) := by omega
  have h1j : 1 ≤ (a : Int) := by omega
  have h2j : (a : Int) ≤ 255 := by omega
  have CU := Lib.hid (fun (n : Nat) (v2 v3 : Value) (W : World) (g2 : v2.oneCell' = true) (g3 : v3.oneCell' = true) => uintof_any 0 n v2 v3 true W g2 g3 rfl)
  clear h hB hn hc hL hx h1 h2
  unfold blkV at *
  go_enter Tryz.func21, Tryz.ntmps21
  go_wp2_with fail
  refine C1.out.mono ?_
  rintro e w1 ⟨hb, ⟨v, x, hxx, rfl, hv⟩ | ⟨hxx, -⟩⟩
  case inr => cases hxx
  obtain rfl := Option.some.inj hxx
  rw [hs0] at hb
  have hv' := hv.unmask
  obtain ⟨A1, nd1, cd1, AL, cl1, rfl, -, -, -, -, hcl, hrow⟩ := hv'.open
  obtain ⟨b, o, rfl, hbb, hs⟩ := hrow (by simp)
  rw [RdIs, RdIs] at hs
  obtain ⟨⟨a00, a01, a02, a03, i0, i1, i2, i3, x0⟩, ⟨a10, a11, a12, a13, j0, j1, j2, j3, x1⟩, -⟩ := hs
  obtain ⟨_, _, _, _, _, hy0, -, -, -, -, -, -⟩ := x0.open
  obtain ⟨_, _, _, _, _, hy1, -, -, -, -, -, -⟩ := x1.open
  injection hy0 with hy0
  injection hy1 with hy1
  simp only [Array.mk.injEq, List.cons.injEq, and_true] at hy0 hy1
  obtain ⟨rfl, rfl, rfl, rfl⟩ := hy0
  obtain ⟨rfl, rfl, rfl, rfl⟩ := hy1
  simp only [List.length_cons, List.length_nil, Nat.zero_add] at hcl ⊢
  have hw1 : w.heap.size + 1 ≤ w1.heap.size := by have := hb.size; rw [hs0] at this; exact this
  have B1 := Lib.hid ((HB0.out.trans (hb.mono (Nat.le_succ _))))
  clear hb hv hv' hrow hxx x0 x1 C1
  generalize l0.length = L0 at *
  generalize l1.length = L1 at *
  have hb2 : Below w1.heap.size w1 (w1.alloc (.cells #[.int .i64 4, .int .u64 (m : Int), .slice A1 nd1 cd1, .slice (some ⟨b, o, none⟩) 2 cl1] 42)) := by exact (Below.refl _ _).alloc (Nat.le_refl _) _
  have k : ∀ (W : World) (_ : Below w1.heap.size w1 W) (j : Nat) (u : Value), w1.cell? ⟨b, j, none⟩ = some u → W.cell? ⟨b, j, none⟩ = some u := fun W hW j u hc => (hW.cell (p := ⟨b, j, none⟩) hbb).trans hc
  have t3 : (w1.alloc (.cells #[.int .i64 4, .int .u64 (m : Int), .slice A1 nd1 cd1, .slice (some ⟨b, o, none⟩) 2 cl1] 42)).cell? ⟨w1.heap.size, 3, none⟩ = some (.slice (some ⟨b, o, none⟩) 2 cl1) := by rw [World.cell?_alloc_at _ _ _ _ rfl]; rfl
  have t0 : (w1.alloc (.cells #[.int .i64 4, .int .u64 (m : Int), .slice A1 nd1 cd1, .slice (some ⟨b, o, none⟩) 2 cl1] 42)).cell? ⟨w1.heap.size, 0, none⟩ = some (.int .i64 4) := by rw [World.cell?_alloc_at _ _ _ _ rfl]; rfl
  have T3 := Lib.hid t3
  have a0 := k _ hb2 _ _ i0
  have a1 := k _ hb2 _ _ i1
  have a2 := k _ hb2 _ _ i2
  have a3 := k _ hb2 _ _ i3
  have hz2 : (w1.alloc (.cells #[.int .i64 4, .int .u64 (m : Int), .slice A1 nd1 cd1, .slice (some ⟨b, o, none⟩) 2 cl1] 42)).heap.size = w1.heap.size + 1 := by simp
  have HB2 := Lib.hid hb2
  have HJ := Lib.hid (And.intro j0 (And.intro j1 (And.intro j2 j3)))
  have HK := Lib.hid k
  have HZ2 := Lib.hid hz2
  clear i0 i1 i2 i3 j0 j1 j2 j3 k hb2 hz2
  go_wp2_with fail
  refine (CU.out a (.slice _ _ _) (.slice _ _ _) _ rfl rfl).mono ?_
  rintro e w3 ⟨rfl, hb3⟩
  have b3 := HB2.out.trans (hb3.mono (by have := HZ2.out; omega))
  have t3' := (hb3.cell (p := ⟨w1.heap.size, 3, none⟩) (by have := HZ2.out; show w1.heap.size < _; omega)).trans T3.out
  have c0 := HK.out _ b3 _ _ HJ.out.1
  have c1 := HK.out _ b3 _ _ HJ.out.2.1
  have c2 := HK.out _ b3 _ _ HJ.out.2.2.1
  have c3 := HK.out _ b3 _ _ HJ.out.2.2.2
  have B3 := Lib.hid b3
  clear hb3 b3 t3 t0 a0 a1 a2 a3
  go_wp2_with fail
  refine (CU.out q (.slice _ _ _) (.slice _ _ _) _ rfl rfl).mono ?_
  rintro e w4 ⟨rfl, hb4⟩
  have B4 := Lib.hid (B3.out.trans (hb4.mono B3.out.size))
  clear hb4
  go_wp2_with fail
  exact bodyPost_ret (v := .tuple #[.int .u64 (a : Int), .int .u64 (q : Int), .bool true]) (by simp [results, Tryz.results21, go_sem]) rfl ⟨rfl, B1.out.trans (B4.out.mono (by omega))⟩
end Go.Proofs.YtbdjkihgcmebgaaGreatDoor
/- What must come at any rate ('heads' of layer 5's statements): true. -/
namespace Go.Proofs.YtbdjkihgcmebgaaGreatDoor
open Go.RowKit

def hBlk : Blk := ⟨1, 1, 0, 0, [5]⟩
def hHops : Itm := .mk 4 0 [] [.mk 0 9 [] [], .mk 0 1 [] []]
theorem hb_w : blkW hBlk = [0x85, 1, 1, 0, 0, 0x41, 5] := by rfl
theorem hb_ok : blkOk hBlk = true := by rfl
theorem hb_dec : decB [0x85, 1, 1, 0, 0, 0x41, 5] = (hBlk, 7, 0) := by
  have h := decB_blk hBlk [] hb_ok ⟨by decide, by decide, by decide⟩
  rw [List.append_nil, hb_w] at h
  exact h
theorem hh_make : makeB 10 2 hHops = (⟨10, 2, 0, 2, [0x82, 9, 1]⟩, 0) := by rfl
theorem hh_cont : contB 10 10 [0x82, 9, 1] = some hHops := by rfl
theorem hz_no : blkOk Blk.zero = false := by rfl

theorem RdIs.twoB {W : World} {a0 a1 a2 a3 b0 b1 b2 b3 : Value} {x y : Itm} {t : TypeId} (h1 : RdI W W.heap.size (.agg #[a0, a1, a2, a3]) x) (h2 : RdI W W.heap.size (.agg #[b0, b1, b2, b3]) y) :
    RdIs (W.alloc (.cells #[a0, a1, a2, a3, b0, b1, b2, b3] t)) (W.heap.size + 1) W.heap.size 0 [x, y] := by
  rw [RdIs, RdIs, RdIs]
  refine ⟨⟨a0, a1, a2, a3, by simp, by simp, by simp, by simp, (h1.alloc (Nat.le_refl _) _).more (Nat.le_succ _)⟩, ⟨b0, b1, b2, b3, by simp, by simp, by simp, by simp, (h2.alloc (Nat.le_refl _) _).more (Nat.le_succ _)⟩, trivial⟩

set_option maxRecDepth 100000 in
set_option maxHeartbeats 8000000 in
theorem heads05_any (w : World) (hL : LaidE w) : Calls Tryz.prog 7 #[] w fun e w' => e = .returned (.bool true) ∧ Below w.heap.size w w' := by
  have HLT := Lib.hid hL.lt
  have HL := Lib.hid (fun W (hb : Below w.heap.size w W) => hL.below hb hL.lt)
  have C1 : Hid (Calls Tryz.prog 17 #[.agg #[.int .u64 1, .int .u64 1, .int .u64 0, .int .i64 0, .slice (some ⟨w.heap.size, 0, none⟩) 1 1]] (w.alloc (.cells #[.int .u8 5] 5)) fun e w' => ∃ v, e = .returned (.tuple #[v, .int .i64 0]) ∧ Ob w' (w.alloc (.cells #[.int .u8 5] 5)).heap.size 5 v [0x85, 1, 1, 0, 0, 0x41, 5] ∧ Below (w.alloc (.cells #[.int .u8 5] 5)).heap.size (w.alloc (.cells #[.int .u8 5] 5)) w') := by
    have h := bencode_any hBlk (some ⟨w.heap.size, 0, none⟩) 1 1 (w.heap.size + 1) (w.alloc (.cells #[.int .u8 5] 5)) ⟨by decide, by decide, by decide⟩ (Nat.le_of_eq (by simp)) (Rd.lit w _ rfl [5] 5 #[.int .u8 5] rfl 1 rfl) (HL.out _ ((Below.refl _ _).alloc (Nat.le_refl _) _))
    rw [hb_ok, if_pos rfl, if_pos rfl, hb_w] at h
    exact h
  have B0 := Lib.hid ((Below.refl w.heap.size w).alloc (Nat.le_refl _) (.cells #[.int .u8 5] 5))
  clear hL
  go_enter Tryz.func7, Tryz.ntmps7
  go_wp2_with fail
  refine C1.out.mono ?_
  rintro e w1 ⟨v1, rfl, ho1, hb1⟩
  obtain ⟨A1, c1, rfl, hc1, hm1, hr1⟩ := ho1.rdn (n := 7) rfl
  have B1 := Lib.hid (B0.out.trans (hb1.mono (le_alloc _ _)))
  have R1 := Lib.hid hr1
  have HC1 := Lib.hid hc1
  clear ho1 hb1 hr1 hc1 hm1
  go_wp2_with fail
  refine (bdecode_any A1 7 c1 w1.heap.size _ w1 (Nat.le_refl _) R1.out (by decide) HC1.out (HL.out _ B1.out)).mono ?_
  rintro e w2 ⟨hb2, b, A2, nd2, cd2, N, z, rfl, hd, -, hnd2, hr2⟩
  rw [hb_dec] at hd
  injection hd with hd1 hd
  injection hd with hd2 hd3
  subst hd1 hd2 hd3
  obtain rfl : 1 = nd2 := hr2.1
  have B2 := Lib.hid (B1.out.trans (hb2.mono B1.out.size))
  have R2 := Lib.hid ((R1.out.below hb2).more hb2.size)
  have hb3 := (Below.refl w2.heap.size w2).alloc (Nat.le_refl _) (.cells #[.int .u64 1, .int .u64 1, .int .u64 0, .int .i64 0, .slice A2 1 cd2] 25)
  have hx4 : (w2.alloc (.cells #[.int .u64 1, .int .u64 1, .int .u64 0, .int .i64 0, .slice A2 1 cd2] 25)).cell? ⟨w2.heap.size, 4, none⟩ = some (.slice A2 1 cd2) := by rw [World.cell?_alloc_at _ _ _ _ rfl]; rfl
  have HX4 := Lib.hid hx4
  have hlt2 : w2.heap.size < (w2.alloc (.cells #[.int .u64 1, .int .u64 1, .int .u64 0, .int .i64 0, .slice A2 1 cd2] 25)).heap.size := by simp
  have HLT2 := Lib.hid hlt2
  have B3 := Lib.hid (B2.out.trans (hb3.mono B2.out.size))
  have R3 := Lib.hid ((R2.out.below hb3).more hb3.size)
  clear hb2 hr2 hnd2 hb3 hx4 hlt2
  unfold blkV hBlk at *
  go_wp2_with fail
  refine (ruint_any 9 _ (by decide) (by decide)).mono ?_
  rintro e w3 ⟨v3, rfl, hv3, hb3⟩
  obtain ⟨k3, n3, A3, nd3, cd3, AL3, nl3, cl3, rfl⟩ := hv3.form
  have V3 := Lib.hid hv3
  have B4 := Lib.hid (B3.out.trans (hb3.mono B3.out.size))
  have X4 := Lib.hid ((hb3.cell (p := ⟨w2.heap.size, 4, none⟩) HLT2.out).trans HX4.out)
  have L4 := Lib.hid (Nat.lt_of_lt_of_le HLT2.out hb3.size)
  have R4 := Lib.hid ((R3.out.below hb3).more hb3.size)
  clear hv3 hb3
  go_wp2_with fail
  refine (ruint_any 1 _ (by decide) (by decide)).mono ?_
  rintro e w4 ⟨v4, rfl, hv4, hb4⟩
  obtain ⟨k4, n4, A4, nd4, cd4, AL4, nl4, cl4, rfl⟩ := hv4.form
  have V4 := Lib.hid (RdIs.twoB (t := 42) ((V3.out.below hb4).more hb4.size) hv4)
  have B5 := Lib.hid (B4.out.trans (hb4.mono B4.out.size))
  have X5 := Lib.hid ((hb4.cell (p := ⟨w2.heap.size, 4, none⟩) L4.out).trans X4.out)
  have L5 := Lib.hid (Nat.lt_of_lt_of_le L4.out hb4.size)
  have R5 := Lib.hid ((R4.out.below hb4).more hb4.size)
  clear hv4 hb4
  go_wp2_with fail
  refine (rarray_any w4.heap.size 0 2 2 (w4.heap.size + 1) _ _ (Nat.le_of_eq (by simp)) (Nat.lt_succ_self _) V4.out rfl (by decide) (by decide) (Nat.le_refl _)).mono ?_
  rintro e w5 ⟨v5, rfl, hv5, hb5⟩
  have hv5' : RdI w5 w5.heap.size v5 hHops := hv5
  obtain ⟨k5, n5, A5, nd5, cd5, AL5, nl5, cl5, rfl⟩ := hv5'.form
  have hb5' := ((Below.refl w4.heap.size w4).alloc (Nat.le_refl _) _).trans (hb5.mono (le_alloc _ _))
  have V5 := Lib.hid hv5'
  have B6 := Lib.hid (B5.out.trans (hb5'.mono B5.out.size))
  have X6 := Lib.hid ((hb5'.cell (p := ⟨w2.heap.size, 4, none⟩) L5.out).trans X5.out)
  have L6 := Lib.hid (Nat.lt_of_lt_of_le L5.out hb5'.size)
  have R6 := Lib.hid ((R5.out.below hb5').more hb5'.size)
  clear hv5 hv5' hb5 hb5'
  go_wp2_with fail
  refine (bmake_any 10 2 hHops _ w5 w5.heap.size (by decide) (fun _ => by decide) (Nat.le_refl _) V5.out (HL.out _ B6.out)).mono ?_
  rintro e w6 ⟨hb6, b6, A6, nd6, cd6, z6, rfl, hm6, hnd6, hr6⟩
  rw [hh_make] at hm6
  injection hm6 with h61 h62
  subst h61 h62
  have B7 := Lib.hid (B6.out.trans (hb6.mono B6.out.size))
  have X7 := Lib.hid ((hb6.cell (p := ⟨w2.heap.size, 4, none⟩) L6.out).trans X6.out)
  have L7 := Lib.hid (Nat.lt_of_lt_of_le L6.out hb6.size)
  have R7 := Lib.hid ((R6.out.below hb6).more hb6.size)
  obtain rfl : 3 = nd6 := hr6.1
  have HR6 := Lib.hid (And.intro hnd6 hr6)
  have G6 := box5 (w := w6) (c0 := .int .u64 10) (c1 := .int .u64 2) (c2 := .int .u64 0) (c3 := .int .i64 2) (c4 := .slice A6 3 cd6) (t := 25) rfl (Below.refl _ _)
  obtain ⟨g0, g1, g2, g3, g4⟩ := G6
  clear hb6 hr6 hnd6
  unfold blkV at *
  go_wp2_with fail
  refine (hops_ok 10 2 0 2 A6 3 cd6 w6.heap.size [0x82, 9, 1] 0 9 1 [] [] [] [] [] _ (by simp) (HR6.out.2.alloc (Nat.le_refl _) _) (by decide) HR6.out.1.1 (HL.out _ (B7.out.alloc B7.out.size _)) hh_cont (by decide) (by decide)).mono ?_
  rintro e w7 ⟨rfl, hb7⟩
  have hb7' := ((Below.refl w6.heap.size w6).alloc (Nat.le_refl _) (.cells #[.int .u64 10, .int .u64 2, .int .u64 0, .int .i64 2, .slice A6 3 cd6] 25)).trans (hb7.mono (le_alloc _ _))
  have B8 := Lib.hid (B7.out.trans (hb7'.mono B7.out.size))
  have X8 := Lib.hid ((hb7'.cell (p := ⟨w2.heap.size, 4, none⟩) L7.out).trans X7.out)
  have L8 := Lib.hid (Nat.lt_of_lt_of_le L7.out hb7'.size)
  have R8 := Lib.hid ((R7.out.below hb7').more hb7'.size)
  have CZ := Lib.hid (bencode_any Blk.zero none 0 0 w7.heap.size w7 ⟨by decide, by decide, by decide⟩ (Nat.le_refl _) Rd.nil_ (HL.out _ B8.out))
  rw [hz_no, if_neg (by decide), if_neg (by decide)] at CZ
  clear hb7 hb7' g0 g1 g2 g3 g4
  go_wp2_with fail
  refine CZ.out.mono ?_
  rintro e w8 ⟨v8, rfl, ho8, hb8⟩
  obtain ⟨A8, c8, rfl, -, -, -⟩ := ho8.rdn (n := 0) rfl
  have B9 := Lib.hid (B8.out.trans (hb8.mono B8.out.size))
  have hb9 := (Below.refl w8.heap.size w8).alloc (Nat.le_refl _) (.cells #[.int .u8 133, .int .u8 1, .int .u8 1, .int .u8 0, .int .u8 0, .int .u8 65, .int .u8 5] 5)
  have x9 := (hb9.cell (p := ⟨w2.heap.size, 4, none⟩) (Nat.lt_of_lt_of_le L8.out hb8.size)).trans ((hb8.cell (p := ⟨w2.heap.size, 4, none⟩) L8.out).trans X8.out)
  have R9 := Lib.hid (((R8.out.below hb8).more hb8.size).below hb9)
  have R10 := Lib.hid (Rd.lit w8 _ rfl [0x85, 1, 1, 0, 0, 0x41, 5] 5 #[.int .u8 133, .int .u8 1, .int .u8 1, .int .u8 0, .int .u8 0, .int .u8 65, .int .u8 5] rfl 7 rfl)
  have B10 := Lib.hid (B9.out.trans (hb9.mono B9.out.size))
  clear hb8 ho8 hb9
  go_wp2_with fail
  refine (same_true A1 _ 7 c1 7 7 _ _ _ _ R9.out R10.out).mono ?_
  rintro e w9 ⟨rfl, rfl⟩
  go_wp2_with fail
  go_ret
  exact ⟨rfl, B10.out⟩
end Go.Proofs.YtbdjkihgcmebgaaGreatDoor
/- What few of layer 5's statements returns. -/
namespace Go.Proofs.YtbdjkihgcmebgaaGreatDoor
open Go.RowKit

end Go.Proofs.YtbdjkihgcmebgaaGreatDoor
/- What Same of layer 5's reference returns. -/
namespace Go.Proofs.YtbdjkihgcmebgaaGreatDoor
open Go.RowKit

set_option maxRecDepth 100000 in
set_option maxHeartbeats 2000000 in
theorem rsameB_true (t n f : Nat) (c : Int) (A A' : Option Addr) (nd cd cd' B : Nat) (d : List UInt8) (w : World) (hB : B ≤ w.heap.size) (h : Rd w B A nd d) (h' : Rd w B A' nd d) :
    Calls Tryz.prog 6 #[blkV t n f c A nd cd, blkV t n f c A' nd cd'] w fun e w' => e = .returned (.bool true) ∧ Below w.heap.size w w' := by
  have hb := ((Below.refl w.heap.size w).alloc (Nat.le_refl _) (.cells #[.int .u64 (t : Int), .int .u64 (n : Int), .int .u64 (f : Int), .int .i64 c, .slice A nd cd] 25)).alloc (le_alloc _ _) (.cells #[.int .u64 (t : Int), .int .u64 (n : Int), .int .u64 (f : Int), .int .i64 c, .slice A' nd cd'] 25)
  have C1 := Lib.hid (same_true A A' nd cd nd cd' B B d _ (h.below (hb.mono hB)) (h'.below (hb.mono hB)))
  have HB := Lib.hid hb
  clear hb h h' hB
  unfold blkV
  generalize (t : Int) = T at *
  generalize (n : Int) = N at *
  generalize (f : Int) = F at *
  go_enter Tryz.func6, Tryz.ntmps6
  go_wp2_with fail
  refine C1.out.mono ?_
  rintro e w1 ⟨rfl, rfl⟩
  go_wp2_with fail
  go_ret
  exact ⟨rfl, HB.out⟩

set_option maxRecDepth 100000 in
set_option maxHeartbeats 2000000 in
theorem rsameB_ne (t n f t' n' f' : Nat) (c c' : Int) (A A' : Option Addr) (nd cd nd' cd' : Nat) (w : World) (hne : t ≠ t') :
    Calls Tryz.prog 6 #[blkV t n f c A nd cd, blkV t' n' f' c' A' nd' cd'] w fun e w' => e = .returned (.bool false) ∧ Below w.heap.size w w' := by
  have HB := Lib.hid (((Below.refl w.heap.size w).alloc (Nat.le_refl _) (.cells #[.int .u64 (t : Int), .int .u64 (n : Int), .int .u64 (f : Int), .int .i64 c, .slice A nd cd] 25)).alloc (le_alloc _ _) (.cells #[.int .u64 (t' : Int), .int .u64 (n' : Int), .int .u64 (f' : Int), .int .i64 c', .slice A' nd' cd'] 25))
  have h1 : ((t : Int) == (t' : Int)) = false := by rw [beq_eq_false_iff_ne]; omega
  have h2 : ¬ (t : Int) = (t' : Int) := by omega
  unfold blkV
  clear hne
  go_enter Tryz.func6, Tryz.ntmps6
  go_wp2_with fail
  go_ret
  exact ⟨rfl, HB.out⟩
end Go.Proofs.YtbdjkihgcmebgaaGreatDoor
