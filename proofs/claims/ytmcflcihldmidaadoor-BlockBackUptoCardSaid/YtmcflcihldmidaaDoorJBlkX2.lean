/- A block that comes in as an argument, opened. -/
import Derived.Test.YtmcflcihldmidaaDoorJBlkC
import Derived.Test.YtmcflcihldmidaaDoorJBlkD
import Derived.Test.YtmcflcihldmidaaDoorJBlkO
import Derived.Test.YtmcflcihldmidaaDoorJNumG
import Derived.Lib.SmallJoins
import Derived.ChangeArms
import Derived.ChangeSlices
import Derived.OpenShut
namespace Go.Proofs.YtmcflcihldmidaaDoor
open Go.RowKit Go.ChangeShapes Go.WideShapes Go.ChangeAt

theorem cellsBlk : Tryd.prog.cellsOf 25 = 5 := by kernel_rfl
theorem cellsU64 : Tryd.prog.cellsOf 22 = 1 := by kernel_rfl
theorem cellsInt : Tryd.prog.cellsOf 3 = 1 := by kernel_rfl
theorem cellsBy : Tryd.prog.cellsOf 23 = 1 := by kernel_rfl
theorem arr5 {α : Type} {cs : Array α} (h : cs.size = 5) : ∃ c0 c1 c2 c3 c4, cs = #[c0, c1, c2, c3, c4] := by
  obtain ⟨l⟩ := cs
  match l, h with
  | [c0, c1, c2, c3, c4], _ => exact ⟨c0, c1, c2, c3, c4, rfl⟩
theorem wfU {n : Int} (h : (Lit.int .u64 n).wf = true) : 0 ≤ n ∧ n < 18446744073709551616 := by
  simp [Lit.wf, IntKind.min, IntKind.max, IntKind.signed, IntKind.bits] at h
  omega

/-- An argument that is a block. -/
def BlkIn (w : World) (b : Blk) (A : Option Addr) (nd cd : Nat) : Prop := Bd b ∧ (Lit.int .i64 b.crc).wf = true ∧ nd ≤ cd ∧ Rd w w.heap.size A nd b.dat

set_option maxRecDepth 100000 in
set_option maxHeartbeats 1000000 in
theorem open_blk {H : Type} {enc : TypeId × Value → H} {W : World} {r : Reach} {b0 : Nat} {v : Value} {d : DataW H} {p : List MemPlace} (hv : Value.okWide Tryd.prog W r b0 25 v) (h : DataW.Trod enc Tryd.prog W 0 (fun _ => true) true 25 v d p) :
    ∃ (b : Blk) (A : Option Addr) (nd cd : Nat), v = blkV b.typ b.num b.flg b.crc A nd cd ∧ BlkIn W b A nd cd := by
  obtain ⟨cs, rfl, hsz⟩ := okWide_struct Tryd.underlying25 hv
  obtain ⟨c0, c1, c2, c3, c4, rfl⟩ := arr5 (hsz.trans cellsBlk)
  clear hv hsz
  obtain ⟨fuel, hf⟩ := h
  obtain ⟨xs, n, _, -, hl, hlen, hfs⟩ := DataW.trod_struct Tryd.underlying25 hf
  clear hf hl
  obtain ⟨y0, y1, y2, y3, y4, rfl⟩ : ∃ y0 y1 y2 y3 y4, xs = [y0, y1, y2, y3, y4] := by
    match xs, hlen with
    | [y0, y1, y2, y3, y4], _ => exact ⟨y0, y1, y2, y3, y4, rfl⟩
  have k0 := hfs 0 _ rfl
  have k1 := hfs 1 _ rfl
  have k2 := hfs 2 _ rfl
  have k3 := hfs 3 _ rfl
  have k4 := hfs 4 _ rfl
  simp [Value.cells, cellsU64, cellsInt, cellsBy] at k0 k1 k2 k3 k4
  obtain ⟨a0, e0, rfl, w0⟩ := DataW.trod_int Tryd.underlying22 k0
  obtain ⟨a1, e1, rfl, w1⟩ := DataW.trod_int Tryd.underlying22 k1
  obtain ⟨a2, e2, rfl, w2⟩ := DataW.trod_int Tryd.underlying22 k2
  obtain ⟨a3, e3, rfl, w3⟩ := DataW.trod_int Tryd.underlying3 k3
  simp only [List.cons.injEq, and_true] at e0 e1 e2 e3
  subst e0 e1 e2 e3
  obtain ⟨g0, hg0, rfl⟩ : ∃ g : Nat, g < 18446744073709551616 ∧ a0 = (g : Int) := ⟨a0.toNat, by have h := wfU w0; omega, by have h := wfU w0; omega⟩
  obtain ⟨g1, hg1, rfl⟩ : ∃ g : Nat, g < 18446744073709551616 ∧ a1 = (g : Int) := ⟨a1.toNat, by have h := wfU w1; omega, by have h := wfU w1; omega⟩
  obtain ⟨g2, hg2, rfl⟩ : ∃ g : Nat, g < 18446744073709551616 ∧ a2 = (g : Int) := ⟨a2.toNat, by have h := wfU w2; omega, by have h := wfU w2; omega⟩
  rcases open_ints Tryd.underlying23 Tryd.underlying5 (by kernel_rfl) k4 with ⟨hcs, _⟩ | ⟨x, l, c, zs, hcs, _, hlc, hm, hz, hd, hcell, hwz⟩
  · simp only [List.cons.injEq, and_true] at hcs
    subst hcs
    exact ⟨⟨g0, g1, g2, a3, []⟩, none, 0, 0, rfl, ⟨hg0, hg1, hg2⟩, w3, Nat.le_refl _, Rd.nil_⟩
  · simp only [List.cons.injEq, and_true] at hcs
    subst hcs
    have hz' : zs.length = c := by simpa using hz
    exact ⟨⟨g0, g1, g2, a3, _⟩, some x, l, c, rfl, ⟨hg0, hg1, hg2⟩, w3, hlc, Rd.of_ints hlc hz' hcell hwz⟩
end Go.Proofs.YtmcflcihldmidaaDoor
/- What few of layer 5's statements and Same of its reference return. -/
namespace Go.Proofs.YtmcflcihldmidaaDoor
open Go.RowKit

set_option maxRecDepth 100000 in
set_option maxHeartbeats 1000000 in
theorem few_any (t n f : Nat) (c : Int) (A : Option Addr) (nd cd : Nat) (R : Bool) (w : World) (hR : R = decide (nd ≤ 5000)) :
    Calls Tryd.prog 6 #[blkV t n f c A nd cd] w fun e w' => e = .returned (.bool R) ∧ Below w.heap.size w w' := by
  have HB := Lib.hid ((Below.refl w.heap.size w).alloc (Nat.le_refl _) (.cells #[.int .u64 (t : Int), .int .u64 (n : Int), .int .u64 (f : Int), .int .i64 c, .slice A nd cd] 25))
  have h2 : decide ((nd : Int) ≤ 5000) = R := by rw [hR, Bool.eq_iff_iff]; simp; omega
  have HRR := Lib.hid hR
  clear hR
  unfold blkV
  go_enter Tryd.func6, Tryd.ntmps6
  go_wp2_with fail
  go_ret
  exact ⟨by first | (rw [HRR.out]; done) | (rw [HRR.out]; rfl) | (rw [HRR.out]; simp), HB.out⟩

set_option maxRecDepth 100000 in
set_option maxHeartbeats 2000000 in
theorem rsameB_true (t n f : Nat) (c : Int) (A A' : Option Addr) (nd cd cd' B : Nat) (d : List UInt8) (w : World) (hB : B ≤ w.heap.size) (h : Rd w B A nd d) (h' : Rd w B A' nd d) :
    Calls Tryd.prog 14 #[blkV t n f c A nd cd, blkV t n f c A' nd cd'] w fun e w' => e = .returned (.bool true) ∧ Below w.heap.size w w' := by
  have hb := ((Below.refl w.heap.size w).alloc (Nat.le_refl _) (.cells #[.int .u64 (t : Int), .int .u64 (n : Int), .int .u64 (f : Int), .int .i64 c, .slice A nd cd] 25)).alloc (le_alloc _ _) (.cells #[.int .u64 (t : Int), .int .u64 (n : Int), .int .u64 (f : Int), .int .i64 c, .slice A' nd cd'] 25)
  have C1 := Lib.hid (same_true A A' nd cd nd cd' B B d _ (h.below (hb.mono hB)) (h'.below (hb.mono hB)))
  have HB := Lib.hid hb
  clear hb h h' hB
  unfold blkV
  generalize (t : Int) = T at *
  generalize (n : Int) = N at *
  generalize (f : Int) = F at *
  go_enter Tryd.func14, Tryd.ntmps14
  go_wp2_with fail
  refine C1.out.mono ?_
  rintro e w1 ⟨rfl, rfl⟩
  go_wp2_with fail
  go_ret
  exact ⟨rfl, HB.out⟩

set_option maxRecDepth 100000 in
set_option maxHeartbeats 2000000 in
theorem rsameB_ne (t n f t' n' f' : Nat) (c c' : Int) (A A' : Option Addr) (nd cd nd' cd' : Nat) (w : World) (hne : t ≠ t') :
    Calls Tryd.prog 14 #[blkV t n f c A nd cd, blkV t' n' f' c' A' nd' cd'] w fun e w' => e = .returned (.bool false) ∧ Below w.heap.size w w' := by
  have HB := Lib.hid (((Below.refl w.heap.size w).alloc (Nat.le_refl _) (.cells #[.int .u64 (t : Int), .int .u64 (n : Int), .int .u64 (f : Int), .int .i64 c, .slice A nd cd] 25)).alloc (le_alloc _ _) (.cells #[.int .u64 (t' : Int), .int .u64 (n' : Int), .int .u64 (f' : Int), .int .i64 c', .slice A' nd' cd'] 25))
  have h1 : ((t : Int) == (t' : Int)) = false := by rw [beq_eq_false_iff_ne]; omega
  have h2 : ¬ (t : Int) = (t' : Int) := by omega
  unfold blkV
  clear hne
  go_enter Tryd.func14, Tryd.ntmps14
  go_wp2_with fail
  go_ret
  exact ⟨rfl, HB.out⟩
end Go.Proofs.YtmcflcihldmidaaDoor
/- The walk of the statement BlockTurned. -/
namespace Go.Proofs.YtmcflcihldmidaaDoor
open Go.RowKit

theorem bit_ne (x : UInt8) (r : Nat) (hr : r < 8) : x ^^^ UInt8.ofNat (2 ^ r) ≠ x := by
  intro h
  have h1 := congrArg (fun y : UInt8 => y.toNat.testBit r) h
  simp only [UInt8.toNat_xor, Nat.testBit_xor] at h1
  rw [UInt8.toNat_ofNat', Nat.testBit_mod_two_pow, Nat.testBit_two_pow] at h1
  simp [hr] at h1

/-- A turned byte, in the data or in the sum, is told. -/
theorem turned_told (b : Blk) (at_ : Nat) (v : UInt8) (hok : blkOk b = true) (hbd : Bd b) (hc : b.crc ≠ 0) (hat : at_ < (blkW b).length) (hne : v ≠ (blkW b).getD at_ 0)
    (hw : (blkW b).length - sumN b.crc - 1 - b.dat.length ≤ at_) (hw2 : at_ ≠ (blkW b).length - sumN b.crc - 1) : decB ((blkW b).set at_ v) = (.zero, 0, 51) := by
  obtain ⟨h1, h2, h3, h4, h5⟩ := blkOk_iff.1 hok
  have hk : b.crc = 1 ∨ b.crc = 2 := by omega
  have hsn : hd 2 (sumN b.crc) = [UInt8.ofNat (64 + sumN b.crc)] := by
    rcases hk with h | h <;> (rw [h]; rfl)
  have hlen : (blkW b).length = (bodyB b).length + sumN b.crc := by unfold blkW; rw [List.length_append, sumB_len]
  -- the body: what stands ahead of the data, the data, the sum's head
  obtain ⟨pre, hpre, hprb⟩ : ∃ pre, bodyB b = pre ++ (b.dat ++ [UInt8.ofNat (64 + sumN b.crc)]) ∧ ∀ d, d.length = b.dat.length → bodyB { b with dat := d } = pre ++ (d ++ [UInt8.ofNat (64 + sumN b.crc)]) := by
    refine ⟨hd 4 6 ++ (hd 0 b.typ ++ (hd 0 b.num ++ (hd 0 b.flg ++ (hd 0 b.crc.toNat ++ hd 2 b.dat.length)))), ?_, fun d hd' => ?_⟩
    · unfold bodyB partsB
      rw [if_neg hc, if_neg hc, hsn]
      simp only [wrs, wri_u, wri_b, List.append_assoc, List.append_nil]
    · unfold bodyB partsB
      simp only [if_neg hc, hsn]
      simp only [wrs, wri_u, wri_b, List.append_assoc, List.append_nil, hd']
  have hbl : (bodyB b).length = pre.length + b.dat.length + 1 := by rw [hpre]; simp; omega
  rcases Nat.lt_or_ge at_ (bodyB b).length with hlt | hge
  · -- in the data
    have hi1 : pre.length ≤ at_ := by omega
    have hi2 : at_ < pre.length + b.dat.length := by omega
    obtain ⟨i, rfl⟩ : ∃ i, at_ = pre.length + i := ⟨at_ - pre.length, by omega⟩
    have hid : i < b.dat.length := by omega
    have hset : (blkW b).set (pre.length + i) v = bodyB { b with dat := b.dat.set i v } ++ sumB b := by
      unfold blkW
      rw [hprb (b.dat.set i v) (by simp), hpre, List.set_append_left _ _ (by simp; omega), List.set_append_right _ _ (by omega), Nat.add_sub_cancel_left, List.set_append_left _ _ hid]
    have hgd : (blkW b).getD (pre.length + i) 0 = b.dat.getD i 0 := by
      unfold blkW
      rw [hpre]
      simp [List.getD, List.getElem?_append_left, List.getElem?_append_right, hid]
    rw [hgd] at hne
    have hok' : blkOk { b with dat := b.dat.set i v } = true := by rw [blkOk_iff]; simp only [List.length_set]; exact ⟨h1, h2, h3, h4, h5⟩
    have h := decB_sum { b with dat := b.dat.set i v } (sumB b) [] hok' hbd (by rw [sumB_len])
    rw [List.append_nil, if_neg] at h
    · rw [hset]; exact h
    · intro he
      have hb1 : bodyB { b with dat := b.dat.set i v } ++ nulls { b with dat := b.dat.set i v } = (bodyB b ++ nulls b).set (pre.length + i) v := by
        rw [hprb (b.dat.set i v) (by simp), hpre, List.set_append_left _ _ (by simp; omega), List.set_append_right _ _ (by omega), Nat.add_sub_cancel_left, List.set_append_left _ _ hid]
        rfl
      have he2 : crcBytes b.crc (bodyB b ++ nulls b) = crcBytes b.crc ((bodyB b ++ nulls b).set (pre.length + i) v) := by rw [← hb1]; exact he
      have hs := crc_tells b.crc hk _ _ _ he2
      have hg := congrArg (fun l : List UInt8 => l.getD (pre.length + i) 0) hs
      have hlb : pre.length + i < (bodyB b ++ nulls b).length := by rw [List.length_append]; omega
      have hg1 : ((bodyB b ++ nulls b).set (pre.length + i) v).getD (pre.length + i) 0 = v := by simp [List.getD, List.getElem?_set_self hlb]
      have hg2 : (bodyB b ++ nulls b).getD (pre.length + i) 0 = b.dat.getD i 0 := by
        rw [hpre]
        simp [List.getD, List.getElem?_append_left, List.getElem?_append_right, hid]
      simp only [hg1, hg2] at hg
      exact hne hg.symm
  · -- in the sum
    obtain ⟨i, rfl⟩ : ∃ i, at_ = (bodyB b).length + i := ⟨at_ - (bodyB b).length, by omega⟩
    have hid : i < (sumB b).length := by rw [sumB_len]; omega
    have hset : (blkW b).set ((bodyB b).length + i) v = bodyB b ++ (sumB b).set i v := by
      unfold blkW
      rw [List.set_append_right _ _ (by omega), Nat.add_sub_cancel_left]
    have hgd : (blkW b).getD ((bodyB b).length + i) 0 = (sumB b).getD i 0 := by
      unfold blkW
      simp [List.getD, List.getElem?_append_right]
    rw [hgd] at hne
    have h := decB_sum b ((sumB b).set i v) [] hok hbd (by rw [List.length_set, sumB_len])
    rw [List.append_nil, if_neg] at h
    · rw [hset]; exact h
    · intro he
      have hg := congrArg (fun l : List UInt8 => l.getD i 0) he
      have hg1 : ((sumB b).set i v).getD i 0 = v := by simp [List.getD, List.getElem?_set_self hid]
      simp only [hg1] at hg
      exact hne hg

theorem xor8B (x : UInt8) (r : Nat) : Value.int .u8 (bits BinOp.xor IntKind.u8 (x.toNat : Int) (2 ^ r % 256)) = .int .u8 ((x ^^^ UInt8.ofNat (2 ^ r)).toNat : Int) := by
  have e : ((2 : Int) ^ r % 256) = ((2 ^ r % 256 : Nat) : Int) := by rw [Int.natCast_emod]; simp
  rw [e, u8_xor_nat _ _ x.toNat_lt (Nat.mod_lt _ (by decide)), UInt8.toNat_xor, UInt8.toNat_ofNat']
end Go.Proofs.YtmcflcihldmidaaDoor
