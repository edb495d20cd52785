/- Decode of layer 3, its item read in no block that was there. -/
import Derived.Test.YtanbjifdcplmnaaGreatDoorTBlkC
import Derived.Test.YtanbjifdcplmnaaGreatDoorTCborC
import Derived.Test.YtanbjifdcplmnaaGreatDoorTCborD
import Derived.Test.YtanbjifdcplmnaaGreatDoorTCborI
import Derived.Test.YtanbjifdcplmnaaGreatDoorTCborQ
import Derived.Test.YtanbjifdcplmnaaGreatDoorTCborS
import Derived.Test.YtanbjifdcplmnaaGreatDoorTKDec2
import Derived.Test.YtanbjifdcplmnaaGreatDoorTShaE
import Derived.Lib.SmallJoins
import Derived.ChangeArms
import Derived.ChangeSlices
import Derived.OpenShut
import Derived.Lib.IfaceEq
import Derived.ChangeSame
import Derived.ChangeShapes
import Derived.Deep.Slices
import Derived.Test.YtanbjifdcplmnaaGreatDoorRows
import Derived.Test.YtanbjifdcplmnaaGreatDoorChecked
import Derived.JoinedCond
import Derived.Deep.DeepHandedRow
import Derived.KernelRfl
namespace Go.Proofs.YtanbjifdcplmnaaGreatDoor
open Go.RowKit

def GivesDL (x : Itm) (n e : Int) (w : World) (en : Ending) (w' : World) : Prop := ∃ v, en = .returned (.tuple #[v, .int .i64 n, .int .i64 e]) ∧ RdI (mask (lows w.heap.size) w') w'.heap.size v x ∧ Below w.heap.size w w'
theorem RdI.maskd {S : Nat → Bool} {W : World} {B : Nat} {v : Value} {x : Itm} (h : RdI (mask S W) B v x) : RdI (mask S W.drew) B v x := RdI.keep (w := mask S W) (w' := mask S W.drew) (fun _ _ => rfl) h

set_option maxRecDepth 100000 in
set_option maxHeartbeats 4000000 in
theorem cdecodeL_any (A : Option Addr) (n c B : Nat) (l : List UInt8) (w : World) (hB : B ≤ w.heap.size) (h : Rd w B A n l) (hn : n ≤ 140737488355328) (hc : n ≤ c) (hL : LaidE w) :
    Calls Tryz.prog 43 #[.slice A n c] w (GivesDL (decode l).1 (decode l).2.1 (decode l).2.2 w) := by
  have hst : RSt ((w.alloc (.cells #[.int .i64 0, .int .u64 0, .slice none 0 0, .slice none 0 0] 37)).alloc (.cells #[.slice A n c, .int .i64 0, .int .i64 0, .int .i64 0] 111)) (w.heap.size + 1) A n c l 0 0 0 :=
    ⟨by simp, by simp, by simp, by simp, by simp, by simp, by simp, ((h.alloc hB _).alloc (Nat.le_trans hB (le_alloc _ _)) _).more (by omega), Nat.zero_le _, hn, hc⟩
  have C1 := Lib.hid (item_all 8 _ _ _ _ _ _ _ _ _ (by rfl) (Nat.zero_le _) hst)
  obtain ⟨r, hr⟩ : ∃ r, r = dec 8 0 (l.drop 0) := ⟨_, rfl⟩
  rw [← hr] at C1
  have HR := Lib.hid hr
  have hlen := h.1
  have HL := Lib.hid hL
  clear hst h hr
  have hgl : 0 < w.heap.size := hL.lt
  clear hL
  rcases r with z | ⟨x, p', l'⟩
  · have hd : decode l = (.zero, 0, z) := by
      unfold decode
      have := HR.out
      rw [List.drop_zero] at this
      rw [← this]
    rw [hd]
    clear hd
    have HC : Hid (Calls Tryz.prog 61 #[.pointer (some ⟨w.heap.size + 1, 0, none⟩)] ((w.alloc (.cells #[.int .i64 0, .int .u64 0, .slice none 0 0, .slice none 0 0] 37)).alloc (.cells #[.slice A n c, .int .i64 0, .int .i64 0, .int .i64 0] 111)) fun e w' =>
      e = .returned (.tuple #[.agg #[.int .i64 0, .int .u64 0, .slice none 0 0, .slice none 0 0], .iface 139 (.agg #[.int .i64 z])]) ∧ Only (w.heap.size + 1) ((w.alloc (.cells #[.int .i64 0, .int .u64 0, .slice none 0 0, .slice none 0 0] 37)).alloc (.cells #[.slice A n c, .int .i64 0, .int .i64 0, .int .i64 0] 111)) w') := C1
    clear C1
    go_enter Tryz.func43, Tryz.ntmps43
    go_wp2_with fail
    refine HC.out.mono ?_
    rintro e w1 ⟨rfl, ho⟩
    have hb1 := (ho.below (by simp)).mono (B' := w.heap.size + 1) (Nat.le_refl _)
    have hb2 : Below (w.heap.size + 1) (w.alloc (.cells #[.int .i64 0, .int .u64 0, .slice none 0 0, .slice none 0 0] 37)) (w1.alloc (.cells #[.int .i64 0, .int .u64 0, .slice none 0 0, .slice none 0 0] 37)) :=
      (((Below.refl _ _).alloc (by simp) _).trans hb1).alloc (by have := hb1.size; simp at this; omega) _
    have hbw : Below w.heap.size w (w1.alloc (.cells #[.int .i64 0, .int .u64 0, .slice none 0 0, .slice none 0 0] 37)) := ((Below.refl _ _).alloc (Nat.le_refl _) _).trans (hb2.mono (Nat.le_succ _))
    have C2 := Lib.hid (number_any z _ (HL.out.below hbw hgl))
    have HB2 := Lib.hid hb2
    have HBW := Lib.hid hbw
    clear ho hb1 hb2 hbw
    go_wp2_with fail
    refine C2.out.mono ?_
    rintro e w3 ⟨rfl, hb3⟩
    have hb4 := HB2.out.trans (hb3.mono (by have := HB2.out.size; simpa using this))
    obtain ⟨⟨z0, z1, z2, z3⟩, f0, f1, f2, f3⟩ := zero_cells hb4
    have HB4 := Lib.hid (((Below.refl w.heap.size w).alloc (Nat.le_refl _) _).trans (hb4.mono (Nat.le_succ _)))
    clear hb3 hb4
    go_wp2_with fail
    refine bodyPost_ret (v := .tuple #[noItem, .int .i64 0, .int .i64 z]) (by simp [results, Tryz.results43, go_sem, z0, z1, z2, z3, noItem]) rfl ⟨_, rfl, RdI.mk_uint (by decide), set4_below HB4.out (Nat.le_refl _)⟩
  · have hd : decode l = (x, ((l.length - l'.length : Nat) : Int), 0) := by
      unfold decode
      have := HR.out
      rw [List.drop_zero] at this
      rw [← this]
    rw [hd]
    clear hd
    obtain ⟨M, hM⟩ : ∃ M, M = l.length - l'.length := ⟨_, rfl⟩
    rw [← hM]
    have HM := Lib.hid hM
    clear hM
    go_enter Tryz.func43, Tryz.ntmps43
    go_wp2_with fail
    refine C1.out.mono ?_
    rintro e w1 ⟨v, i1, rfl, hv, hs1, hl1, ho⟩
    obtain ⟨k1, n1, A1, nd1, cd1, AL1, nl1, cl1, rfl⟩ := hv.form
    have hb1 := (ho.below (by simp)).mono (B' := w.heap.size + 1) (Nat.le_refl _)
    have hsz1 : w.heap.size + 2 ≤ w1.heap.size := by have := ho.size; simpa using this
    have hb2 : Below (w.heap.size + 1) (w.alloc (.cells #[.int .i64 0, .int .u64 0, .slice none 0 0, .slice none 0 0] 37)) (w1.alloc (.cells #[.int .i64 k1, .int .u64 (n1 : Int), .slice A1 nd1 cd1, .slice AL1 nl1 cl1] 37)) :=
      (((Below.refl _ _).alloc (by simp) _).trans hb1).alloc (by omega) _
    obtain ⟨⟨z0, z1, z2, z3⟩, f0, f1, f2, f3⟩ := zero_cells hb2
    have HBW := Lib.hid (((Below.refl w.heap.size w).alloc (Nat.le_refl _) (.cells #[.int .i64 0, .int .u64 0, .slice none 0 0, .slice none 0 0] 37)).trans (hb2.mono (Nat.le_succ _)))
    have r1 := (hs1.alloc (.cells #[.int .i64 k1, .int .u64 (n1 : Int), .slice A1 nd1 cd1, .slice AL1 nl1 cl1] 37)).c1
    have HV := Lib.hid (hv.mask_go (S' := lows (w.heap.size + 2)) (w' := w1.alloc (.cells #[.int .i64 k1, .int .u64 (n1 : Int), .slice A1 nd1 cd1, .slice AL1 nl1 cl1] 37)) (B' := w1.heap.size + 1) (Nat.le_succ _) (fun k hk _ => Below.heap_alloc _ _ _ hk) (fun k _ hk => by have := lows_f.1 hk; simp at this; exact lows_f.2 this))
    have hi1 : M = i1 := by
      have := hs1.hi
      rw [HM.out, ← hl1, List.length_drop]
      omega
    have HI1 := Lib.hid hi1
    have HSZ := Lib.hid hsz1
    clear hv hs1 hl1 ho hb1 hb2 hi1 hsz1
    go_wp2_with fail
    go_region
    go_wp2_with fail
    have hv2 := (HV.out.fin (b := w.heap.size) (lo' := w.heap.size) (u0 := .int .i64 k1) (u1 := .int .u64 (n1 : Int)) (u2 := .slice A1 nd1 cd1) (u3 := .slice AL1 nl1 cl1) (by simp) (by omega) (by omega))
    have hv3 := RdI.maskd hv2
    rw [HI1.out]
    refine bodyPost_ret (v := .tuple #[.agg #[.int .i64 k1, .int .u64 (n1 : Int), .slice A1 nd1 cd1, .slice AL1 nl1 cl1], .int .i64 (i1 : Int), .int .i64 0]) (by simp [results, Tryz.results43, go_sem, z0, z1, z2, z3]) rfl ⟨_, rfl, hv3, (set4_below HBW.out (Nat.le_refl _)).drew⟩
end Go.Proofs.YtanbjifdcplmnaaGreatDoor
/- A block that comes in as an argument, opened. -/
namespace Go.Proofs.YtanbjifdcplmnaaGreatDoor
open Go.RowKit Go.ChangeShapes Go.WideShapes Go.ChangeAt

theorem cellsBlk : Tryz.prog.cellsOf 25 = 5 := by kernel_rfl
theorem cellsU64 : Tryz.prog.cellsOf 23 = 1 := by kernel_rfl
theorem cellsInt : Tryz.prog.cellsOf 3 = 1 := by kernel_rfl
theorem cellsBy : Tryz.prog.cellsOf 22 = 1 := by kernel_rfl
theorem arr5 {α : Type} {cs : Array α} (h : cs.size = 5) : ∃ c0 c1 c2 c3 c4, cs = #[c0, c1, c2, c3, c4] := by
  obtain ⟨l⟩ := cs
  match l, h with
  | [c0, c1, c2, c3, c4], _ => exact ⟨c0, c1, c2, c3, c4, rfl⟩
theorem wfU {n : Int} (h : (Lit.int .u64 n).wf = true) : 0 ≤ n ∧ n < 18446744073709551616 := by
  simp [Lit.wf, IntKind.min, IntKind.max, IntKind.signed, IntKind.bits] at h
  omega

/-- An argument that is a block. -/
def BlkIn (w : World) (b : Blk) (A : Option Addr) (nd cd : Nat) : Prop := Bd b ∧ (Lit.int .i64 b.crc).wf = true ∧ nd ≤ cd ∧ Rd w w.heap.size A nd b.dat

set_option maxRecDepth 100000 in
set_option maxHeartbeats 1000000 in
theorem open_blk {H : Type} {enc : TypeId × Value → H} {W : World} {r : Reach} {b0 : Nat} {v : Value} {d : DataW H} {p : List MemPlace} (hv : Value.okWide Tryz.prog W r b0 25 v) (h : DataW.Trod enc Tryz.prog W 0 (fun _ => true) true 25 v d p) :
    ∃ (b : Blk) (A : Option Addr) (nd cd : Nat), v = blkV b.typ b.num b.flg b.crc A nd cd ∧ BlkIn W b A nd cd := by
  obtain ⟨cs, rfl, hsz⟩ := okWide_struct Tryz.underlying25 hv
  obtain ⟨c0, c1, c2, c3, c4, rfl⟩ := arr5 (hsz.trans cellsBlk)
  clear hv hsz
  obtain ⟨fuel, hf⟩ := h
  obtain ⟨xs, n, _, -, hl, hlen, hfs⟩ := DataW.trod_struct Tryz.underlying25 hf
  clear hf hl
  obtain ⟨y0, y1, y2, y3, y4, rfl⟩ : ∃ y0 y1 y2 y3 y4, xs = [y0, y1, y2, y3, y4] := by
    match xs, hlen with
    | [y0, y1, y2, y3, y4], _ => exact ⟨y0, y1, y2, y3, y4, rfl⟩
  have k0 := hfs 0 _ rfl
  have k1 := hfs 1 _ rfl
  have k2 := hfs 2 _ rfl
  have k3 := hfs 3 _ rfl
  have k4 := hfs 4 _ rfl
  simp [Value.cells, cellsU64, cellsInt, cellsBy] at k0 k1 k2 k3 k4
  obtain ⟨a0, e0, rfl, w0⟩ := DataW.trod_int Tryz.underlying23 k0
  obtain ⟨a1, e1, rfl, w1⟩ := DataW.trod_int Tryz.underlying23 k1
  obtain ⟨a2, e2, rfl, w2⟩ := DataW.trod_int Tryz.underlying23 k2
  obtain ⟨a3, e3, rfl, w3⟩ := DataW.trod_int Tryz.underlying3 k3
  simp only [List.cons.injEq, and_true] at e0 e1 e2 e3
  subst e0 e1 e2 e3
  obtain ⟨g0, hg0, rfl⟩ : ∃ g : Nat, g < 18446744073709551616 ∧ a0 = (g : Int) := ⟨a0.toNat, by have h := wfU w0; omega, by have h := wfU w0; omega⟩
  obtain ⟨g1, hg1, rfl⟩ : ∃ g : Nat, g < 18446744073709551616 ∧ a1 = (g : Int) := ⟨a1.toNat, by have h := wfU w1; omega, by have h := wfU w1; omega⟩
  obtain ⟨g2, hg2, rfl⟩ : ∃ g : Nat, g < 18446744073709551616 ∧ a2 = (g : Int) := ⟨a2.toNat, by have h := wfU w2; omega, by have h := wfU w2; omega⟩
  rcases open_ints Tryz.underlying22 Tryz.underlying5 (by kernel_rfl) k4 with ⟨hcs, _⟩ | ⟨x, l, c, zs, hcs, _, hlc, hm, hz, hd, hcell, hwz⟩
  · simp only [List.cons.injEq, and_true] at hcs
    subst hcs
    exact ⟨⟨g0, g1, g2, a3, []⟩, none, 0, 0, rfl, ⟨hg0, hg1, hg2⟩, w3, Nat.le_refl _, Rd.nil_⟩
  · simp only [List.cons.injEq, and_true] at hcs
    subst hcs
    have hz' : zs.length = c := by simpa using hz
    exact ⟨⟨g0, g1, g2, a3, _⟩, some x, l, c, rfl, ⟨hg0, hg1, hg2⟩, w3, hlc, Rd.of_ints hlc hz' hcell hwz⟩
end Go.Proofs.YtanbjifdcplmnaaGreatDoor
/- Faults of layer 6, errors.Is over them, and numberOf. -/
namespace Go.Proofs.YtanbjifdcplmnaaGreatDoor
open Go.RowKit Go.Extern.Stop Go.Stop Go.Extern

/-- The numbers that are told as they are; all others as 60. -/
def numL : List Int := [30, 31, 32, 50, 51, 61, 62]
def numZ (z : Int) : Int := if numL.contains z then z else 60
theorem numL_get (i : Nat) (hi : i < 7) : i = 0 ∧ numL.getD i 0 = 30 ∨ i = 1 ∧ numL.getD i 0 = 31 ∨ i = 2 ∧ numL.getD i 0 = 32 ∨ i = 3 ∧ numL.getD i 0 = 50 ∨ i = 4 ∧ numL.getD i 0 = 51 ∨ i = 5 ∧ numL.getD i 0 = 61 ∨ i = 6 ∧ numL.getD i 0 = 62 := by
  match i, hi with
  | 0, _ => simp [numL]
  | 1, _ => simp [numL]
  | 2, _ => simp [numL]
  | 3, _ => simp [numL]
  | 4, _ => simp [numL]
  | 5, _ => simp [numL]
  | 6, _ => simp [numL]
theorem numZ_hit {z : Int} (i : Nat) (hi : i < 7) (h : z = numL.getD i 0) : numZ z = z := by
  rcases numL_get i hi with ⟨-, e⟩ | ⟨-, e⟩ | ⟨-, e⟩ | ⟨-, e⟩ | ⟨-, e⟩ | ⟨-, e⟩ | ⟨-, e⟩ <;> (rw [e] at h; subst h; rfl)
theorem numZ_no {z : Int} (h : ∀ j, j < 7 → z ≠ numL.getD j 0) : numZ z = 60 := by
  unfold numZ
  rw [if_neg]
  intro hc
  have := h 0 (by decide)
  have := h 1 (by decide)
  have := h 2 (by decide)
  have := h 3 (by decide)
  have := h 4 (by decide)
  have := h 5 (by decide)
  have := h 6 (by decide)
  simp [numL] at *
  omega

end Go.Proofs.YtanbjifdcplmnaaGreatDoor
/- What Dec of layer 1's reference returns. -/
namespace Go.Proofs.YtanbjifdcplmnaaGreatDoor
open Go.RowKit
open Go.Lib (decDigits)

theorem dig_cut (d : Nat) (hd : d < 10) (x y : Int) (hx : x = (d : Int)) (hy : y = (d : Int) + 1) (W : World) :
    (Instr.slice 9 (.string ⟨#[48, 49, 50, 51, 52, 53, 54, 55, 56, 57, 97, 98, 99, 100, 101, 102]⟩) (some (.int .u64 x)) (some (.int .u64 y)) none).run Tryz.prog W = .ok (.string ⟨#[UInt8.ofNat (48 + d)]⟩) W := by
  have ht := Tryz.underlying9
  subst hx hy
  match d, hd with
  | 0, _ => go_simp; try rfl
  | 1, _ => go_simp; try rfl
  | 2, _ => go_simp; try rfl
  | 3, _ => go_simp; try rfl
  | 4, _ => go_simp; try rfl
  | 5, _ => go_simp; try rfl
  | 6, _ => go_simp; try rfl
  | 7, _ => go_simp; try rfl
  | 8, _ => go_simp; try rfl
  | 9, _ => go_simp; try rfl
theorem strL_push (x : UInt8) (l : List UInt8) : (⟨#[x]⟩ : ByteArray) ++ strL l = strL (x :: l) := by
  unfold strL
  apply ByteArray.ext
  simp

end Go.Proofs.YtanbjifdcplmnaaGreatDoor
/- What layer 4's reference answers about endpoints: letter, slash, None, Check. -/
namespace Go.Proofs.YtanbjifdcplmnaaGreatDoor
open Go.RowKit

set_option maxRecDepth 100000 in
set_option maxHeartbeats 1000000 in
theorem rletter_n (X : Nat) (w : World) :
    Calls Tryz.prog 84 #[.int .u8 (X : Int)] w fun e w' => e = .returned (.bool ((decide (97 ≤ X) && decide (X ≤ 122)) || ((decide (48 ≤ X) && decide (X ≤ 57)) || (decide (X = 46) || (decide (X = 45) || decide (X = 95)))))) ∧ w = w' := by
  obtain ⟨R, hR⟩ : ∃ R, R = ((decide (97 ≤ X) && decide (X ≤ 122)) || ((decide (48 ≤ X) && decide (X ≤ 57)) || (decide (X = 46) || (decide (X = 45) || decide (X = 95))))) := ⟨_, rfl⟩
  rw [← hR]
  have HR := Lib.hid hR
  clear hR
  go_enter Tryz.func84, Tryz.ntmps84
  go_wp2
  all_goals go_ret
  all_goals
    refine ⟨congrArg (fun b => Ending.returned (Value.bool b)) ((?_ : _ = _).trans HR.out.symm), rfl⟩
    rw [Bool.eq_iff_iff]
    simp
    try omega
theorem rletter_any (x : UInt8) (w : World) :
    Calls Tryz.prog 84 #[.int .u8 (x.toNat : Int)] w fun e w' => e = .returned (.bool (letterB x)) ∧ w = w' := by
  rw [letter_num]
  exact rletter_n x.toNat w

theorem toSlash_cons (a : UInt8) (r : List UInt8) : toSlash (a :: r) = if a = 47 then 0 else toSlash r + 1 := by
  unfold toSlash
  by_cases h : a = 47
  · simp [List.takeWhile, h]
  · have : (a != 47) = true := by simpa using h
    simp [List.takeWhile, this, h]
theorem toSlash_ne : ∀ (r : List UInt8) (j : Nat) (hj : j < r.length), j < toSlash r → r[j]'hj ≠ 47
  | [], _, hj, _ => absurd hj (Nat.not_lt_zero _)
  | a :: r, 0, _, h => by
    rw [toSlash_cons] at h
    intro e
    rw [if_pos (by simpa using e)] at h
    exact absurd h (Nat.lt_irrefl _)
  | a :: r, j + 1, hj, h => by
    rw [toSlash_cons] at h
    have hj' : j < r.length := by simpa using hj
    split at h
    · exact absurd h (Nat.not_lt_zero _)
    · simpa using toSlash_ne r j hj' (by omega)
theorem toSlash_at : ∀ (r : List UInt8) (h : toSlash r < r.length), r[toSlash r]'h = 47
  | [], h => absurd h (Nat.not_lt_zero _)
  | a :: r, h => by
    have e := toSlash_cons a r
    by_cases ha : a = 47
    · rw [if_pos ha] at e
      simp only [e, List.getElem_cons_zero]
      exact ha
    · rw [if_neg ha] at e
      have h2 : toSlash r < r.length := by rw [e] at h; simpa using h
      simp only [e, List.getElem_cons_succ]
      exact toSlash_at r h2
theorem str_ix (s : ByteArray) (k : Nat) (hk : k < s.data.toList.length) (W : World) : (Instr.index 9 (.string s) (.int .i64 (k : Int))).run Tryz.prog W = .ok (.int .u8 ((s.data.toList[k]'hk).toNat)) W := by
  have hlt : k < s.size := by rw [Lib.size_eq]; exact hk
  obtain ⟨x, hx⟩ : ∃ x, x = s.data.toList[k]'hk := ⟨_, rfl⟩
  rw [← hx]
  rw [hx]
  go_simp
  rfl
/-- Where a name's third slash stands; -1: it may not be. -/
def slashI (l : List UInt8) : Int := if nameB l = true then (third l : Int) else -1
theorem slash_no {l : List UInt8} (h : nameB l = false) : slashI l = -1 := by unfold slashI; rw [h]; rfl
theorem nameB_47 (r : List UInt8) : nameB (47 :: 47 :: r) = (decide (r.length + 2 ≤ 64) && (r.all lsB && (decide (1 ≤ toSlash r) && decide (toSlash r < r.length)))) := by
  unfold nameB
  simp
theorem lsB_47 : lsB 47 = true := by decide
theorem lsB_letter {x : UInt8} (h : x ≠ 47) : lsB x = letterB x := by
  unfold lsB
  rw [beq_eq_false_iff_ne.2 h, Bool.false_or]

set_option maxRecDepth 100000 in
set_option maxHeartbeats 4000000 in
theorem rslash_any (s : ByteArray) (w : World) (hs : s.size ≤ 140737488355328) :
    Calls Tryz.prog 60 #[.string s] w fun e w' => e = .returned (.int .i64 (slashI s.data.toList)) ∧ w = w' := by
  have hsz : s.size = s.data.toList.length := Lib.size_eq s
  obtain ⟨L, hL⟩ : ∃ L, L = s.data.toList := ⟨_, rfl⟩
  by_cases h4 : s.size < 4
  · have e1 : (s.size : Int) < 4 := by omega
    have hn := Lib.hid (slash_no (l := s.data.toList) (by
      cases hb : nameB s.data.toList with
      | false => rfl
      | true =>
        obtain ⟨r, hr, -, h1, h2, -⟩ := name_head hb
        rw [hr] at hsz
        simp at hsz
        omega))
    clear hL hsz
    go_enter Tryz.func60, Tryz.ntmps60
    go_wp2_with fail
    go_ret
    exact ⟨(show Ending.returned _ = Ending.returned _ by rw [hn.out]; rfl), rfl⟩
  by_cases h64 : 64 < s.size
  · have e0 : ¬ (s.size : Int) < 4 := by omega
    have e1 : (64 : Int) < (s.size : Int) := by omega
    have e2 : decide ((64 : Int) < (s.size : Int)) = true := decide_eq_true e1
    have hn := Lib.hid (slash_no (l := s.data.toList) (by
      cases hb : nameB s.data.toList with
      | false => rfl
      | true =>
        obtain ⟨r, hr, -, -, -, h5⟩ := name_head hb
        omega))
    clear hL hsz
    go_enter Tryz.func60, Tryz.ntmps60
    go_wp2_with fail
    go_ret
    exact ⟨(show Ending.returned _ = Ending.returned _ by rw [hn.out]; rfl), rfl⟩
  have e0 : ¬ (s.size : Int) < 4 := by omega
  have e1 : ¬ (64 : Int) < (s.size : Int) := by omega
  have e2 : decide ((64 : Int) < (s.size : Int)) = false := decide_eq_false e1
  have hix : ∀ (k : Nat) (hk : k < s.data.toList.length) (W : World), (Instr.index 9 (.string s) (.int .i64 (k : Int))).run Tryz.prog W = .ok (.int .u8 ((s.data.toList[k]'hk).toNat)) W := by
    exact fun k hk W => str_ix s k hk W
  have HIX := Lib.hid hix
  have i0 : ∀ W, (Instr.index 9 (.string s) (.int .i64 0)).run Tryz.prog W = _ := fun W => hix 0 (by omega) W
  have i1 : ∀ W, (Instr.index 9 (.string s) (.int .i64 1)).run Tryz.prog W = _ := fun W => hix 1 (by omega) W
  clear hix
  have hl4 : 4 ≤ s.data.toList.length := by omega
  have hl64 : s.data.toList.length ≤ 64 := by omega
  generalize ha : s.data.toList[0]'(by omega) = a at *
  generalize hb : s.data.toList[1]'(by omega) = b at *
  obtain ⟨r, hr⟩ : ∃ r, s.data.toList = a :: b :: r := by
    match hm : s.data.toList, hl4 with
    | a' :: b' :: r, _ =>
      simp only [hm, List.getElem_cons_zero, List.getElem_cons_succ] at ha hb
      exact ⟨r, by rw [← ha, ← hb]⟩
  have h47 : ∀ x : UInt8, ((x.toNat : Int) != 47) = decide (x ≠ 47) := fun x => by
    rw [Bool.eq_iff_iff]
    simp
    constructor
    · intro h e; subst e; exact h rfl
    · intro h e; exact h (UInt8.toNat_inj.1 (by simpa using (show x.toNat = 47 by omega)))
  by_cases ha47 : a = 47
  case neg =>
    have t1 : ((a.toNat : Int) != 47) = true := by rw [h47]; simpa using ha47
    have hn := Lib.hid (slash_no (l := s.data.toList) (by
      cases hb : nameB s.data.toList with
      | false => rfl
      | true =>
        obtain ⟨r', hr', -⟩ := name_head hb
        rw [hr] at hr'
        injection hr' with h1 _
        exact absurd h1 ha47))
    clear hL hsz ha hb hr h47 HIX ha47 hl4 hl64
    go_enter Tryz.func60, Tryz.ntmps60
    go_wp2_with fail
    go_ret
    exact ⟨(show Ending.returned _ = Ending.returned _ by rw [hn.out]; rfl), rfl⟩
  subst ha47
  by_cases hb47 : b = 47
  case neg =>
    have t1 : ((b.toNat : Int) != 47) = true := by rw [h47]; simpa using hb47
    have hn := Lib.hid (slash_no (l := s.data.toList) (by
      cases hb : nameB s.data.toList with
      | false => rfl
      | true =>
        obtain ⟨r', hr', -⟩ := name_head hb
        rw [hr] at hr'
        injection hr' with _ h1
        injection h1 with h1 _
        exact absurd h1 hb47))
    clear hL hsz ha hb hr h47 HIX hb47 hl4 hl64
    go_enter Tryz.func60, Tryz.ntmps60
    go_wp2_with fail
    go_ret
    exact ⟨(show Ending.returned _ = Ending.returned _ by rw [hn.out]; rfl), rfl⟩
  subst hb47
  have HSZ : Hid (s.size = r.length + 2) := by show _ = _; rw [hsz, hr]; rfl
  have HNM : Hid (nameB s.data.toList = (r.all lsB && (decide (1 ≤ toSlash r) && decide (toSlash r < r.length)))) := by
    show _ = _
    rw [hr, nameB_47, decide_eq_true (by have := HSZ.out; omega), Bool.true_and]
  have HTH : Hid (third s.data.toList = 2 + toSlash r) := by show _ = _; rw [hr]; rfl
  have HXR : Hid (∀ (j : Nat) (hj : j < r.length) (W : World), (Instr.index 9 (.string s) (.int .i64 ((j + 2 : Nat) : Int))).run Tryz.prog W = .ok (.int .u8 ((r[j]'hj).toNat)) W) := fun j hj W => by
    have h1 : j + 2 < s.data.toList.length := by rw [hr]; simpa using hj
    rw [HIX.out (j + 2) h1 W]
    simp only [hr, List.getElem_cons_succ]
  have NE := Lib.hid (toSlash_ne r)
  have AT := Lib.hid (toSlash_at r)
  obtain ⟨R, hR⟩ : ∃ R, R = slashI s.data.toList := ⟨_, rfl⟩
  rw [← hR]
  have HR := Lib.hid hR
  have H47 := Lib.hid h47
  clear hL hsz ha hb hr h47 HIX hl4 hl64 hR h4 h64
  go_enter Tryz.func60, Tryz.ntmps60
  go_wp2_with fail
  clear i0 i1 e0 e1 e2
  go_loop [3, 4] (fun t i => ∃ (k I : Nat) (tv : Int), k ≤ r.length ∧ Hid (I = k + 2) ∧ i = .int .i64 (I : Int) ∧ t = .int .i64 tv ∧ Hid (tv = if toSlash r < k then ((2 + toSlash r : Nat) : Int) else -1) ∧ Hid ((r.take k).all lsB = true)) (fun _ i => s.size - (intOf i).toNat)
  case atStart => exact ⟨0, 2, -1, Nat.zero_le _, rfl, rfl, rfl, by show _ = _; rw [if_neg (Nat.not_lt_zero _)], by show _ = _; simp⟩
  case round =>
    obtain ⟨k, I, tv, hk, hI, rfl, rfl, htv, hall⟩ := hrel
    by_cases hlt : k < r.length
    · obtain ⟨x, hx⟩ : ∃ x, x = r[k]'hlt := ⟨_, rfl⟩
      have hix : ∀ W, (Instr.index 9 (.string s) (.int .i64 (I : Int))).run Tryz.prog W = .ok (.int .u8 (x.toNat : Int)) W := fun W => by
        have := HXR.out k hlt W
        rw [← hI.out, ← hx] at this
        exact this
      have hkk : (I : Int) < (s.size : Int) := by have := HSZ.out; have := hI.out; omega
      have hkd : decide ((I : Int) < (s.size : Int)) = true := decide_eq_true hkk
      have C1 := Lib.hid (rletter_any x w)
      have hne := H47.out x
      have HLT := Lib.hid hlt
      have HXK : Hid (r.getD k 0 = x) := by show _ = _; rw [hx]; simp [List.getD, hlt]
      have hstep : (r.take (k + 1)).all lsB = lsB x := by
        rw [List.take_succ_eq_append_getElem hlt, List.all_append, hall.out, Bool.true_and, ← hx]
        simp
      have HST := Lib.hid hstep
      have heq : ((x.toNat : Int) == 47) = !decide (x ≠ 47) := by rw [← hne]; simp [bne]
      have HX := Lib.hid hx
      clear hstep hx
      by_cases hx47 : x = 47
      · have hlx : lsB x = true := by rw [hx47]; exact lsB_47
        have HLX : Hid ((r.take (k + 1)).all lsB = true) := by show _ = _; rw [HST.out]; exact hlx
        rw [decide_eq_false (by simpa using hx47)] at hne heq
        simp only [Bool.not_false] at heq
        have HX47 : Hid (r[k]'hlt = 47) := HX.out.symm.trans hx47
        by_cases hT : toSlash r < k
        · have ht : tv = ((2 + toSlash r : Nat) : Int) := by rw [htv.out, if_pos hT]
          have t0 : ¬ tv < 0 := by omega
          have t0d : decide (tv < 0) = false := decide_eq_false t0
          have HT2 : Hid (tv = if toSlash r < k + 1 then ((2 + toSlash r : Nat) : Int) else -1) := by show _ = _; rw [if_pos (by omega)]; exact ht
          clear ht hT hlx hx47 HX47 HX
          go_wp2_with fail
          go_round
          case rel => exact ⟨k + 1, I + 1, tv, by have := HLT.out; omega, by show _ = _; have := hI.out; omega, by go_num, rfl, HT2, HLX.out⟩
          case measure => simp [intOf]; omega
        · have ht : tv = -1 := by rw [htv.out, if_neg hT]
          subst ht
          have hTk : toSlash r = k := by
            rcases Nat.lt_or_ge k (toSlash r) with h | h
            · exact absurd HX47.out (NE.out k hlt h)
            · omega
          have HT2 : Hid ((I : Int) = if toSlash r < k + 1 then ((2 + toSlash r : Nat) : Int) else -1) := by show _ = _; rw [if_pos (by omega)]; have := hI.out; omega
          clear hT hlx hx47 HX47 HX hTk htv
          go_wp2_with fail
          go_round
          case rel => exact ⟨k + 1, I + 1, (I : Int), by have := HLT.out; omega, by show _ = _; have := hI.out; omega, by go_num, rfl, HT2, HLX.out⟩
          case measure => simp [intOf]; omega
      · have hne2 : decide (x ≠ 47) = true := by simpa using hx47
        rw [hne2] at hne heq
        simp only [Bool.not_true] at heq
        have hls := lsB_letter hx47
        rw [hls] at HST
        have HX47 : Hid (r[k]'hlt ≠ 47) := by show _ ≠ _; rw [← HX.out]; exact hx47
        clear hne2 hls hx47 HX
        cases hlx : letterB x with
        | true =>
          rw [hlx] at C1 HST
          have HT2 : Hid (tv = if toSlash r < k + 1 then ((2 + toSlash r : Nat) : Int) else -1) := by
            show _ = _
            rw [htv.out]
            by_cases hT : toSlash r < k
            · rw [if_pos hT, if_pos (by omega)]
            · rw [if_neg hT, if_neg (fun h => by
                have hTk : toSlash r = k := by omega
                have := AT.out (by rw [hTk]; exact hlt)
                simp only [hTk] at this
                exact HX47.out this)]
          clear hlx HX47 htv
          go_wp2_with fail
          refine C1.out.mono ?_
          rintro e w' ⟨rfl, rfl⟩
          go_wp2_with fail
          go_round
          case rel => exact ⟨k + 1, I + 1, tv, by have := HLT.out; omega, by show _ = _; have := hI.out; omega, by go_num, rfl, HT2, HST.out⟩
          case measure => simp [intOf]; omega
        | false =>
          rw [hlx] at C1 HST
          have hf : R = -1 := by
            rw [HR.out]
            refine slash_no ?_
            rw [HNM.out, ← List.take_append_drop (k + 1) r, List.all_append, HST.out]
            simp
          subst hf
          clear hlx HX47 htv
          go_wp2_with fail
          refine C1.out.mono ?_
          rintro e w' ⟨rfl, rfl⟩
          go_wp2_with fail
          go_ret
          exact ⟨rfl, rfl⟩
    · obtain rfl : k = r.length := by omega
      have hkk : ¬ (I : Int) < (s.size : Int) := by have := HSZ.out; have := hI.out; omega
      have hkd : decide ((I : Int) < (s.size : Int)) = false := decide_eq_false hkk
      have hal := hall.out
      rw [List.take_length] at hal
      have hnm := HNM.out
      rw [hal, Bool.true_and] at hnm
      have hrr := HR.out
      unfold slashI at hrr
      rw [hnm, HTH.out] at hrr
      by_cases h3 : tv < 3
      · have hR1 : R = -1 := by
          rw [hrr, if_neg]
          intro h
          simp only [Bool.and_eq_true, decide_eq_true_eq] at h
          have := htv.out
          rw [if_pos h.2] at this
          omega
        subst hR1
        clear hal hnm hrr
        go_wp2_with fail
        go_ret
        exact ⟨rfl, rfl⟩
      · have hR1 : R = tv := by
          have := htv.out
          by_cases hT : toSlash r < r.length
          · rw [if_pos hT] at this
            rw [hrr, if_pos (by simp only [Bool.and_eq_true, decide_eq_true_eq]; omega), this]
          · rw [if_neg hT] at this
            omega
        subst hR1
        clear hal hnm hrr
        go_wp2_with fail
        go_ret
        exact ⟨rfl, rfl⟩
end Go.Proofs.YtanbjifdcplmnaaGreatDoor
/- What layer 4's reference answers about endpoints: None, Check. -/
namespace Go.Proofs.YtanbjifdcplmnaaGreatDoor
open Go.RowKit

theorem slash_pos (l : List UInt8) : decide ((0 : Int) < slashI l) = nameB l := by
  unfold slashI
  cases nameB l with
  | true => rw [if_pos rfl]; unfold third; simp; omega
  | false => rw [if_neg (by decide)]; decide

set_option maxRecDepth 100000 in
set_option maxHeartbeats 4000000 in
theorem rcheckE_any (sc : Int) (s : ByteArray) (n v : Nat) (w : World) (hs : s.size ≤ 140737488355328) :
    Calls Tryz.prog 41 #[epdV sc s n v] w fun e w' => e = .returned (.bool (checkB (ep sc s n v))) ∧ Below w.heap.size w w' := by
  have hbe : s.toList.isEmpty = s.data.toList.isEmpty := by rw [Lib.toList_data]
  obtain ⟨R, hR⟩ : ∃ R, R = checkB (ep sc s n v) := ⟨_, rfl⟩
  rw [← hR]
  have hR2 : R = if sc = 1 then (n == 0 && v == 0) && (s.data.toList.isEmpty || nameB s.data.toList) else sc == 2 && (s.data.toList.isEmpty && (decide (0 < n) && (decide (n ≤ 4294967295) && decide (v ≤ 4294967295)))) := hR
  clear hR
  have CS := Lib.hid (fun W => rslash_any s W hs)
  have SP := slash_pos s.data.toList
  generalize slashI s.data.toList = z at *
  generalize nameB s.data.toList = nb at *
  generalize s.data.toList.isEmpty = be at *
  have HR := Lib.hid hR2
  clear hR2 hs
  unfold epdV
  by_cases h1 : sc = 1
  · subst h1
    by_cases hn : n = 0
    · subst hn
      by_cases hv : v = 0
      · subst hv
        cases be with
        | true =>
          go_enter Tryz.func41, Tryz.ntmps41
          go_wp2_with fail
          go_ret
          exact ⟨congrArg (fun b => Ending.returned (Value.bool b)) ((by simp : true = _).trans HR.out.symm), (Below.refl _ _).alloc (Nat.le_refl _) _⟩
        | false =>
          go_enter Tryz.func41, Tryz.ntmps41
          go_wp2_with fail
          refine (CS.out _).mono ?_
          rintro e w' ⟨rfl, rfl⟩
          cases nb with
          | true =>
            have z0 : (0 : Int) < z := by simpa using SP
            go_wp2_with fail
            go_ret
            exact ⟨congrArg (fun b => Ending.returned (Value.bool b)) ((by simp : true = _).trans HR.out.symm), (Below.refl _ _).alloc (Nat.le_refl _) _⟩
          | false =>
            have z0 : ¬ (0 : Int) < z := by simpa using SP
            go_wp2_with fail
            go_ret
            exact ⟨congrArg (fun b => Ending.returned (Value.bool b)) ((by simp : false = _).trans HR.out.symm), (Below.refl _ _).alloc (Nat.le_refl _) _⟩
      · have e1 : ((v : Int) == 0) = false := by simp; omega
        go_enter Tryz.func41, Tryz.ntmps41
        go_wp2_with fail
        go_ret
        exact ⟨congrArg (fun b => Ending.returned (Value.bool b)) ((by simp [hv] : false = _).trans HR.out.symm), (Below.refl _ _).alloc (Nat.le_refl _) _⟩
    · have e1 : ((n : Int) == 0) = false := by simp; omega
      go_enter Tryz.func41, Tryz.ntmps41
      go_wp2_with fail
      go_ret
      exact ⟨congrArg (fun b => Ending.returned (Value.bool b)) ((by simp [hn] : false = _).trans HR.out.symm), (Below.refl _ _).alloc (Nat.le_refl _) _⟩
  · have e1 : (sc == 1) = false := by simpa using h1
    have HR2 : Hid (R = (sc == 2 && (be && (decide (0 < n) && (decide (n ≤ 4294967295) && decide (v ≤ 4294967295)))))) := by show _ = _; rw [HR.out, if_neg h1]
    clear HR h1 SP
    cases be with
    | true =>
      go_enter Tryz.func41, Tryz.ntmps41
      go_wp2
      all_goals go_ret
      all_goals
        refine ⟨congrArg (fun b => Ending.returned (Value.bool b)) ((?_ : _ = _).trans HR2.out.symm), (Below.refl _ _).alloc (Nat.le_refl _) _⟩
        rw [Bool.eq_iff_iff]
        simp
        try omega
    | false =>
      go_enter Tryz.func41, Tryz.ntmps41
      go_wp2
      all_goals go_ret
      all_goals
        refine ⟨congrArg (fun b => Ending.returned (Value.bool b)) ((?_ : _ = _).trans HR2.out.symm), (Below.refl _ _).alloc (Nat.le_refl _) _⟩
        rw [Bool.eq_iff_iff]
        simp
end Go.Proofs.YtanbjifdcplmnaaGreatDoor
/- What Text of layer 4's reference returns. (Made by gen/RfG.py.) -/
namespace Go.Proofs.YtanbjifdcplmnaaGreatDoor
open Go.RowKit
open Go.Lib (decDigits)

end Go.Proofs.YtanbjifdcplmnaaGreatDoor
/- Text of the reference of layer 3. -/
namespace Go.Proofs.YtanbjifdcplmnaaGreatDoor
open Go.RowKit

set_option maxRecDepth 100000 in
set_option maxHeartbeats 1000000 in
theorem rtext_any (s : ByteArray) (w : World) (hs : s.size ≤ 140737488355328) :
    Calls Tryz.prog 42 #[.string s] w (GivesI (.mk 3 0 s.data.toList []) w) := by
  obtain ⟨c, W', hrun, hrd, hc, hb, hz⟩ := conv_bytes (w.alloc (.cells #[.int .i64 0, .int .u64 0, .slice none 0 0, .slice none 0 0] 37)) s
  have hz1 : (w.alloc (.cells #[.int .i64 0, .int .u64 0, .slice none 0 0, .slice none 0 0] 37)).heap.size = w.heap.size + 1 := by simp
  rw [hz1] at hrun hrd hb hz
  obtain ⟨⟨z0, z1, z2, z3⟩, f0, f1, f2, f3⟩ := zero_cells hb
  have HRD := Lib.hid hrd
  have HB := Lib.hid hb
  have HZ := Lib.hid hz
  have HS := Lib.hid hs
  clear hrd hb hz hz1 hs
  go_enter Tryz.func42, Tryz.ntmps42
  go_wp2_with fail
  have hsz4 : ((((W'.setCell ⟨w.heap.size, 0, none⟩ (.int .i64 3)).setCell ⟨w.heap.size, 1, none⟩ (.int .u64 0)).setCell ⟨w.heap.size, 2, none⟩ (.slice (some ⟨w.heap.size + 1, 0, none⟩) s.size c)).setCell ⟨w.heap.size, 3, none⟩ (.slice none 0 0)).heap.size = W'.heap.size := by simp [World.setCell]
  refine bodyPost_ret (v := .agg #[.int .i64 3, .int .u64 0, .slice (some ⟨w.heap.size + 1, 0, none⟩) s.size c, .slice none 0 0]) (by simp [results, Tryz.results42, go_sem, z0, z1, z2, z3]) rfl ⟨_, rfl, RdI.mk_data (by decide) hc HS.out ?_, ?_⟩
  · rw [hsz4, HZ.out]
    exact HRD.out.set4 (fun _ b o h => (by cases h; omega))
  · exact below_set4 (((Below.refl _ _).alloc (Nat.le_refl _) _).trans (HB.out.mono (Nat.le_succ _))) (Nat.le_refl _)

end Go.Proofs.YtanbjifdcplmnaaGreatDoor
/- Same of the reference of layer 3. -/
namespace Go.Proofs.YtanbjifdcplmnaaGreatDoor
open Go.RowKit

set_option maxRecDepth 100000 in
set_option maxHeartbeats 4000000 in
theorem rsame_n : ∀ (m : Nat) (x : Itm) (v v' : Value) (w : World) (B : Nat), par x < m → B ≤ w.heap.size → RdI w B v x → RdI w B v' x →
    Calls Tryz.prog 29 #[v, v'] w fun e w' => e = .returned (.bool true) ∧ Below w.heap.size w w'
  | 0, _, _, _, _, _, h, _, _, _ => absurd h (Nat.not_lt_zero _)
  | m + 1, .mk k n d l, v, v', w, B, hm, hB, h, h' => by
    obtain ⟨A, nd, cd, AL, cl, rfl, h1, h2, h3, h4, h5, h7⟩ := h.open
    obtain ⟨A', nd', cd', AL', cl', rfl, h1', h2', h3', h4', h5', h7'⟩ := h'.open
    obtain rfl : nd = nd' := h4.1.symm.trans h4'.1
    have IH := Lib.hid (rsame_n m)
    have H7 := Lib.hid h7
    have H7' := Lib.hid h7'
    have C1 := Lib.hid (fun W (hb : Below w.heap.size w W) => same_true A A' nd cd nd cd' B B d W (h4.below (hb.mono hB)) (h4'.below (hb.mono hB)))
    rw [par] at hm
    clear h1 h4 h7 h h1' h4' h7' h' h2'
    generalize hL : l.length = N at *
    have HL := Lib.hid hL
    have HB0 := Lib.hid (((Below.refl w.heap.size w).alloc (Nat.le_refl _) (.cells #[.int .i64 k, .int .u64 (n : Int), .slice A nd cd, .slice AL N cl] 37)).alloc (le_alloc _ _) (.cells #[.int .i64 k, .int .u64 (n : Int), .slice A' nd cd', .slice AL' N cl'] 37))
    clear hL
    go_enter Tryz.func29, Tryz.ntmps29
    go_wp2_with fail
    refine (C1.out _ HB0.out).mono ?_
    rintro e w1 ⟨rfl, rfl⟩
    go_wp2_with fail
    clear C1
    have f1 : ((w.alloc (.cells #[.int .i64 k, .int .u64 (n : Int), .slice A nd cd, .slice AL N cl] 37)).alloc (.cells #[.int .i64 k, .int .u64 (n : Int), .slice A' nd cd', .slice AL' N cl'] 37)).cell? ⟨w.heap.size, 3, none⟩ = some (.slice AL N cl) := by simp
    have f2 : ((w.alloc (.cells #[.int .i64 k, .int .u64 (n : Int), .slice A nd cd, .slice AL N cl] 37)).alloc (.cells #[.int .i64 k, .int .u64 (n : Int), .slice A' nd cd', .slice AL' N cl'] 37)).cell? ⟨w.heap.size + 1, 3, none⟩ = some (.slice AL' N cl') := by simp
    have fz : ((w.alloc (.cells #[.int .i64 k, .int .u64 (n : Int), .slice A nd cd, .slice AL N cl] 37)).alloc (.cells #[.int .i64 k, .int .u64 (n : Int), .slice A' nd cd', .slice AL' N cl'] 37)).heap.size = w.heap.size + 2 := by simp
    have F1 := Lib.hid f1
    have F2 := Lib.hid f2
    have FZ := Lib.hid fz
    clear f1 f2 fz
    generalize ((w.alloc (.cells #[.int .i64 k, .int .u64 (n : Int), .slice A nd cd, .slice AL N cl] 37)).alloc (.cells #[.int .i64 k, .int .u64 (n : Int), .slice A' nd cd', .slice AL' N cl'] 37)) = W0 at *
    go_loopw [4, 5] (fun rs i wr => ∃ j : Nat, j ≤ N ∧ rs = .bool false ∧ i = .int .i64 j ∧ Hid (Below (w.heap.size + 2) W0 wr))
      (fun _ i _ => N - (intOf i).toNat)
    case atStart => exact ⟨0, Nat.zero_le _, rfl, rfl, Below.refl _ _⟩
    case round =>
      obtain ⟨j, hj, rfl, rfl, hbel⟩ := hrel
      have q1 : wr.cell? ⟨w.heap.size, 3, none⟩ = some (.slice AL N cl) := (hbel.out.cell (p := ⟨w.heap.size, 3, none⟩) (by simp)).trans F1.out
      have q2 : wr.cell? ⟨w.heap.size + 1, 3, none⟩ = some (.slice AL' N cl') := (hbel.out.cell (p := ⟨w.heap.size + 1, 3, none⟩) (by simp)).trans F2.out
      have hsz : w.heap.size + 2 ≤ wr.heap.size := by have := hbel.out.size; have := FZ.out; omega
      have hs' : Below w.heap.size w wr := HB0.out.trans (hbel.out.mono (by omega))
      have HS := Lib.hid hs'
      by_cases hlt : j < N
      · obtain ⟨b, o, rfl, hb, hs⟩ := H7.out (by omega)
        obtain ⟨b', o', rfl, hb', hs2⟩ := H7'.out (by omega)
        have hjl : j < l.length := by rw [HL.out]; exact hlt
        obtain ⟨c0, c1, c2, c3, g0, g1, g2, g3, gx⟩ := hs.get j hjl
        obtain ⟨x0, x1, x2, x3, p0, p1, p2, p3, px⟩ := hs2.get j hjl
        have e0 : wr.cell? ⟨b, o + j * 4, none⟩ = some c0 := (hs'.cell (p := ⟨b, o + j * 4, none⟩) (by show b < _; omega)).trans g0
        have e1 : wr.cell? ⟨b, o + j * 4 + 1, none⟩ = some c1 := (hs'.cell (p := ⟨b, o + j * 4 + 1, none⟩) (by show b < _; omega)).trans g1
        have e2 : wr.cell? ⟨b, o + j * 4 + 2, none⟩ = some c2 := (hs'.cell (p := ⟨b, o + j * 4 + 2, none⟩) (by show b < _; omega)).trans g2
        have e3 : wr.cell? ⟨b, o + j * 4 + 3, none⟩ = some c3 := (hs'.cell (p := ⟨b, o + j * 4 + 3, none⟩) (by show b < _; omega)).trans g3
        have r0 : wr.cell? ⟨b', o' + j * 4, none⟩ = some x0 := (hs'.cell (p := ⟨b', o' + j * 4, none⟩) (by show b' < _; omega)).trans p0
        have r1 : wr.cell? ⟨b', o' + j * 4 + 1, none⟩ = some x1 := (hs'.cell (p := ⟨b', o' + j * 4 + 1, none⟩) (by show b' < _; omega)).trans p1
        have r2 : wr.cell? ⟨b', o' + j * 4 + 2, none⟩ = some x2 := (hs'.cell (p := ⟨b', o' + j * 4 + 2, none⟩) (by show b' < _; omega)).trans p2
        have r3 : wr.cell? ⟨b', o' + j * 4 + 3, none⟩ = some x3 := (hs'.cell (p := ⟨b', o' + j * 4 + 3, none⟩) (by show b' < _; omega)).trans p3
        have hpg : par (l[j]'hjl) ≤ pars l := par_get _
        have C1 := Lib.hid (IH.out (l[j]'hjl) _ _ wr.drew B (by omega) (by show B ≤ wr.heap.size; omega) ((gx.below (hs'.mono hB)).below Below.drew_) ((px.below (hs'.mono hB)).below Below.drew_))
        clear g0 g1 g2 g3 gx hs hs' p0 p1 p2 p3 px hs2 hpg
        have i0 : (0 : Int) ≤ (j : Int) := by omega
        have i1 : (j : Int) < (N : Int) := by omega
        have HHB := Lib.hid hB
        have HZ := Lib.hid hsz
        have HBb := Lib.hid hb
        have HBb' := Lib.hid hb'
        clear hB hsz hb hb'
        go_wp2_with fail
        go_region_held3 (fun W => W.cell? ⟨w.heap.size, 3, none⟩ = some (.slice (some ⟨b, o, none⟩) N cl) ∧ W.cell? ⟨w.heap.size + 1, 3, none⟩ = some (.slice (some ⟨b', o', none⟩) N cl') ∧
            W.cell? ⟨b, o + j * 4, none⟩ = some c0 ∧ W.cell? ⟨b, o + j * 4 + 1, none⟩ = some c1 ∧ W.cell? ⟨b, o + j * 4 + 2, none⟩ = some c2 ∧ W.cell? ⟨b, o + j * 4 + 3, none⟩ = some c3 ∧
            W.cell? ⟨b', o' + j * 4, none⟩ = some x0 ∧ W.cell? ⟨b', o' + j * 4 + 1, none⟩ = some x1 ∧ W.cell? ⟨b', o' + j * 4 + 2, none⟩ = some x2 ∧ W.cell? ⟨b', o' + j * 4 + 3, none⟩ = some x3)
          (first | (exact ⟨q1, q2, e0, e1, e2, e3, r0, r1, r2, r3⟩) | (exact ⟨(HB1.out.cell (p := ⟨w.heap.size, 3, none⟩) (by have := HZ.out; show w.heap.size < _; omega)).trans q1, (HB1.out.cell (p := ⟨w.heap.size + 1, 3, none⟩) (by have := HZ.out; show w.heap.size + 1 < _; omega)).trans q2,
              (HB1.out.cell (p := ⟨b, o + j * 4, none⟩) HLb.out).trans e0, (HB1.out.cell (p := ⟨b, o + j * 4 + 1, none⟩) HLb.out).trans e1, (HB1.out.cell (p := ⟨b, o + j * 4 + 2, none⟩) HLb.out).trans e2, (HB1.out.cell (p := ⟨b, o + j * 4 + 3, none⟩) HLb.out).trans e3,
              (HB1.out.cell (p := ⟨b', o' + j * 4, none⟩) HLb'.out).trans r0, (HB1.out.cell (p := ⟨b', o' + j * 4 + 1, none⟩) HLb'.out).trans r1, (HB1.out.cell (p := ⟨b', o' + j * 4 + 2, none⟩) HLb'.out).trans r2, (HB1.out.cell (p := ⟨b', o' + j * 4 + 3, none⟩) HLb'.out).trans r3⟩) | fail)
          (first
            | (go_at_call 29; refine C1.out.mono ?_; rintro e w1 ⟨rfl, hb1⟩; have HB1 := Lib.hid (((Below.refl wr.heap.size wr).drew).trans hb1); have HLb : Hid (b < wr.heap.size) := Nat.lt_of_lt_of_le HBb.out (Nat.le_trans HHB.out (Nat.le_trans (Nat.le_add_right _ 2) HZ.out)); have HLb' : Hid (b' < wr.heap.size) := Nat.lt_of_lt_of_le HBb'.out (Nat.le_trans HHB.out (Nat.le_trans (Nat.le_add_right _ 2) HZ.out)); clear hb1)
            | fail)
        go_wp2_with fail
        go_roundw
        case rel => exact ⟨j + 1, by omega, rfl, by go_num, hbel.out.trans (HB1.out.mono HZ.out)⟩
        case measure => simp [intOf]; omega
      · obtain rfl : j = N := by omega
        clear hs'
        go_wp2_with fail
        go_ret
        exact ⟨rfl, HS.out⟩
end Go.Proofs.YtanbjifdcplmnaaGreatDoor
/- deep of layer 5's statements: the levels of an item, as far as a bound. -/
namespace Go.Proofs.YtanbjifdcplmnaaGreatDoor
open Go.RowKit

def mxL : List Nat → Nat | [] => 0 | a :: r => max a (mxL r)
theorem mxL_snoc : ∀ (l : List Nat) (a : Nat), mxL (l ++ [a]) = max (mxL l) a
  | [], a => by simp [mxL]
  | b :: r, a => by rw [List.cons_append, mxL, mxL, mxL_snoc r a, Nat.max_assoc]
theorem mxL_le : ∀ (l : List Nat) (B : Nat), (∀ a ∈ l, a ≤ B) → mxL l ≤ B
  | [], B, _ => Nat.zero_le _
  | b :: r, B, h => by rw [mxL]; exact Nat.max_le.2 ⟨h b (by simp), mxL_le r B (fun a ha => h a (by simp [ha]))⟩
theorem le_mxL : ∀ (l : List Nat) (a : Nat), a ∈ l → a ≤ mxL l
  | b :: r, a, h => by
    rw [mxL]
    rcases List.mem_cons.1 h with rfl | h
    · exact Nat.le_max_left _ _
    · exact Nat.le_trans (le_mxL r a h) (Nat.le_max_right _ _)
/-- The levels of an item, no more than m + 1 of them. -/
def dpB : Nat → Itm → Nat
  | 0, _ => 1
  | m + 1, .mk _ _ _ l => mxL (l.map (dpB m)) + 1
theorem dpB_le : ∀ (m : Nat) (x : Itm), dpB m x ≤ m + 1
  | 0, _ => Nat.le_refl _
  | m + 1, .mk _ _ _ l => by
    rw [dpB]
    have := mxL_le (l.map (dpB m)) (m + 1) (fun a ha => by
      obtain ⟨y, -, rfl⟩ := List.mem_map.1 ha
      exact dpB_le m y)
    omega
theorem hgts_le : ∀ (l : List Itm) (B : Nat), (∀ y ∈ l, hgt y ≤ B) → hgts l ≤ B
  | [], B, _ => by simp [hgts]
  | y :: r, B, h => by
    rw [hgts]
    exact Nat.max_le.2 ⟨h y (by simp), hgts_le r B (fun a ha => h a (by simp [ha]))⟩
/-- What is not cut short is the height. -/
theorem hgt_dpB : ∀ (m : Nat) (x : Itm), dpB m x ≤ m → hgt x ≤ dpB m x
  | 0, _, h => absurd h (by rw [dpB]; omega)
  | m + 1, .mk k n d l, h => by
    rw [dpB] at h ⊢
    rw [hgt]
    have := hgts_le l (mxL (l.map (dpB m))) (fun y hy => by
      have h1 := le_mxL (l.map (dpB m)) (dpB m y) (List.mem_map.2 ⟨y, hy, rfl⟩)
      exact Nat.le_trans (hgt_dpB m y (by omega)) h1)
    omega

set_option maxRecDepth 100000 in
set_option maxHeartbeats 4000000 in
theorem rdeep_any : ∀ (m : Nat) (x : Itm) (v : Value) (w : World) (B : Nat), m ≤ 40 → B ≤ w.heap.size → RdI w B v x →
    Calls Tryz.prog 11 #[v, .int .i64 (m : Int)] w fun e w' => e = .returned (.int .i64 ((dpB m x : Nat) : Int)) ∧ Below w.heap.size w w'
  | 0, .mk k n d l, v, w, B, hm, hB, h => by
    obtain ⟨A, nd, cd, AL, cl, rfl, -, -, -, -, h5, -⟩ := h.open
    have HB0 := Lib.hid ((Below.refl w.heap.size w).alloc (Nat.le_refl _) (.cells #[.int .i64 k, .int .u64 (n : Int), .slice A nd cd, .slice AL l.length cl] 37))
    generalize l.length = N at *
    have hd : Hid (dpB 0 (.mk k n d l) = 1) := rfl
    rw [hd.out]
    clear h h5 hB hm
    go_enter Tryz.func11, Tryz.ntmps11
    go_wp2_with fail
    go_loopw [5, 6] (fun acc i wr => acc = .int .i64 0 ∧ i = .int .i64 0 ∧ wr = w.alloc (.cells #[.int .i64 k, .int .u64 (n : Int), .slice A nd cd, .slice AL N cl] 37)) (fun _ _ _ => 0)
    case atStart => exact ⟨rfl, rfl, rfl⟩
    case round =>
      obtain ⟨rfl, rfl, rfl⟩ := hrel
      by_cases hlt : 0 < N
      · have h1 : decide ((0 : Int) < (N : Int)) = true := decide_eq_true (by omega)
        have h2 : (0 : Int) < (N : Int) := by omega
        go_wp2_with fail
        go_ret
        exact ⟨rfl, HB0.out⟩
      · obtain rfl : N = 0 := by omega
        go_wp2_with fail
        go_ret
        exact ⟨rfl, HB0.out⟩
  | m + 1, .mk k n d l, v, w, B, hm, hB, h => by
    obtain ⟨A, nd, cd, AL, cl, rfl, h1, h2, h3, h4, h5, h7⟩ := h.open
    have IH := Lib.hid (rdeep_any m)
    have H7 := Lib.hid h7
    have HBW := Lib.hid hB
    have HM := Lib.hid hm
    have HB0 := Lib.hid ((Below.refl w.heap.size w).alloc (Nat.le_refl _) (.cells #[.int .i64 k, .int .u64 (n : Int), .slice A nd cd, .slice AL l.length cl] 37))
    have HX : Hid (dpB (m + 1) (.mk k n d l) = mxL (l.map (dpB m)) + 1) := rfl
    have HQ : Hid (∀ j, mxL ((l.take j).map (dpB m)) ≤ m + 1) := fun j => mxL_le _ _ (fun a ha => by
      obtain ⟨y, -, rfl⟩ := List.mem_map.1 ha
      exact dpB_le m y)
    obtain ⟨N, hN⟩ : ∃ N, N = l.length := ⟨_, rfl⟩
    rw [← hN] at h5 H7 HB0 ⊢
    have HN := Lib.hid hN
    have HL5 := Lib.hid h5
    rw [HX.out]
    have hm1 : wrap64 (((m + 1 : Nat) : Int) - 1) = (m : Int) := by unfold wrap64; omega
    have hm2 : (0 : Int) < ((m + 1 : Nat) : Int) := by omega
    clear h h1 h2 h3 h4 h5 h7 hB hm hN
    generalize hMM : ((m + 1 : Nat) : Int) = MM at *
    clear hMM
    go_enter Tryz.func11, Tryz.ntmps11
    go_wp2_with fail
    have f1 : (w.alloc (.cells #[.int .i64 k, .int .u64 (n : Int), .slice A nd cd, .slice AL N cl] 37)).cell? ⟨w.heap.size, 3, none⟩ = some (.slice AL N cl) := by simp
    have fz : (w.alloc (.cells #[.int .i64 k, .int .u64 (n : Int), .slice A nd cd, .slice AL N cl] 37)).heap.size = w.heap.size + 1 := by simp
    have F1 := Lib.hid f1
    have FZ := Lib.hid fz
    clear f1 fz
    generalize (w.alloc (.cells #[.int .i64 k, .int .u64 (n : Int), .slice A nd cd, .slice AL N cl] 37)) = W0 at *
    go_loopw [5, 6] (fun acc i wr => ∃ j : Nat, j ≤ N ∧ acc = .int .i64 ((mxL ((l.take j).map (dpB m)) : Nat) : Int) ∧ i = .int .i64 (j : Int) ∧ Hid (Below (w.heap.size + 1) W0 wr)) (fun _ i _ => N - (intOf i).toNat)
    case atStart => exact ⟨0, Nat.zero_le _, by simp [mxL], rfl, Below.refl _ _⟩
    case round =>
      obtain ⟨j, hj, rfl, rfl, hbel⟩ := hrel
      have q1 : wr.cell? ⟨w.heap.size, 3, none⟩ = some (.slice AL N cl) := (hbel.out.cell (p := ⟨w.heap.size, 3, none⟩) (by simp)).trans F1.out
      have hsz : w.heap.size + 1 ≤ wr.heap.size := by have := hbel.out.size; have := FZ.out; omega
      have hs' : Below w.heap.size w wr := HB0.out.trans (hbel.out.mono (by omega))
      have HS := Lib.hid hs'
      by_cases hlt : j < N
      · obtain ⟨b, o, rfl, hb, hs⟩ := H7.out (by omega)
        have hjl : j < l.length := by rw [← HN.out]; exact hlt
        obtain ⟨c0, c1, c2, c3, g0, g1, g2, g3, gx⟩ := hs.get j hjl
        have hB := HBW.out
        have e0 : wr.cell? ⟨b, o + j * 4, none⟩ = some c0 := (hs'.cell (p := ⟨b, o + j * 4, none⟩) (by show b < _; omega)).trans g0
        have e1 : wr.cell? ⟨b, o + j * 4 + 1, none⟩ = some c1 := (hs'.cell (p := ⟨b, o + j * 4 + 1, none⟩) (by show b < _; omega)).trans g1
        have e2 : wr.cell? ⟨b, o + j * 4 + 2, none⟩ = some c2 := (hs'.cell (p := ⟨b, o + j * 4 + 2, none⟩) (by show b < _; omega)).trans g2
        have e3 : wr.cell? ⟨b, o + j * 4 + 3, none⟩ = some c3 := (hs'.cell (p := ⟨b, o + j * 4 + 3, none⟩) (by show b < _; omega)).trans g3
        have C1 := Lib.hid (IH.out (l[j]'hjl) _ wr B (by have := HM.out; omega) (by omega) (gx.below (hs'.mono hB)))
        have HT : Hid (mxL ((l.take (j + 1)).map (dpB m)) = max (mxL ((l.take j).map (dpB m))) (dpB m (l[j]'hjl))) := by
          show _ = _
          rw [List.take_succ_eq_append_getElem hjl, List.map_append, List.map_cons, List.map_nil, mxL_snoc]
        generalize dpB m (l[j]'hjl) = Y at *
        generalize mxL ((l.take j).map (dpB m)) = Z at *
        have i0 : (0 : Int) ≤ (j : Int) := by omega
        have i1 : (j : Int) < (N : Int) := by omega
        have i2 : (N : Int) ≤ 140737488355328 := by have := HL5.out.2; omega
        have HHB := Lib.hid hsz
        clear g0 g1 g2 g3 gx hs hs' hb hB hjl hsz
        go_wp2_with fail
        refine C1.out.mono ?_
        rintro e w1 ⟨rfl, hb1⟩
        have HB1 := Lib.hid hb1
        clear hb1
        go_wp2_with fail
        go_roundw
        case rel => exact ⟨j + 1, by omega, by rw [HT.out]; simp; omega, by go_num, hbel.out.trans (HB1.out.mono HHB.out)⟩
        case measure => simp [intOf]; omega
      · obtain rfl : j = N := by omega
        have HT : Hid (mxL ((l.take j).map (dpB m)) = mxL (l.map (dpB m))) := by show _ = _; rw [List.take_of_length_le (Nat.le_of_eq HN.out.symm)]
        have hq := HQ.out j
        rw [HT.out] at hq
        have hw : wrap64 (((mxL (l.map (dpB m)) : Nat) : Int) + 1) = ((mxL (l.map (dpB m)) + 1 : Nat) : Int) := by have := HM.out; unfold wrap64; omega
        have hjj : decide ((j : Int) < (j : Int)) = false := by simp
        rw [HT.out]
        generalize hZZ : mxL (l.map (dpB m)) = Z at *
        have HZZ := Lib.hid hZZ
        have HW := Lib.hid hw
        clear hs' hq hZZ hw
        go_wp2_with fail
        go_ret
        refine ⟨?_, HS.out⟩
        show Ending.returned (.int .i64 (wrap64 ((Z : Int) + 1))) = _
        rw [HW.out, HZZ.out]
end Go.Proofs.YtanbjifdcplmnaaGreatDoor
/- Items that come in as arguments: a reading of one is an item in memory, no greater than the reading's bulk. -/
namespace Go.Proofs.YtanbjifdcplmnaaGreatDoor
open Go.RowKit Go.ChangeShapes Go.WideShapes Go.Deep

mutual
/-- How much an item holds. -/
def mass : Itm → Nat | .mk _ _ d l => 5 + d.length + masses l
def masses : List Itm → Nat | [] => 0 | x :: r => mass x + masses r
end
mutual
theorem par_mass : ∀ x : Itm, par x ≤ mass x
  | .mk _ _ d l => by have := pars_mass l; rw [par, mass]; omega
theorem pars_mass : ∀ l : List Itm, pars l ≤ masses l
  | [] => by rw [pars]; omega
  | x :: r => by have := par_mass x; have := pars_mass r; rw [pars, masses]; omega
end
mutual
theorem par_mass5 : ∀ x : Itm, 5 * par x ≤ mass x
  | .mk _ _ d l => by have := pars_mass5 l; rw [par, mass]; omega
theorem pars_mass5 : ∀ l : List Itm, 5 * pars l ≤ masses l
  | [] => by rw [pars]; omega
  | x :: r => by have := par_mass5 x; have := pars_mass5 r; rw [pars, masses]; omega
end
mutual
theorem wri_mass : ∀ x : Itm, (wri x).length ≤ 11 * mass x
  | .mk k n d l => by
    have h := wrs_mass l
    have h1 := hsz_le n
    have h2 := hsz_le d.length
    have h3 := hsz_le l.length
    rw [wri, mass]
    split
    · rw [hd_len]; omega
    split
    · rw [List.length_append, hd_len]; omega
    split
    · rw [List.length_append, hd_len]; omega
    · simp only [List.length_cons, List.length_append, List.length_nil]; omega
theorem wrs_mass : ∀ l : List Itm, (wrs l).length ≤ 11 * masses l
  | [] => by rw [wrs]; simp
  | x :: r => by have := wri_mass x; have := wrs_mass r; rw [wrs, masses, List.length_append]; omega
end

theorem bulkAll_lits {H : Type} (k : IntKind) : ∀ zs : List Int, Rows.uptoBulkAll (lits (H := H) k zs) = zs.length
  | [] => rfl
  | z :: r => by
    have := bulkAll_lits (H := H) k r
    show Rows.uptoBulkAll (DataW.lit (.int k z) :: lits k r) = _
    rw [Rows.uptoBulkAll, this, Rows.uptoBulk, List.length_cons]
    · omega
    · intro b h; cases h
theorem bulkAll_get {H : Type} : ∀ (l : List (DataW H)) (i : Nat) (hi : i < l.length), Rows.uptoBulk (l[i]'hi) ≤ Rows.uptoBulkAll l
  | [], _, hi => absurd hi (Nat.not_lt_zero _)
  | x :: r, 0, _ => by rw [Rows.uptoBulkAll]; simp
  | x :: r, i + 1, hi => by
    have := bulkAll_get r i (by simpa using hi)
    rw [Rows.uptoBulkAll]
    simp
    omega

theorem bulk_pos {H : Type} : ∀ d : DataW H, 1 ≤ Rows.uptoBulk d
  | .lit x => by cases x <;> simp [Rows.uptoBulk]
  | .nil => by simp [Rows.uptoBulk]
  | .ptr _ => by simp [Rows.uptoBulk]
  | .slice _ _ => by simp [Rows.uptoBulk]
  | .agg _ => by simp [Rows.uptoBulk]
  | .iface _ _ => by simp [Rows.uptoBulk]
  | .map _ => by simp [Rows.uptoBulk]
  | .held _ => by simp [Rows.uptoBulk]
theorem bulk_len {H : Type} : ∀ l : List (DataW H), l.length ≤ Rows.uptoBulkAll l
  | [] => Nat.zero_le _
  | x :: r => by have := bulk_pos x; have := bulk_len r; rw [Rows.uptoBulkAll, List.length_cons]; omega
/-- Items chosen for each element. -/
theorem pick_all {H : Type} : ∀ (ds : List (DataW H)) (n : Nat) (hn : ds.length = n) (P : Nat → Itm → Prop), (∀ i (hi : i < n), ∃ x, P i x ∧ mass x ≤ Rows.uptoBulk (ds[i]'(by omega))) →
    ∃ l : List Itm, l.length = n ∧ (∀ i (hi : i < l.length), P i (l[i]'hi)) ∧ masses l ≤ Rows.uptoBulkAll ds
  | [], n, hn, P, _ => ⟨[], hn, fun i hi => absurd hi (Nat.not_lt_zero _), Nat.le_refl _⟩
  | d :: ds, n, hn, P, h => by
    obtain ⟨m, rfl⟩ : ∃ m, n = m + 1 := ⟨ds.length, by simpa using hn.symm⟩
    obtain ⟨x, hx, hxm⟩ := h 0 (by omega)
    obtain ⟨l, h1, h2, h3⟩ := pick_all ds m (by simpa using hn) (fun i => P (i + 1)) (fun i hi => by
      obtain ⟨y, hy, hym⟩ := h (i + 1) (by omega)
      exact ⟨y, hy, by simpa using hym⟩)
    refine ⟨x :: l, by simpa using h1, fun i hi => ?_, ?_⟩
    · cases i with
      | zero => exact hx
      | succ i => exact h2 i (by simpa using hi)
    · rw [masses, Rows.uptoBulkAll]
      simp at hxm
      omega

section
variable {H : Type} {enc : TypeId × Value → H} {w : World}
theorem c_data : Tryz.prog.cellsOf 22 = 1 := by kernel_rfl
theorem c_list : Tryz.prog.cellsOf 35 = 1 := by kernel_rfl
theorem c_item : Tryz.prog.cellsOf 37 = 4 := by kernel_rfl
theorem c_kind : Tryz.prog.cellsOf 34 = 1 := by kernel_rfl
theorem c_u64 : Tryz.prog.cellsOf 23 = 1 := by kernel_rfl
theorem c_u8 : Tryz.prog.cellsOf 5 = 1 := by kernel_rfl

/-- A slice of bytes that is read. -/
theorem open_data {fuel : Nat} {cs : List Value} {y : DataW H × List MemPlace} (h : DataW.trod enc Tryz.prog w 0 (fun _ => true) true fuel 22 cs = some y) (hb : Rows.uptoBulk y.1 ≤ 1048576) :
    ∃ (A : Option Addr) (n c : Nat) (l : List UInt8), cs = [.slice A n c] ∧ n ≤ c ∧ n ≤ 1048576 ∧ Rd w w.heap.size A n l ∧ l.length + 1 ≤ Rows.uptoBulk y.1 := by
  rcases open_ints Tryz.underlying22 Tryz.underlying5 c_u8 h with ⟨rfl, rfl⟩ | ⟨x, l, c, zs, rfl, _, hl, hm, hz, rfl, hcell, hwz⟩
  · exact ⟨none, 0, 0, [], rfl, Nat.le_refl _, Nat.zero_le _, Rd.nil_, by rw [Rows.uptoBulk]; decide⟩
  · have hz' : zs.length = c := by simpa using hz
    simp only [Rows.uptoBulk, bulkAll_lits, List.length_take, List.length_drop] at hb ⊢
    exact ⟨some x, l, c, _, rfl, hl, by omega, Rd.of_ints hl hz' hcell hwz, by first | (simp; done) | (simp; omega)⟩

set_option maxRecDepth 100000 in
/-- An item that is read. -/
theorem open_item : ∀ (fuel : Nat) (cs : List Value) (y : DataW H × List MemPlace), DataW.trod enc Tryz.prog w 0 (fun _ => true) true fuel 37 cs = some y → Rows.uptoBulk y.1 ≤ 1048576 →
    ∃ (x : Itm) (c0 c1 c2 c3 : Value), cs = [c0, c1, c2, c3] ∧ RdI w w.heap.size (.agg #[c0, c1, c2, c3]) x ∧ mass x ≤ Rows.uptoBulk y.1 := by
  intro fuel
  induction fuel using Nat.strongRecOn with
  | _ fuel ih =>
    intro cs y h hb
    obtain ⟨xs, n, rfl, rfl, hl, hlen, hf⟩ := DataW.trod_struct Tryz.underlying37 h
    rw [c_item] at hl
    match xs, hlen, cs, hl with
    | [y0, y1, y2, y3], _, [c0, c1, c2, c3], _ =>
      have g0 := hf 0 _ rfl
      have g1 := hf 1 _ rfl
      have g2 := hf 2 _ rfl
      have g3 := hf 3 _ rfl
      simp [c_data, c_list, c_kind, c_u64] at g0 g1 g2 g3
      obtain ⟨k, hk, rfl, hkw⟩ := DataW.trod_int Tryz.underlying34 g0
      obtain ⟨nn, hn, rfl, hnw⟩ := DataW.trod_int Tryz.underlying23 g1
      have hk' : c0 = .int .i64 k := by simpa using hk
      have hn' : c1 = .int .u64 nn := by simpa using hn
      subst hk' hn'
      simp only [List.map_cons, List.map_nil, Rows.uptoBulk, Rows.uptoBulkAll] at hb ⊢
      obtain ⟨A, nd, cd, d, hc2, hnc, hnd, hrd, hdb⟩ := open_data g2 (by omega)
      have hc2' : c2 = .slice A nd cd := by simpa using hc2
      subst hc2'
      have hnn : 0 ≤ nn ∧ nn < 18446744073709551616 := by
        simp [Lit.wf, IntKind.min, IntKind.max, IntKind.signed, IntKind.bits] at hnw
        omega
      have hne : ((nn.toNat : Nat) : Int) = nn := by omega
      obtain ⟨AL, nl, cl, l, hc3, hlc, hnl, hll, hlist, hlb⟩ : ∃ (AL : Option Addr) (nl cl : Nat) (l : List Itm), c3 = .slice AL nl cl ∧ nl ≤ cl ∧ nl ≤ 1048576 ∧ l.length = nl ∧ (0 < nl → ∃ b o, AL = some ⟨b, o, none⟩ ∧ b < w.heap.size ∧ RdIs w w.heap.size b o l) ∧ masses l + 1 ≤ Rows.uptoBulk y3.1 := by
        rcases DataW.trod_slice Tryz.underlying35 g3 with ⟨hc, rfl⟩ | ⟨a, len, cap, elems, rest, m, rfl, hc, rfl, hba, hlc, hlm, hel, hget, _, _⟩
        · refine ⟨none, 0, 0, [], by simpa using hc, Nat.le_refl _, Nat.zero_le _, rfl, fun h => absurd h (Nat.lt_irrefl _), ?_⟩
          rw [masses, Rows.uptoBulk]
          simp
        · simp only [Rows.uptoBulk] at hb ⊢
          have hel2 : (elems.map (·.1)).length = len := by rw [List.length_map, hel]
          have hone : ∀ i (hi : i < len), ∃ (x : Itm) (c0 c1 c2 c3 : Value), w.cells? 0 (a.add (i * 4)) 4 = some [c0, c1, c2, c3] ∧ RdI w w.heap.size (.agg #[c0, c1, c2, c3]) x ∧ mass x ≤ Rows.uptoBulk ((elems.map (·.1))[i]'(by rw [hel2]; exact hi)) := by
            intro i hi
            have hg := hget i hi
            rw [c_item, List.getElem?_eq_getElem (by rw [hel]; exact hi)] at hg
            obtain ⟨cs', h1, h2⟩ := Option.bind_eq_some_iff.1 hg
            have hbb := bulkAll_get (elems.map (·.1)) i (by rw [hel2]; exact hi)
            simp only [List.getElem_map] at hbb
            obtain ⟨x, d0, d1, d2, d3, rfl, hr, hm⟩ := ih m (by omega) cs' _ h2 (by omega)
            exact ⟨x, d0, d1, d2, d3, h1, hr, by simpa using hm⟩
          have hlen2 := bulk_len (elems.map (·.1))
          rw [hel2] at hlen2
          obtain ⟨l, hl1, hl2, hl3⟩ := pick_all (elems.map (·.1)) len hel2 (fun i x => ∃ (c0 c1 c2 c3 : Value), w.cells? 0 (a.add (i * 4)) 4 = some [c0, c1, c2, c3] ∧ RdI w w.heap.size (.agg #[c0, c1, c2, c3]) x) (fun i hi => by
            obtain ⟨x, c0, c1, c2, c3, h1, h2, h3⟩ := hone i hi
            exact ⟨x, ⟨c0, c1, c2, c3, h1, h2⟩, h3⟩)
          refine ⟨some a, len, cap, l, by simpa using hc, hlc, by omega, hl1, fun h0 => ?_, by omega⟩
          obtain ⟨b, o, spot⟩ := a
          obtain ⟨c0, c1, c2, c3, h1, h2⟩ := hl2 0 (by omega)
          obtain ⟨_, _, hcell⟩ := World.cells?_some h1
          have hc0 := hcell 0 (by omega)
          have hspot : spot = none := by simpa [Addr.add] using World.cell?_spot hc0
          subst hspot
          refine ⟨b, o, rfl, ?_, RdIs.of_get fun i hi => ?_⟩
          · have := World.block_lt_of_cell? w _ hc0
            simpa [Addr.add] using this
          · obtain ⟨c0, c1, c2, c3, h1, h2⟩ := hl2 i (by omega)
            obtain ⟨_, _, hcell⟩ := World.cells?_some h1
            have e : ∀ j, ((⟨b, o, none⟩ : Addr).add (i * 4)).add j = ⟨b, o + i * 4 + j, none⟩ := fun j => by rw [add_plain, add_plain]
            have q0 := hcell 0 (by omega)
            have q1 := hcell 1 (by omega)
            have q2 := hcell 2 (by omega)
            have q3 := hcell 3 (by omega)
            rw [e] at q0 q1 q2 q3
            exact ⟨c0, c1, c2, c3, q0, q1, q2, q3, h2⟩
      subst hc3
      refine ⟨.mk k nn.toNat d l, _, _, _, _, rfl, ?_, ?_⟩
      · rw [RdI, hne]
        exact ⟨A, nd, cd, AL, nl, cl, rfl, hkw, by omega, ⟨hnc, by omega⟩, hrd, ⟨hlc, by omega⟩, hll, hlist⟩
      · rw [mass]
        omega
end
end Go.Proofs.YtanbjifdcplmnaaGreatDoor
/- The closed facts that BlockTells's row asks of the program. (Made by cf.py.) -/
namespace Go.Proofs.YtanbjifdcplmnaaGreatDoor

set_option maxRecDepth 100000 in
set_option maxHeartbeats 8000000 in
theorem blockTells_closed : joinedFacts Tryz.pinned.checked.prog 4 Tryz.f4 (Rows.OpenSpec.upto Rows.blockTellsSpec).bare Rows.blockTellsUptoRow = true := by
  unfold joinedFacts
  repeat' (with_reducible refine Bool.and_eq_true_iff.2 ⟨?_, ?_⟩)
  all_goals (as_aux_lemma => kernel_rfl)
end Go.Proofs.YtanbjifdcplmnaaGreatDoor
