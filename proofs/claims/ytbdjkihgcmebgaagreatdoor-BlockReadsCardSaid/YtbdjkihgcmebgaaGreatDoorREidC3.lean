/- The plain mathematics of reading blocks item by item: an item's bytes are a block's but for the sum just where its parts are. -/
import Derived.Test.YtbdjkihgcmebgaaGreatDoorRBase
import Derived.Test.YtbdjkihgcmebgaaGreatDoorRCborC
import Derived.Test.YtbdjkihgcmebgaaGreatDoorRCborI
import Derived.Test.YtbdjkihgcmebgaaGreatDoorRCborO
import Derived.Test.YtbdjkihgcmebgaaGreatDoorRCborQ
import Derived.Test.YtbdjkihgcmebgaaGreatDoorRCborV
import Derived.Test.YtbdjkihgcmebgaaGreatDoorRKEnc
import Derived.Test.YtbdjkihgcmebgaaGreatDoorRNumG
import Derived.Test.YtbdjkihgcmebgaaGreatDoorRNumO
import Derived.Test.YtbdjkihgcmebgaaGreatDoorROwn
import Derived.Test.YtbdjkihgcmebgaaGreatDoorRShaE
import Derived.Stop.IfaceNil
import Derived.Lib.Bytealg
import Derived.Lib.IndexLaws
import Derived.Lib.ParseIntB
import Derived.Lib.Strings
import Derived.Test.YtbdjkihgcmebgaaGreatDoorRows
import Derived.Shelf.RegionOpenPlain
import Derived.Deep.DeepFit
import Derived.LaidEql
import Derived.Stop.Asserts
import Derived.RowKitTokens
import Derived.Deep.RegionHeld3
import Derived.Below
import Derived.BigCall
import Derived.BigGuard
import Derived.BigGuardPart
import Derived.BigQuiet
import Derived.Deep.DeepCutAuto
import Derived.Deep.Draws
import Derived.Deep.OwnRows
import Derived.Deep.QuietTactic
import Derived.Laws.AppendOwn
import Derived.Laws.BitsAllLaws
import Derived.Laws.BytesArg
import Derived.Laws.IdiomStrings
import Derived.Laws.NewBlocks
import Derived.Laws.Strings3
import Derived.Lib.EndianBits
import Derived.Lib.HexFns
import Derived.Lib.Hide
import Derived.Lib.ItoaNum
import Derived.Lib.SlBytesConst
import Derived.Lib.Walk
import Derived.Outline
import Derived.WalkKit
import Derived.WalkLawsBesides
namespace Go.Proofs.YtbdjkihgcmebgaaGreatDoor
open Go.RowKit

theorem wri_inj {x y : Itm} (fx : Fits x) (sx : Siz x) (fy : Fits y) (sy : Siz y) (h : wri x = wri y) : x = y := by
  have h1 := decode_wr fx sx []
  have h2 := decode_wr fy sy []
  rw [List.append_nil] at h1 h2
  rw [h, h2] at h1
  exact (congrArg Prod.fst h1).symm
/-- What no block's number of a kind of sum could be. -/
theorem crc_bad {n : Nat} (h : 2 < n) (h64 : n < 18446744073709551616) : ¬ (0 ≤ wrap64 (n : Int) ∧ wrap64 (n : Int) ≤ 2) := by
  unfold wrap64
  omega
theorem decB_er {l : List UInt8} {e : Int} (h : (decode l).2.2 = e) (he : e ≠ 0) : decB l = (.zero, 0, e) := by
  unfold decB
  rw [if_pos (by rw [h]; exact he), h]
theorem decB_bad {l : List UInt8} (h : (decode l).2.2 = 0) (hb : blkOk (takenB (decode l).1) = false) : decB l = (.zero, 0, 50) := by
  unfold decB
  rw [if_neg (by simp [h]), if_pos hb]
theorem zero_bad : blkOk Blk.zero = false := rfl
theorem crcp {b : Blk} (h : blkOk b = true) : 0 ≤ b.crc ∧ b.crc ≤ 2 := (blkOk_iff.1 h).2.2.2.1
theorem zero_bd : Bd Blk.zero := ⟨by decide, by decide, by decide⟩
theorem taken_bd {x : Itm} (hs : Siz x) : Bd (takenB x) := by
  obtain ⟨k, n, d, l⟩ := x
  rw [Siz] at hs
  obtain ⟨-, -, -, hs⟩ := hs
  match l, hs with
  | [], _ => exact zero_bd
  | [_], _ => exact zero_bd
  | [_, _], _ => exact zero_bd
  | [_, _, _], _ => exact zero_bd
  | [_, _, _, _], _ => exact zero_bd
  | .mk _ n0 _ _ :: .mk _ n1 _ _ :: .mk _ n2 _ _ :: y3 :: y4 :: r, hs =>
    simp only [Sizs, Siz] at hs
    exact ⟨hs.1.1, hs.2.1.1, hs.2.2.1.1⟩
theorem taken_dat {x : Itm} (hs : Siz x) : (takenB x).dat.length < 18446744073709551616 := by
  obtain ⟨k, n, d, l⟩ := x
  rw [Siz] at hs
  obtain ⟨-, -, -, hs⟩ := hs
  match l, hs with
  | [], _ => exact (by decide : (Blk.zero).dat.length < 18446744073709551616)
  | [_], _ => exact (by decide : (Blk.zero).dat.length < 18446744073709551616)
  | [_, _], _ => exact (by decide : (Blk.zero).dat.length < 18446744073709551616)
  | [_, _, _], _ => exact (by decide : (Blk.zero).dat.length < 18446744073709551616)
  | [_, _, _, _], _ => exact (by decide : (Blk.zero).dat.length < 18446744073709551616)
  | y0 :: y1 :: y2 :: y3 :: .mk _ _ d4 _ :: r, hs =>
    simp only [Sizs, Siz] at hs
    exact hs.2.2.2.2.1.2.1
/-- Either the item is the block's, with some sum, or the answer is 50. -/
theorem decB_key {l : List UInt8} {x : Itm} {n : Int} (hd : decode l = (x, n, 0)) (hok : blkOk (takenB x) = true) :
    (∃ s : List UInt8, s.length = sumN (takenB x).crc ∧ x = itmB (takenB x) s ∧ l.take n.toNat = bodyB (takenB x) ++ s ∧ decB l = if s = sumB (takenB x) then (takenB x, n, 0) else (.zero, 0, 51)) ∨
    ((∀ s : List UInt8, s.length = sumN (takenB x).crc → x ≠ itmB (takenB x) s) ∧ decB l = (.zero, 0, 50)) := by
  rcases decode_cases l with ⟨e, he, h1⟩ | ⟨x', r, hl, hf, hs, h1⟩
  · rw [hd] at h1
    injection h1 with _ h1
    injection h1 with _ h1
    omega
  · rw [hd] at h1
    injection h1 with h1 h2
    injection h2 with h2 _
    subst h1
    have hn : n.toNat = (wri x).length := by rw [h2]; simp
    have hu : l.take n.toNat = wri x := by rw [hn, hl, List.take_left]
    have hbd := taken_bd hs
    have hc := crcp hok
    have hs4 := sumN_le (takenB x).crc
    have hdt := taken_dat hs
    by_cases hx : ∃ s : List UInt8, s.length = sumN (takenB x).crc ∧ x = itmB (takenB x) s
    · obtain ⟨s, hsl, hxe⟩ := hx
      left
      have hw : wri x = bodyB (takenB x) ++ s := by
        have := wri_itm (takenB x) s hsl hc
        rw [← hxe] at this
        exact this
      refine ⟨s, hsl, hxe, by rw [hu, hw], ?_⟩
      have hq := decB_sum (takenB x) s r hok hbd hsl
      rw [← hw, ← hl] at hq
      rw [hq]
      have e1 : ((blkW (takenB x)).length : Int) = n := by
        rw [h2, hw]
        unfold blkW
        rw [List.length_append, List.length_append, sumB_len, hsl]
      rw [e1]
    · right
      refine ⟨fun s h1 h2 => hx ⟨s, h1, h2⟩, ?_⟩
      have h50 : cmpB (l.take n.toNat) (blkW (takenB x)) (sumN (takenB x).crc) = 50 := by
        unfold cmpB
        rw [hu]
        by_cases hcc : (wri x).length ≠ (blkW (takenB x)).length ∨ (wri x).take ((blkW (takenB x)).length - sumN (takenB x).crc) ≠ (blkW (takenB x)).take ((blkW (takenB x)).length - sumN (takenB x).crc)
        · rw [if_pos hcc]
        · exfalso
          have hk : (blkW (takenB x)).length - sumN (takenB x).crc = (bodyB (takenB x)).length := by unfold blkW; rw [List.length_append, sumB_len]; omega
          rw [hk] at hcc
          have hcc1 : (wri x).length = (blkW (takenB x)).length := by
            by_cases h : (wri x).length = (blkW (takenB x)).length
            · exact h
            · exact absurd (.inl h) hcc
          have hcc2 : (wri x).take (bodyB (takenB x)).length = bodyB (takenB x) := by
            by_cases h : (wri x).take (bodyB (takenB x)).length = (blkW (takenB x)).take (bodyB (takenB x)).length
            · rw [h]; unfold blkW; exact List.take_left
            · exact absurd (.inr h) hcc
          have hsl : ((wri x).drop (bodyB (takenB x)).length).length = sumN (takenB x).crc := by
            rw [List.length_drop, hcc1]
            unfold blkW
            rw [List.length_append, sumB_len]
            omega
          have hw : wri x = bodyB (takenB x) ++ (wri x).drop (bodyB (takenB x)).length := by
            conv => lhs; rw [← List.take_append_drop (bodyB (takenB x)).length (wri x), hcc2]
          have hw2 := wri_itm (takenB x) ((wri x).drop (bodyB (takenB x)).length) hsl hc
          rw [← hw] at hw2
          exact hx ⟨_, hsl, (wri_inj (itm_fits _ _) (itm_siz _ _ hbd hc.2 hdt (by omega)) hf hs hw2).symm⟩
      unfold decB
      rw [hd]
      simp only
      rw [if_neg (by simp), if_neg (by rw [hok]; decide), h50, if_pos (by decide)]
end Go.Proofs.YtbdjkihgcmebgaaGreatDoor
/- Plain facts of layer 5's reference: which items are a block's, part by part. No program's number stands here. -/
namespace Go.Proofs.YtbdjkihgcmebgaaGreatDoor
open Go.RowKit

theorem decB_no {l : List UInt8} {x : Itm} {n : Int} (hd : decode l = (x, n, 0)) (h : blkOk (takenB x) = true → ∀ s : List UInt8, s.length = sumN (takenB x).crc → x ≠ itmB (takenB x) s) : decB l = (.zero, 0, 50) := by
  by_cases hok : blkOk (takenB x) = true
  · rcases decB_key hd hok with ⟨s, h1, h2, -⟩ | ⟨-, h2⟩
    · exact absurd h2 (h hok s h1)
    · exact h2
  · exact decB_bad (by rw [hd]) (by rw [hd]; simpa using hok)
theorem itmB_sum {b : Blk} {s s' : List UInt8} (hs : s.length = sumN b.crc) (hs' : s'.length = sumN b.crc) (h : itmB b s = itmB b s') : s = s' := by
  by_cases hc : b.crc = 0
  · have h0 : sumN b.crc = 0 := by rw [hc]; rfl
    rw [h0] at hs hs'
    rw [List.eq_nil_of_length_eq_zero hs, List.eq_nil_of_length_eq_zero hs']
  · unfold itmB at h
    rw [if_neg hc, if_neg hc] at h
    injection h with _ _ _ h
    have h := List.append_cancel_left h
    injection h with h _
    injection h
theorem decB_yes {l : List UInt8} {x : Itm} {n : Int} {s : List UInt8} (hd : decode l = (x, n, 0)) (hok : blkOk (takenB x) = true) (hs : s.length = sumN (takenB x).crc) (h : x = itmB (takenB x) s) :
    l.take n.toNat = bodyB (takenB x) ++ s ∧ decB l = if s = sumB (takenB x) then (takenB x, n, 0) else (.zero, 0, 51) := by
  rcases decB_key hd hok with ⟨s', h1, h2, h3, h4⟩ | ⟨h1, -⟩
  · obtain rfl := itmB_sum hs h1 (h.symm.trans h2)
    exact ⟨h3, h4⟩
  · exact absurd h (h1 s hs)
/-- The items that a block's are held against: a sum's bytes are noughts there. -/
def itsB (y : Blk) : List Itm := partsB y ++ if y.crc = 0 then [] else [.mk 2 0 (nulls y) []]
/-- Is part j as it must be? -/
def okAt (y : Blk) (L : List Itm) (j : Nat) : Prop := (itsB y)[j]? = L[j]? ∨ (j = 5 ∧ ∃ z : Itm, L[5]? = some z ∧ z.kind = 2 ∧ z.data.length = sumN y.crc)
theorem itsB_len (y : Blk) : (itsB y).length = if y.crc = 0 then 5 else 6 := by
  unfold itsB partsB
  split <;> rfl
theorem itmB_at {y : Blk} {s : List UInt8} {k : Int} {n : Nat} {d : List UInt8} {L : List Itm} (hs : s.length = sumN y.crc) (h : Itm.mk k n d L = itmB y s) : k = 4 ∧ L.length = (itsB y).length ∧ ∀ j, j < L.length → okAt y L j := by
  unfold itmB at h
  injection h with h1 _ _ hL
  subst hL
  refine ⟨h1, ?_, fun j hj => ?_⟩
  · unfold itsB partsB
    split <;> rfl
  · unfold okAt itsB
    by_cases hc : y.crc = 0
    · rw [if_pos hc, if_pos hc]
      exact .inl rfl
    · rw [if_neg hc] at hj
      rw [if_neg hc, if_neg hc]
      have hj6 : j < 6 := hj
      have : j = 0 ∨ j = 1 ∨ j = 2 ∨ j = 3 ∨ j = 4 ∨ j = 5 := by omega
      rcases this with rfl | rfl | rfl | rfl | rfl | rfl
      · exact .inl rfl
      · exact .inl rfl
      · exact .inl rfl
      · exact .inl rfl
      · exact .inl rfl
      · exact .inr ⟨rfl, _, rfl, rfl, hs⟩
theorem itmB_of {y : Blk} {n : Nat} {d : List UInt8} {L : List Itm} (hr : right (.mk 4 n d L) = true) (hl : L.length = (itsB y).length) (h : ∀ j, j < L.length → okAt y L j) : ∃ s : List UInt8, s.length = sumN y.crc ∧ Itm.mk 4 n d L = itmB y s := by
  rw [right] at hr
  simp only [Bool.and_eq_true] at hr
  obtain ⟨ho, hrs⟩ := hr
  unfold own at ho
  rw [if_neg (by decide), if_neg (by decide), if_neg (by decide), if_pos (by decide)] at ho
  simp only [Bool.and_eq_true, beq_iff_eq, List.isEmpty_iff] at ho
  obtain ⟨rfl, rfl⟩ := ho
  rw [itsB_len] at hl
  by_cases hc : y.crc = 0
  · rw [if_pos hc] at hl
    have e : L = partsB y := by
      refine List.ext_getElem? fun j => ?_
      by_cases hj : j < L.length
      · rcases h j hj with h1 | ⟨h1, -⟩
        · rw [← h1]
          unfold itsB
          rw [if_pos hc, List.append_nil]
        · omega
      · rw [List.getElem?_eq_none (by omega), List.getElem?_eq_none (by show 5 ≤ j; omega)]
    refine ⟨[], by rw [hc]; rfl, ?_⟩
    unfold itmB
    rw [if_pos hc, List.append_nil, e]
  · rw [if_neg hc] at hl
    obtain ⟨z0, z1, z2, z3, z4, z5, rfl⟩ : ∃ z0 z1 z2 z3 z4 z5, L = [z0, z1, z2, z3, z4, z5] := by
      match L, hl with
      | [z0, z1, z2, z3, z4, z5], _ => exact ⟨z0, z1, z2, z3, z4, z5, rfl⟩
    have g : ∀ j, j < 5 → (itsB y)[j]? = [z0, z1, z2, z3, z4, z5][j]? := fun j hj => by
      rcases h j (by simp; omega) with h1 | ⟨h1, -⟩
      · exact h1
      · omega
    have g5 := h 5 (by simp)
    have g0 := g 0 (by decide)
    have g1 := g 1 (by decide)
    have g2 := g 2 (by decide)
    have g3 := g 3 (by decide)
    have g4 := g 4 (by decide)
    unfold okAt at g5
    unfold itsB partsB at g0 g1 g2 g3 g4 g5
    rw [if_neg hc] at g0 g1 g2 g3 g4 g5
    simp at g0 g1 g2 g3 g4 g5
    subst g0 g1 g2 g3 g4
    have hz : ∃ s : List UInt8, s.length = sumN y.crc ∧ z5 = .mk 2 0 s [] := by
      rcases g5 with rfl | ⟨g6, g7⟩
      · exact ⟨nulls y, nulls_len y, rfl⟩
      · obtain ⟨k5, n5, d5, l5⟩ := z5
        have hk : k5 = 2 := g6
        subst hk
        simp only [rights, Bool.and_eq_true] at hrs
        have h5 := hrs.2.2.2.2.2.1
        rw [right] at h5
        simp only [Bool.and_eq_true] at h5
        have h6 := h5.1
        unfold own at h6
        rw [if_neg (by decide), if_pos (by decide)] at h6
        simp only [Bool.and_eq_true, beq_iff_eq, List.isEmpty_iff] at h6
        obtain ⟨rfl, rfl⟩ := h6
        exact ⟨d5, g7, rfl⟩
    obtain ⟨s, hs, rfl⟩ := hz
    refine ⟨s, hs, ?_⟩
    unfold itmB partsB
    rw [if_neg hc]
    rfl
end Go.Proofs.YtbdjkihgcmebgaaGreatDoor
/- What numberOf, check, Check and sumSize of layer 5 return. -/
namespace Go.Proofs.YtbdjkihgcmebgaaGreatDoor
open Go.RowKit

set_option maxRecDepth 100000 in
set_option maxHeartbeats 1000000 in
theorem bnumber_any (z : Int) (s : ByteArray) (w : World) (hL : LaidE w) :
    Calls Tryz.prog 9 #[.iface 63 (.agg #[.int .i64 z, .string s])] w fun e w' => e = .returned (.int .i64 z) ∧ Below w.heap.size w w' := by
  have C1 := Lib.hid (bas_hit z s w.heap.size (.int .i64 0) (.string ⟨#[]⟩) (w.alloc (.cells #[.int .i64 0, .string ⟨#[]⟩] 63)) (hL.below ((Below.refl _ _).alloc (Nat.le_refl _) _) hL.lt) (by simp) (by simp) (by simp) (by simp))
  clear hL
  go_enter Tryz.func9, Tryz.ntmps9
  go_wp2_with fail
  refine C1.out.mono ?_
  rintro e w1 ⟨rfl, hb, hc⟩
  have HB := Lib.hid hb
  clear hb
  go_wp2_with fail
  go_ret
  exact ⟨rfl, ((Below.refl _ _).alloc (Nat.le_refl _) _).trans HB.out⟩

set_option maxRecDepth 100000 in
set_option maxHeartbeats 1000000 in
theorem bnumber_nil (w : World) :
    Calls Tryz.prog 9 #[.nilIface] w fun e w' => e = .returned (.int .i64 0) ∧ Below w.heap.size w w' := by
  have C1 := Lib.hid (as_nil (.iface 70 (.pointer (some ⟨w.heap.size, 0, none⟩))) (w.alloc (.cells #[.int .i64 0, .string ⟨#[]⟩] 63)))
  go_enter Tryz.func9, Tryz.ntmps9
  go_wp2_with fail
  refine C1.out.mono ?_
  rintro e w1 ⟨rfl, rfl⟩
  go_wp2_with fail
  go_ret
  exact ⟨rfl, (Below.refl _ _).alloc (Nat.le_refl _) _⟩

/-- Why there is no block, as a value. -/
def bfl (z : Int) (s : ByteArray) : Value := .iface 63 (.agg #[.int .i64 z, .string s])
/-- A call gives nil if ok, else a fault of the number z. -/
def WhyB (ok : Bool) (z : Int) (w : World) (e : Ending) (w' : World) : Prop := Below w.heap.size w w' ∧ ((ok = true ∧ e = .returned .nilIface) ∨ (ok = false ∧ ∃ s, e = .returned (bfl z s)))
def blkV (t n f : Nat) (c : Int) (A : Option Addr) (nd cd : Nat) : Value := .agg #[.int .u64 (t : Int), .int .u64 (n : Int), .int .u64 (f : Int), .int .i64 c, .slice A nd cd]

set_option maxRecDepth 100000 in
set_option maxHeartbeats 2000000 in
theorem bcheck_any (t n f : Nat) (c : Int) (A : Option Addr) (nd cd : Nat) (d : List UInt8) (w : World) (hd : d.length = nd) :
    Calls Tryz.prog 24 #[blkV t n f c A nd cd] w (WhyB (blkOk ⟨t, n, f, c, d⟩) 50 w) := by
  obtain ⟨R, hR⟩ : ∃ R, R = blkOk ⟨t, n, f, c, d⟩ := ⟨_, rfl⟩
  rw [← hR]
  have hR2 : R = (decide (1 ≤ (t : Int) ∧ (t : Int) ≤ 255) && (decide (¬ (n : Int) = 0) && ((decide (¬ (t : Int) = 1) || decide ((n : Int) = 1)) && (decide (0 ≤ c ∧ c ≤ 2) && decide ((nd : Int) ≤ 4096))))) := by
    rw [hR, ← hd, Bool.eq_iff_iff, blkOk_iff]
    simp only [Bool.and_eq_true, Bool.or_eq_true, decide_eq_true_eq]
    omega
  clear hR hd
  unfold blkV
  generalize (t : Int) = T at *
  generalize (n : Int) = N at *
  by_cases h1 : T < 1
  · have hr : R = false := by rw [hR2]; simp; omega
    subst hr
    clear hR2
    go_enter Tryz.func24, Tryz.ntmps24
    go_wp2_with fail
    go_ret
    exact ⟨(Below.refl _ _).alloc (Nat.le_refl _) _, .inr ⟨rfl, _, rfl⟩⟩
  have h1' : 1 ≤ T := by omega
  by_cases h2 : 255 < T
  · have hr : R = false := by rw [hR2]; simp; omega
    subst hr
    clear hR2
    go_enter Tryz.func24, Tryz.ntmps24
    go_wp2_with fail
    go_ret
    exact ⟨(Below.refl _ _).alloc (Nat.le_refl _) _, .inr ⟨rfl, _, rfl⟩⟩
  have h2' : T ≤ 255 := by omega
  by_cases h3 : N = 0
  · have hr : R = false := by rw [hR2]; simp [h3]
    subst hr h3
    clear hR2
    go_enter Tryz.func24, Tryz.ntmps24
    go_wp2_with fail
    go_ret
    exact ⟨(Below.refl _ _).alloc (Nat.le_refl _) _, .inr ⟨rfl, _, rfl⟩⟩
  have h3' : (N == 0) = false := by simpa using h3
  by_cases h4 : T = 1 ∧ N ≠ 1
  · have hr : R = false := by rw [hR2]; simp [h4.1, h4.2]
    obtain ⟨h4, h5⟩ := h4
    have h5' : (N == 1) = false := by simpa using h5
    subst hr h4
    clear hR2
    go_enter Tryz.func24, Tryz.ntmps24
    go_wp2_with fail
    go_ret
    exact ⟨(Below.refl _ _).alloc (Nat.le_refl _) _, .inr ⟨rfl, _, rfl⟩⟩
  have h6 : (decide (¬ T = 1) || decide (N = 1)) = true := by simp; omega
  have h7 : decide (¬ N = 0) = true := by simpa using h3
  have h8 : decide (1 ≤ T ∧ T ≤ 255) = true := by simp; omega
  rw [h6, h7, h8, Bool.true_and, Bool.true_and, Bool.true_and] at hR2
  clear h6 h7 h8
  have key : ∀ (hq : T ≠ 1 ∨ N = 1), Calls Tryz.prog 24 #[.agg #[.int .u64 T, .int .u64 N, .int .u64 (f : Int), .int .i64 c, .slice A nd cd]] w (WhyB R 50 w) := by
    intro hq
    by_cases hT : T = 1
    · obtain rfl : N = 1 := by omega
      subst hT
      clear hq h1 h1' h2 h2' h3 h3' h4
      by_cases h9 : c < 0
      · have hr : R = false := by rw [hR2]; simp; omega
        subst hr
        clear hR2
        go_enter Tryz.func24, Tryz.ntmps24
        go_wp2_with fail
        go_ret
        exact ⟨(Below.refl _ _).alloc (Nat.le_refl _) _, .inr ⟨rfl, _, rfl⟩⟩
      have h9' : 0 ≤ c := by omega
      by_cases h10 : 2 < c
      · have hr : R = false := by rw [hR2]; simp; omega
        subst hr
        clear hR2
        go_enter Tryz.func24, Tryz.ntmps24
        go_wp2_with fail
        go_ret
        exact ⟨(Below.refl _ _).alloc (Nat.le_refl _) _, .inr ⟨rfl, _, rfl⟩⟩
      have h10' : c ≤ 2 := by omega
      by_cases h11 : (4096 : Int) < nd
      · have hr : R = false := by rw [hR2]; simp; omega
        have h11' : 4096 < nd := by omega
        subst hr
        clear hR2
        go_enter Tryz.func24, Tryz.ntmps24
        go_wp2_with fail
        go_ret
        exact ⟨(Below.refl _ _).alloc (Nat.le_refl _) _, .inr ⟨rfl, _, rfl⟩⟩
      have h11' : nd ≤ 4096 := by omega
      have hr : R = true := by rw [hR2]; simp; omega
      subst hr
      clear hR2
      go_enter Tryz.func24, Tryz.ntmps24
      go_wp2_with fail
      go_ret
      exact ⟨(Below.refl _ _).alloc (Nat.le_refl _) _, .inl ⟨rfl, rfl⟩⟩
    · have hT' : (T == 1) = false := by simpa using hT
      clear hq h4
      by_cases h9 : c < 0
      · have hr : R = false := by rw [hR2]; simp; omega
        subst hr
        clear hR2
        go_enter Tryz.func24, Tryz.ntmps24
        go_wp2_with fail
        go_ret
        exact ⟨(Below.refl _ _).alloc (Nat.le_refl _) _, .inr ⟨rfl, _, rfl⟩⟩
      have h9' : 0 ≤ c := by omega
      by_cases h10 : 2 < c
      · have hr : R = false := by rw [hR2]; simp; omega
        subst hr
        clear hR2
        go_enter Tryz.func24, Tryz.ntmps24
        go_wp2_with fail
        go_ret
        exact ⟨(Below.refl _ _).alloc (Nat.le_refl _) _, .inr ⟨rfl, _, rfl⟩⟩
      have h10' : c ≤ 2 := by omega
      by_cases h11 : (4096 : Int) < nd
      · have hr : R = false := by rw [hR2]; simp; omega
        have h11' : 4096 < nd := by omega
        subst hr
        clear hR2
        go_enter Tryz.func24, Tryz.ntmps24
        go_wp2_with fail
        go_ret
        exact ⟨(Below.refl _ _).alloc (Nat.le_refl _) _, .inr ⟨rfl, _, rfl⟩⟩
      have h11' : nd ≤ 4096 := by omega
      have hr : R = true := by rw [hR2]; simp; omega
      subst hr
      clear hR2
      go_enter Tryz.func24, Tryz.ntmps24
      go_wp2_with fail
      go_ret
      exact ⟨(Below.refl _ _).alloc (Nat.le_refl _) _, .inl ⟨rfl, rfl⟩⟩
  exact key (by omega)

set_option maxRecDepth 100000 in
set_option maxHeartbeats 1000000 in
theorem sumsize_any (k : Int) (w : World) :
    Calls Tryz.prog 27 #[.int .i64 k] w fun e w' => e = .returned (.int .i64 (sumN k : Int)) ∧ Below w.heap.size w w' := by
  have C1 := Lib.hid (bytes_any k none 0 0 0 [] w Rd.nil_ (by decide))
  have hl := crcBytes_len k []
  generalize sumN k = N at *
  have HL := Lib.hid hl
  clear hl
  go_enter Tryz.func27, Tryz.ntmps27
  go_wp2_with fail
  refine C1.out.mono ?_
  rintro e w1 ⟨A, n, c, rfl, hr, hc, hb⟩
  have HB := Lib.hid hb
  obtain rfl : N = n := HL.out.symm.trans hr.1
  clear hb hr
  go_wp2_with fail
  go_ret
  exact ⟨rfl, HB.out⟩
end Go.Proofs.YtbdjkihgcmebgaaGreatDoor
/- What Uint and Text of layer 3 return, with nothing in it that is read below a block lo; an item stored into cells of one's own. -/
namespace Go.Proofs.YtbdjkihgcmebgaaGreatDoor
open Go.RowKit

/-- An item, read in no block below lo. -/
def GivesL (lo : Nat) (x : Itm) (w : World) (e : Ending) (w' : World) : Prop := ∃ v, e = .returned v ∧ RdI (mask (lows lo) w') w'.heap.size v x ∧ Below w.heap.size w w'

theorem Rd.mask_one {w : World} {lo B n b o : Nat} {l : List UInt8} (h : Rd w B (some ⟨b, o, none⟩) n l) (hb : lo ≤ b) : Rd (mask (lows lo) w) B (some ⟨b, o, none⟩) n l :=
  ⟨h.1, fun hn => by
    obtain ⟨b', o', e, hB, hc⟩ := h.2 hn
    injection e with e
    injection e with e1 e2
    subst e1 e2
    exact ⟨b, o, rfl, hB, fun i hi => (mask_cell (lows_f.2 hb)).trans (hc i hi)⟩⟩

/-- Four stores into block g, which the item is not read in. -/
theorem RdI.put4 {W : World} {B B' g lo lo' : Nat} {v : Value} {x : Itm} {u0 u1 u2 u3 : Value} (h : RdI (mask (lows lo) W) B v x) (hl : lo' ≤ lo) (hg : g < lo) (hB : B ≤ B') :
    RdI (mask (lows lo') ((((W.setCell ⟨g, 0, none⟩ u0).setCell ⟨g, 1, none⟩ u1).setCell ⟨g, 2, none⟩ u2).setCell ⟨g, 3, none⟩ u3)) B' v x :=
  h.sub hB fun q u _ hc => by
    have h1 := lows_f.1 (mask_out hc)
    have hq : ¬ g = q.block := by omega
    rw [mask_cell (lows_f.2 (by omega)), World.cell?_setCell_far _ _ _ _ hq, World.cell?_setCell_far _ _ _ _ hq, World.cell?_setCell_far _ _ _ _ hq, World.cell?_setCell_far _ _ _ _ hq]
    exact mask_sub hc
/-- The same item in a world that grew. -/
theorem RdI.grow {W W' : World} {lo lo' : Nat} {v : Value} {x : Itm} (h : RdI (mask (lows lo) W) W.heap.size v x) (hb : Below W.heap.size W W') (hl : lo' ≤ lo) : RdI (mask (lows lo') W') W'.heap.size v x :=
  h.sub hb.size fun q u hp hc => by
    have h1 := lows_f.1 (mask_out hc)
    rw [mask_cell (lows_f.2 (by omega)), hb.cell hp]
    exact mask_sub hc
theorem size_put4 {W : World} {g : Nat} {u0 u1 u2 u3 : Value} : ((((W.setCell ⟨g, 0, none⟩ u0).setCell ⟨g, 1, none⟩ u1).setCell ⟨g, 2, none⟩ u2).setCell ⟨g, 3, none⟩ u3).heap.size = W.heap.size := by simp [World.setCell]

/-- Zeros of an item's cells, in a block of one's own. -/
theorem zero4 {w W' : World} {g : Nat} (hg : g = w.heap.size) (h : Below (g + 1) (w.alloc (.cells #[.int .i64 0, .int .u64 0, .slice none 0 0, .slice none 0 0] 42)) W') :
    (W'.cell? ⟨g, 0, none⟩ = some (.int .i64 0) ∧ W'.cell? ⟨g, 1, none⟩ = some (.int .u64 0) ∧ W'.cell? ⟨g, 2, none⟩ = some (.slice none 0 0) ∧ W'.cell? ⟨g, 3, none⟩ = some (.slice none 0 0)) ∧
    (W'.frozen? ⟨g, 0, none⟩ = false ∧ W'.frozen? ⟨g, 1, none⟩ = false ∧ W'.frozen? ⟨g, 2, none⟩ = false ∧ W'.frozen? ⟨g, 3, none⟩ = false) := by
  subst hg
  exact zero_cells h

set_option maxRecDepth 100000 in
set_option maxHeartbeats 1000000 in
theorem cuintL_any (lo n : Nat) (w : World) (h : n < 18446744073709551616) :
    Calls Tryz.prog 55 #[.int .u64 (n : Int)] w (GivesL lo (.mk 0 n [] []) w) := by
  go_enter Tryz.func55, Tryz.ntmps55
  go_wp2_with fail
  have hr := fun W B => RdI.mk_uint (w := W) (B := B) (n := n) h
  exact bodyPost_ret (v := .agg #[.int .i64 0, .int .u64 (n : Int), .slice none 0 0, .slice none 0 0]) (by simp [results, Tryz.results55, go_sem]) rfl ⟨_, rfl, hr _ _, (Below.refl _ _).alloc (Nat.le_refl _) _⟩

end Go.Proofs.YtbdjkihgcmebgaaGreatDoor
/- What bytes.Equal returns. -/
namespace Go.Proofs.YtbdjkihgcmebgaaGreatDoor
open Go.RowKit

set_option maxRecDepth 100000 in
set_option maxHeartbeats 1000000 in
theorem bequal_any (A A' : Option Addr) (n c n' c' B : Nat) (l l' : List UInt8) (w : World) (h : Rd w B A n l) (h' : Rd w B A' n' l') :
    Calls Tryz.prog 36 #[.slice A n c, .slice A' n' c'] w fun e w' => e = .returned (.bool (l == l')) ∧ w = w' := by
  have r1 := run_str (P := Tryz.prog) (c := c) h 22 5 9 Tryz.underlying22 Tryz.underlying5 Tryz.underlying9
  have r2 := run_str (P := Tryz.prog) (c := c') h' 22 5 9 Tryz.underlying22 Tryz.underlying5 Tryz.underlying9
  have e1 : (⟨l.toArray⟩ : ByteArray).toList = l := by rw [Lib.toList_data]
  have e2 : (⟨l'.toArray⟩ : ByteArray).toList = l' := by rw [Lib.toList_data]
  have HE := Lib.hid (And.intro e1 e2)
  generalize (⟨l.toArray⟩ : ByteArray) = s at *
  generalize (⟨l'.toArray⟩ : ByteArray) = s' at *
  clear h h' e1 e2
  go_enter Tryz.func36, Tryz.ntmps36
  go_wp2_with fail
  go_ret
  refine ⟨?_, rfl⟩
  have h : (s.toList == s'.toList) = (l == l') := by rw [HE.out.1, HE.out.2]
  rw [← h]
  rfl

end Go.Proofs.YtbdjkihgcmebgaaGreatDoor
/- Same of the reference of layer 3. -/
namespace Go.Proofs.YtbdjkihgcmebgaaGreatDoor
open Go.RowKit

set_option maxRecDepth 100000 in
set_option maxHeartbeats 4000000 in
theorem rsame_n : ∀ (m : Nat) (x : Itm) (v v' : Value) (w : World) (B : Nat), par x < m → B ≤ w.heap.size → RdI w B v x → RdI w B v' x →
    Calls Tryz.prog 14 #[v, v'] w fun e w' => e = .returned (.bool true) ∧ Below w.heap.size w w'
  | 0, _, _, _, _, _, h, _, _, _ => absurd h (Nat.not_lt_zero _)
  | m + 1, .mk k n d l, v, v', w, B, hm, hB, h, h' => by
    obtain ⟨A, nd, cd, AL, cl, rfl, h1, h2, h3, h4, h5, h7⟩ := h.open
    obtain ⟨A', nd', cd', AL', cl', rfl, h1', h2', h3', h4', h5', h7'⟩ := h'.open
    obtain rfl : nd = nd' := h4.1.symm.trans h4'.1
    have IH := Lib.hid (rsame_n m)
    have H7 := Lib.hid h7
    have H7' := Lib.hid h7'
    have C1 := Lib.hid (fun W (hb : Below w.heap.size w W) => same_true A A' nd cd nd cd' B B d W (h4.below (hb.mono hB)) (h4'.below (hb.mono hB)))
    rw [par] at hm
    clear h1 h4 h7 h h1' h4' h7' h' h2'
    generalize hL : l.length = N at *
    have HL := Lib.hid hL
    have HB0 := Lib.hid (((Below.refl w.heap.size w).alloc (Nat.le_refl _) (.cells #[.int .i64 k, .int .u64 (n : Int), .slice A nd cd, .slice AL N cl] 42)).alloc (le_alloc _ _) (.cells #[.int .i64 k, .int .u64 (n : Int), .slice A' nd cd', .slice AL' N cl'] 42))
    clear hL
    go_enter Tryz.func14, Tryz.ntmps14
    go_wp2_with fail
    refine (C1.out _ HB0.out).mono ?_
    rintro e w1 ⟨rfl, rfl⟩
    go_wp2_with fail
    clear C1
    have f1 : ((w.alloc (.cells #[.int .i64 k, .int .u64 (n : Int), .slice A nd cd, .slice AL N cl] 42)).alloc (.cells #[.int .i64 k, .int .u64 (n : Int), .slice A' nd cd', .slice AL' N cl'] 42)).cell? ⟨w.heap.size, 3, none⟩ = some (.slice AL N cl) := by simp
    have f2 : ((w.alloc (.cells #[.int .i64 k, .int .u64 (n : Int), .slice A nd cd, .slice AL N cl] 42)).alloc (.cells #[.int .i64 k, .int .u64 (n : Int), .slice A' nd cd', .slice AL' N cl'] 42)).cell? ⟨w.heap.size + 1, 3, none⟩ = some (.slice AL' N cl') := by simp
    have fz : ((w.alloc (.cells #[.int .i64 k, .int .u64 (n : Int), .slice A nd cd, .slice AL N cl] 42)).alloc (.cells #[.int .i64 k, .int .u64 (n : Int), .slice A' nd cd', .slice AL' N cl'] 42)).heap.size = w.heap.size + 2 := by simp
    have F1 := Lib.hid f1
    have F2 := Lib.hid f2
    have FZ := Lib.hid fz
    clear f1 f2 fz
    generalize ((w.alloc (.cells #[.int .i64 k, .int .u64 (n : Int), .slice A nd cd, .slice AL N cl] 42)).alloc (.cells #[.int .i64 k, .int .u64 (n : Int), .slice A' nd cd', .slice AL' N cl'] 42)) = W0 at *
    go_loopw [4, 5] (fun rs i wr => ∃ j : Nat, j ≤ N ∧ rs = .bool false ∧ i = .int .i64 j ∧ Hid (Below (w.heap.size + 2) W0 wr))
      (fun _ i _ => N - (intOf i).toNat)
    case atStart => exact ⟨0, Nat.zero_le _, rfl, rfl, Below.refl _ _⟩
    case round =>
      obtain ⟨j, hj, rfl, rfl, hbel⟩ := hrel
      have q1 : wr.cell? ⟨w.heap.size, 3, none⟩ = some (.slice AL N cl) := (hbel.out.cell (p := ⟨w.heap.size, 3, none⟩) (by simp)).trans F1.out
      have q2 : wr.cell? ⟨w.heap.size + 1, 3, none⟩ = some (.slice AL' N cl') := (hbel.out.cell (p := ⟨w.heap.size + 1, 3, none⟩) (by simp)).trans F2.out
      have hsz : w.heap.size + 2 ≤ wr.heap.size := by have := hbel.out.size; have := FZ.out; omega
      have hs' : Below w.heap.size w wr := HB0.out.trans (hbel.out.mono (by omega))
      have HS := Lib.hid hs'
      by_cases hlt : j < N
      · obtain ⟨b, o, rfl, hb, hs⟩ := H7.out (by omega)
        obtain ⟨b', o', rfl, hb', hs2⟩ := H7'.out (by omega)
        have hjl : j < l.length := by rw [HL.out]; exact hlt
        obtain ⟨c0, c1, c2, c3, g0, g1, g2, g3, gx⟩ := hs.get j hjl
        obtain ⟨x0, x1, x2, x3, p0, p1, p2, p3, px⟩ := hs2.get j hjl
        have e0 : wr.cell? ⟨b, o + j * 4, none⟩ = some c0 := (hs'.cell (p := ⟨b, o + j * 4, none⟩) (by show b < _; omega)).trans g0
        have e1 : wr.cell? ⟨b, o + j * 4 + 1, none⟩ = some c1 := (hs'.cell (p := ⟨b, o + j * 4 + 1, none⟩) (by show b < _; omega)).trans g1
        have e2 : wr.cell? ⟨b, o + j * 4 + 2, none⟩ = some c2 := (hs'.cell (p := ⟨b, o + j * 4 + 2, none⟩) (by show b < _; omega)).trans g2
        have e3 : wr.cell? ⟨b, o + j * 4 + 3, none⟩ = some c3 := (hs'.cell (p := ⟨b, o + j * 4 + 3, none⟩) (by show b < _; omega)).trans g3
        have r0 : wr.cell? ⟨b', o' + j * 4, none⟩ = some x0 := (hs'.cell (p := ⟨b', o' + j * 4, none⟩) (by show b' < _; omega)).trans p0
        have r1 : wr.cell? ⟨b', o' + j * 4 + 1, none⟩ = some x1 := (hs'.cell (p := ⟨b', o' + j * 4 + 1, none⟩) (by show b' < _; omega)).trans p1
        have r2 : wr.cell? ⟨b', o' + j * 4 + 2, none⟩ = some x2 := (hs'.cell (p := ⟨b', o' + j * 4 + 2, none⟩) (by show b' < _; omega)).trans p2
        have r3 : wr.cell? ⟨b', o' + j * 4 + 3, none⟩ = some x3 := (hs'.cell (p := ⟨b', o' + j * 4 + 3, none⟩) (by show b' < _; omega)).trans p3
        have hpg : par (l[j]'hjl) ≤ pars l := par_get _
        have C1 := Lib.hid (IH.out (l[j]'hjl) _ _ wr.drew B (by omega) (by show B ≤ wr.heap.size; omega) ((gx.below (hs'.mono hB)).below Below.drew_) ((px.below (hs'.mono hB)).below Below.drew_))
        clear g0 g1 g2 g3 gx hs hs' p0 p1 p2 p3 px hs2 hpg
        have i0 : (0 : Int) ≤ (j : Int) := by omega
        have i1 : (j : Int) < (N : Int) := by omega
        have HHB := Lib.hid hB
        have HZ := Lib.hid hsz
        have HBb := Lib.hid hb
        have HBb' := Lib.hid hb'
        clear hB hsz hb hb'
        go_wp2_with fail
        go_region_held3 (fun W => W.cell? ⟨w.heap.size, 3, none⟩ = some (.slice (some ⟨b, o, none⟩) N cl) ∧ W.cell? ⟨w.heap.size + 1, 3, none⟩ = some (.slice (some ⟨b', o', none⟩) N cl') ∧
            W.cell? ⟨b, o + j * 4, none⟩ = some c0 ∧ W.cell? ⟨b, o + j * 4 + 1, none⟩ = some c1 ∧ W.cell? ⟨b, o + j * 4 + 2, none⟩ = some c2 ∧ W.cell? ⟨b, o + j * 4 + 3, none⟩ = some c3 ∧
            W.cell? ⟨b', o' + j * 4, none⟩ = some x0 ∧ W.cell? ⟨b', o' + j * 4 + 1, none⟩ = some x1 ∧ W.cell? ⟨b', o' + j * 4 + 2, none⟩ = some x2 ∧ W.cell? ⟨b', o' + j * 4 + 3, none⟩ = some x3)
          (first | (exact ⟨q1, q2, e0, e1, e2, e3, r0, r1, r2, r3⟩) | (exact ⟨(HB1.out.cell (p := ⟨w.heap.size, 3, none⟩) (by have := HZ.out; show w.heap.size < _; omega)).trans q1, (HB1.out.cell (p := ⟨w.heap.size + 1, 3, none⟩) (by have := HZ.out; show w.heap.size + 1 < _; omega)).trans q2,
              (HB1.out.cell (p := ⟨b, o + j * 4, none⟩) HLb.out).trans e0, (HB1.out.cell (p := ⟨b, o + j * 4 + 1, none⟩) HLb.out).trans e1, (HB1.out.cell (p := ⟨b, o + j * 4 + 2, none⟩) HLb.out).trans e2, (HB1.out.cell (p := ⟨b, o + j * 4 + 3, none⟩) HLb.out).trans e3,
              (HB1.out.cell (p := ⟨b', o' + j * 4, none⟩) HLb'.out).trans r0, (HB1.out.cell (p := ⟨b', o' + j * 4 + 1, none⟩) HLb'.out).trans r1, (HB1.out.cell (p := ⟨b', o' + j * 4 + 2, none⟩) HLb'.out).trans r2, (HB1.out.cell (p := ⟨b', o' + j * 4 + 3, none⟩) HLb'.out).trans r3⟩) | fail)
          (first
            | (go_at_call 14; refine C1.out.mono ?_; rintro e w1 ⟨rfl, hb1⟩; have HB1 := Lib.hid (((Below.refl wr.heap.size wr).drew).trans hb1); have HLb : Hid (b < wr.heap.size) := Nat.lt_of_lt_of_le HBb.out (Nat.le_trans HHB.out (Nat.le_trans (Nat.le_add_right _ 2) HZ.out)); have HLb' : Hid (b' < wr.heap.size) := Nat.lt_of_lt_of_le HBb'.out (Nat.le_trans HHB.out (Nat.le_trans (Nat.le_add_right _ 2) HZ.out)); clear hb1)
            | fail)
        go_wp2_with fail
        go_roundw
        case rel => exact ⟨j + 1, by omega, rfl, by go_num, hbel.out.trans (HB1.out.mono HZ.out)⟩
        case measure => simp [intOf]; omega
      · obtain rfl : j = N := by omega
        clear hs'
        go_wp2_with fail
        go_ret
        exact ⟨rfl, HS.out⟩
end Go.Proofs.YtbdjkihgcmebgaaGreatDoor
/- The plain mathematics of layer 4, second part: a text cut at its first c; a name by its pieces; digits read as they were written; whose text, or item, something could be. No program's number stands here. -/
namespace Go.Proofs.YtbdjkihgcmebgaaGreatDoor
open Go.Lib (decDigits)

/-- What stands ahead of the first c, what stands behind it, and whether there is one. -/
def ahead (c : UInt8) (l : List UInt8) : List UInt8 := l.takeWhile fun x => x != c
def behind (c : UInt8) (l : List UInt8) : List UInt8 := l.drop ((ahead c l).length + 1)
def hasB (c : UInt8) (l : List UInt8) : Bool := decide ((ahead c l).length < l.length)

theorem ahead_nil (c : UInt8) : ahead c [] = [] := rfl
theorem ahead_cons (c x : UInt8) (l : List UInt8) : ahead c (x :: l) = if x = c then [] else x :: ahead c l := by
  unfold ahead
  rw [List.takeWhile_cons]
  by_cases h : x = c <;> simp [h]
theorem ahead_no (c : UInt8) : ∀ l : List UInt8, ∀ x ∈ ahead c l, x ≠ c
  | [], x, h => by rw [ahead_nil] at h; cases h
  | y :: l, x, h => by
    rw [ahead_cons] at h
    split at h
    · cases h
    · rename_i hne
      rcases List.mem_cons.1 h with rfl | h
      · exact hne
      · exact ahead_no c l x h
theorem ahead_le (c : UInt8) : ∀ l : List UInt8, (ahead c l).length ≤ l.length
  | [] => Nat.le_refl _
  | y :: l => by
    rw [ahead_cons]
    split
    · exact Nat.zero_le _
    · have := ahead_le c l; simp only [List.length_cons]; omega
theorem ahead_take (c : UInt8) : ∀ l : List UInt8, ahead c l = l.take (ahead c l).length
  | [] => rfl
  | y :: l => by
    rw [ahead_cons]
    split
    · rfl
    · have := ahead_take c l
      simp only [List.length_cons, List.take_succ_cons]
      rw [← this]
theorem ahead_all {c : UInt8} {l : List UInt8} (h : hasB c l = false) : ahead c l = l := by
  have h1 := ahead_le c l
  have h2 : (ahead c l).length = l.length := by unfold hasB at h; simp at h; omega
  rw [ahead_take c l, h2, List.take_length]
theorem behind_nil {c : UInt8} {l : List UInt8} (h : hasB c l = false) : behind c l = [] := by
  unfold behind
  rw [ahead_all h]
  simp
theorem cut_eq {c : UInt8} : ∀ {l : List UInt8}, hasB c l = true → l = ahead c l ++ c :: behind c l
  | [], h => by simp [hasB] at h
  | y :: l, h => by
    unfold behind
    rw [ahead_cons]
    by_cases hy : y = c
    · subst hy; simp
    · rw [if_neg hy]
      have h' : hasB c l = true := by
        unfold hasB at h ⊢
        rw [ahead_cons, if_neg hy] at h
        simp at h ⊢
        omega
      have e := cut_eq h'
      unfold behind at e
      simp only [List.length_cons, List.drop_succ_cons, List.cons_append]
      rw [← e]
theorem ahead_app {c : UInt8} : ∀ {u : List UInt8} (t : List UInt8), (∀ x ∈ u, x ≠ c) → ahead c (u ++ c :: t) = u
  | [], t, _ => by rw [List.nil_append, ahead_cons, if_pos rfl]
  | y :: u, t, h => by
    rw [List.cons_append, ahead_cons, if_neg (h y (by simp)), ahead_app t (fun x hx => h x (by simp [hx]))]
theorem has_app {c : UInt8} {u t : List UInt8} (h : ∀ x ∈ u, x ≠ c) : hasB c (u ++ c :: t) = true ∧ behind c (u ++ c :: t) = t := by
  unfold hasB behind
  rw [ahead_app t h]
  refine ⟨by simp, ?_⟩
  rw [List.drop_append]
  simp
theorem index_ahead (c : UInt8) : ∀ l : List UInt8, Lib.indexByte l c = if hasB c l = true then ((ahead c l).length : Int) else -1
  | [] => by simp [Lib.indexByte, hasB]
  | y :: l => by
    have ih := index_ahead c l
    have e1 : hasB c (y :: l) = if y = c then true else hasB c l := by
      unfold hasB
      rw [ahead_cons]
      by_cases hy : y = c <;> simp [hy]
    rw [Lib.indexByte, e1, ahead_cons]
    by_cases hy : y = c
    · subst hy; simp
    · have hb : (y == c) = false := by simpa using hy
      rw [hb, if_neg hy, if_neg hy, ih]
      rw [if_neg (by simp)]
      by_cases hh : hasB c l = true
      · rw [if_pos hh, if_pos hh]
        have : ¬ ((((ahead c l).length : Int) == -1) = true) := by rw [beq_iff_eq]; omega
        rw [if_neg this, List.length_cons]
        omega
      · rw [if_neg hh, if_neg hh]; rfl

/-- Digits are read as the number that was written. -/
theorem parse_app (M : Nat) : ∀ (l t : List UInt8) (acc v : Nat), Lib.parseUintM M acc l = .ok v → Lib.parseUintM M acc (l ++ t) = Lib.parseUintM M v t
  | [], t, acc, v, h => by
    simp only [Lib.parseUintM] at h
    cases h
    rfl
  | c :: r, t, acc, v, h => by
    simp only [Lib.parseUintM] at h
    simp only [List.cons_append, Lib.parseUintM]
    split at h
    · rename_i hd
      rw [if_pos hd]
      split at h
      · cases h
      · rename_i h1
        rw [if_neg h1]
        split at h
        · cases h
        · rename_i h2
          rw [if_neg h2]
          exact parse_app M r t _ v h
    · cases h
theorem parse_dec (M : Nat) (hM : M ≤ 4294967295) : ∀ n : Nat, n ≤ M → Lib.parseUintM M 0 (decDigits n) = .ok n := by
  intro n
  induction n using Nat.strongRecOn with
  | _ n ih =>
    intro hn
    have hd : ∀ d : Nat, d < 10 → (UInt8.ofNat (48 + d)).toNat = 48 + d := fun d h => by
      have h2 : ∀ d : Fin 10, (UInt8.ofNat (48 + d.val)).toNat = 48 + d.val := by decide +kernel
      exact h2 ⟨d, h⟩
    by_cases hx : n < 10
    · rw [dec_small hx]
      simp only [Lib.parseUintM]
      rw [hd n hx, if_pos (by omega), if_neg (by omega), if_neg (by omega)]
      congr 1
      omega
    · rw [dec_big hx, parse_app M _ _ 0 (n / 10) (ih (n / 10) (by omega) (by omega))]
      simp only [Lib.parseUintM]
      rw [hd (n % 10) (by omega), if_pos (by omega), if_neg (by omega), if_neg (by omega)]
      congr 1
      omega
theorem dec_ne_nil (n : Nat) : decDigits n ≠ [] := by
  by_cases hx : n < 10
  · rw [dec_small hx]; simp
  · rw [dec_big hx]; simp
theorem parse32 (n : Nat) (h : n ≤ 4294967295) : Lib.parseUintB 32 (decDigits n) = .ok n := by
  unfold Lib.parseUintB
  rw [if_neg (dec_ne_nil n)]
  exact parse_dec _ (by decide) n (by omega)
theorem parse32_le {l : List UInt8} {n : Nat} (h : Lib.parseUintB 32 l = .ok n) : n ≤ 4294967295 := by
  have key : ∀ (l : List UInt8) (acc v : Nat), acc ≤ 4294967295 → Lib.parseUintM 4294967295 acc l = .ok v → v ≤ 4294967295 := by
    intro l
    induction l with
    | nil => intro acc v ha h; simp only [Lib.parseUintM] at h; cases h; exact ha
    | cons c r ih =>
      intro acc v ha h
      simp only [Lib.parseUintM] at h
      split at h
      · split at h
        · cases h
        · split at h
          · cases h
          · exact ih _ _ (by omega) h
      · cases h
  unfold Lib.parseUintB at h
  split at h
  · cases h
  · exact key l 0 n (by omega) h

/-- A name by its pieces, as it is asked for. -/
def nameC (s : List UInt8) : Bool :=
  decide (s.length ≤ 64) && (Lib.hasPrefix s [47, 47] && (hasB 47 (s.drop 2) && (!(ahead 47 (s.drop 2)).isEmpty && ((ahead 47 (s.drop 2)).all letterB && (behind 47 (s.drop 2)).all lsB))))
theorem beq_comm_u (a b : UInt8) : (a == b) = (b == a) := by
  by_cases h : a = b
  · subst h; rfl
  · have h2 : ¬ b = a := fun e => h e.symm
    rw [beq_eq_false_iff_ne.2 h, beq_eq_false_iff_ne.2 h2]
theorem toSlash_ahead (l : List UInt8) : toSlash l = (ahead 47 l).length := rfl
theorem letter_ls {c : UInt8} (h : c ≠ 47) : lsB c = letterB c := by
  unfold lsB
  have : (c == 47) = false := by simpa using h
  rw [this, Bool.false_or]
theorem all_ls {l : List UInt8} (h : ∀ x ∈ l, x ≠ 47) : l.all lsB = l.all letterB := by
  induction l with
  | nil => rfl
  | cons a l ih =>
    rw [List.all_cons, List.all_cons, letter_ls (h a (by simp)), ih (fun x hx => h x (by simp [hx]))]
theorem nameC_eq (s : List UInt8) : nameC s = nameB s := by
  unfold nameC nameB
  congr 1
  match s with
  | [] => rfl
  | [a] => simp [Lib.hasPrefix, List.isPrefixOf]
  | a :: b :: r =>
    have e1 : Lib.hasPrefix (a :: b :: r) [47, 47] = (a == 47 && b == 47) := by
      simp only [Lib.hasPrefix, List.isPrefixOf, Bool.and_true]
      rw [show ((47 : UInt8) == a) = (a == 47) from beq_comm_u _ _, show ((47 : UInt8) == b) = (b == 47) from beq_comm_u _ _]
    rw [e1]
    congr 1
    show (hasB 47 r && _) = _
    rw [show (a :: b :: r).drop 2 = r from rfl]
    by_cases hh : hasB 47 r = true
    · have e := cut_eq hh
      have e2 : r.all lsB = ((ahead 47 r).all letterB && (behind 47 r).all lsB) := by
        conv => lhs; rw [e]
        rw [List.all_append, List.all_cons, all_ls (ahead_no 47 r)]
        rfl
      have e3 : decide (toSlash r < r.length) = true := hh
      have e4 : (!(ahead 47 r).isEmpty) = decide (1 ≤ toSlash r) := by
        rw [toSlash_ahead]
        cases ahead 47 r <;> simp
      rw [hh, e3, e2, e4, Bool.true_and, Bool.and_true, Bool.and_comm]
    · have e3 : decide (toSlash r < r.length) = false := by rw [Bool.not_eq_true] at hh; exact hh
      rw [Bool.not_eq_true] at hh
      rw [hh, e3, Bool.false_and, Bool.and_false, Bool.and_false]
end Go.Proofs.YtbdjkihgcmebgaaGreatDoor
/- Imports alone. -/
/- What layer 4's questions about bytes and texts return: isLetter, or's function, only (at both), isName; strings.Cut at one byte. -/
namespace Go.Proofs.YtbdjkihgcmebgaaGreatDoor
open Go.RowKit

theorem letter_num (x : UInt8) : letterB x = ((decide (97 ≤ x.toNat) && decide (x.toNat ≤ 122)) || ((decide (48 ≤ x.toNat) && decide (x.toNat ≤ 57)) || (decide (x.toNat = 46) || (decide (x.toNat = 45) || decide (x.toNat = 95))))) := by
  have e : ∀ k : UInt8, (x == k) = decide (x.toNat = k.toNat) := fun k => by
    by_cases h : x = k
    · subst h; simp
    · rw [beq_eq_false_iff_ne.2 h, decide_eq_false]
      intro h2
      exact h (UInt8.toNat_inj.1 h2)
  unfold letterB
  rw [e 46, e 45, e 95]
  rfl

end Go.Proofs.YtbdjkihgcmebgaaGreatDoor
/- What layer 4's only returns, and strings.Cut at one byte. -/
namespace Go.Proofs.YtbdjkihgcmebgaaGreatDoor
open Go.RowKit

/-- What strings.Cut answers at the one byte c. -/
def cutV (c : UInt8) (s : ByteArray) : Value := .tuple #[.string ⟨(ahead c s.data.toList).toArray⟩, .string ⟨(behind c s.data.toList).toArray⟩, .bool (hasB c s.data.toList)]

end Go.Proofs.YtbdjkihgcmebgaaGreatDoor
/- What the checks of layer 4 return: isName, checkDtn, checkIpn, check, Check, None; the sentinels that stand in the package's variables. -/
namespace Go.Proofs.YtbdjkihgcmebgaaGreatDoor
open Go.RowKit

/-- Where the four sentinels' texts lie. -/
structure Snt where
  s : Addr
  n : Addr
  u : Addr
  f : Addr
def OneOf (A : Snt) (a : Addr) : Prop := a = A.s ∨ a = A.n ∨ a = A.u ∨ a = A.f
theorem drewN_below {B : Nat} {w : World} (m : Nat) : Below B w (w.drewN m) := ⟨rfl, rfl, rfl, Nat.le_refl _, fun _ _ => rfl⟩

/-- An endpoint as it stands in slots. -/
def epdV (sc : Int) (s : ByteArray) (n v : Nat) : Value := .agg #[.int .i64 sc, .string s, .int .u64 (n : Int), .int .u64 (v : Int)]
def ep (sc : Int) (s : ByteArray) (n v : Nat) : Epd := ⟨sc, s.data.toList, n, v⟩
theorem str_empty (s : ByteArray) : s.toList.isEmpty = s.data.toList.isEmpty := by rw [Lib.toList_data]

end Go.Proofs.YtbdjkihgcmebgaaGreatDoor
/- errors.Is over the chains of layer 4: a sentinel, or a fault by value round such a chain; and numberOf. -/
namespace Go.Proofs.YtbdjkihgcmebgaaGreatDoor
open Go.RowKit Go.Extern.Stop Go.Stop Go.Extern

theorem isMethodComparable (n : Nat) (v : Value) (w : World) : (Go.method (n + 8) 121 v "Comparable").run Tryz.prog w = .ok (116, v) w := by kernel_rfl
/-- How many links a chain has, by its value. -/
def links : Nat → Value → Nat
  | 0, _ => 0
  | n + 1, .iface _ (.agg #[_, v]) => links n v + 1
  | _ + 1, _ => 0
theorem put4_cell_ {W : World} {g : Nat} {p : Addr} {u v0 v1 v2 v3 : Value} (h : W.cell? p = some u) (hg : ¬ g = p.block) : ((((W.setCell ⟨g, 0, none⟩ v0).setCell ⟨g, 1, none⟩ v1).setCell ⟨g, 2, none⟩ v2).setCell ⟨g, 3, none⟩ v3).cell? p = some u := by
  rw [World.cell?_setCell_far _ _ _ _ hg, World.cell?_setCell_far _ _ _ _ hg, World.cell?_setCell_far _ _ _ _ hg, World.cell?_setCell_far _ _ _ _ hg]
  exact h
end Go.Proofs.YtbdjkihgcmebgaaGreatDoor
/- What checkIpn, check, Check and None of layer 4 return. -/
namespace Go.Proofs.YtbdjkihgcmebgaaGreatDoor
open Go.RowKit

end Go.Proofs.YtbdjkihgcmebgaaGreatDoor
/- Chosen by shake.py of the texts of the layers below: what dec_any need. -/
section
namespace Go.Proofs.YtbdjkihgcmebgaaGreatDoor
open Go.RowKit
/-- The array's content: the digits suf from place f on. -/
def decRow (f : Nat) (suf : List UInt8) : Nat → Value := fun j => if f ≤ j then .int .u8 ((suf.getD (j - f) 0).toNat : Int) else .int .u8 0
theorem dig10 (d : Nat) (h : d < 16) (h10 : d < 10) : Value.int .u8 (((⟨#[48, 49, 50, 51, 52, 53, 54, 55, 56, 57, 97, 98, 99, 100, 101, 102]⟩ : ByteArray)[d]'h).toNat : Int) = .int .u8 ((UInt8.ofNat (48 + d)).toNat : Int) := by
  have : ∀ d : Fin 10, (⟨#[48, 49, 50, 51, 52, 53, 54, 55, 56, 57, 97, 98, 99, 100, 101, 102]⟩ : ByteArray)[d.val]'(Nat.lt_of_lt_of_le d.isLt (by decide)) = UInt8.ofNat (48 + d.val) := by decide +kernel
  rw [this ⟨d, h10⟩]
theorem decRow_step (a f : Nat) (suf : List UInt8) (j : Nat) (hf : 1 ≤ f) (_hs : f ≤ 20) (_hj : j < 20) {h : a % 10 < 16} :
    (if j = f - 1 then Value.int .u8 (((⟨#[48, 49, 50, 51, 52, 53, 54, 55, 56, 57, 97, 98, 99, 100, 101, 102]⟩ : ByteArray)[a % 10]'h).toNat : Int) else decRow f suf j) = decRow (f - 1) (UInt8.ofNat (48 + a % 10) :: suf) j := by
  rw [dig10 _ h (by omega)]
  unfold decRow
  by_cases e : j = f - 1
  · subst e
    rw [if_pos rfl, if_pos (Nat.le_refl _), Nat.sub_self]
    rfl
  · rw [if_neg e]
    by_cases h2 : f ≤ j
    · rw [if_pos h2, if_pos (by omega), show j - (f - 1) = (j - f) + 1 by omega]
      simp [List.getD]
    · rw [if_neg h2, if_neg (by omega)]
theorem decRow_set {w : World} {b f : Nat} {t : TypeId} {suf : List UInt8} (hrow : w.rowIs b t 20 (decRow f suf)) (a : Nat) (hf : 1 ≤ f) (hf20 : f ≤ 20) (h : a % 10 < 16) :
    (w.setCell ⟨b, f - 1, none⟩ (Value.int .u8 (((⟨#[48, 49, 50, 51, 52, 53, 54, 55, 56, 57, 97, 98, 99, 100, 101, 102]⟩ : ByteArray)[a % 10]'h).toNat : Int))).rowIs b t 20 (decRow (f - 1) (UInt8.ofNat (48 + a % 10) :: suf)) :=
  (World.rowIs.set hrow (f - 1) _).congr fun j hj => decRow_step a f suf j hf hf20 hj
end Go.Proofs.YtbdjkihgcmebgaaGreatDoor
end
/- What ipnText, Text and Node of layer 4 return. -/
namespace Go.Proofs.YtbdjkihgcmebgaaGreatDoor
open Go.RowKit
open Go.Lib (decDigits)

def strL (l : List UInt8) : ByteArray := ⟨l.toArray⟩
theorem strL_app (a b : List UInt8) : strL a ++ strL b = strL (a ++ b) := by
  apply ByteArray.ext
  unfold strL
  simp [ByteArray.data_append]
theorem strL_data (s : ByteArray) : strL s.data.toList = s := Lib.mk_data s
theorem strL_list (l : List UInt8) : (strL l).data.toList = l := by unfold strL; simp
theorem strL_size (l : List UInt8) : (strL l).size = l.length := by rw [Lib.size_eq, strL_list]
theorem nd20 (n : Nat) (h : n < 18446744073709551616) : (decDigits n).length ≤ 20 := by
  have key : ∀ (k n : Nat), n < 10 ^ (k + 1) → (decDigits n).length ≤ k + 1 := by
    intro k
    induction k with
    | zero => intro n hn; rw [dec_small (by omega)]; simp
    | succ k ih =>
      intro n hn
      by_cases h10 : n < 10
      · rw [dec_small h10]; simp
      · rw [dec_big h10, List.length_append]
        have := ih (n / 10) (by rw [Nat.div_lt_iff_lt_mul (by decide)]; rw [Nat.pow_succ] at hn; exact hn)
        simp only [List.length_singleton]
        omega
  exact key 19 n (Nat.lt_of_lt_of_le h (by decide))

/-- The four cells of a box of its own, behind what leaves them. -/
theorem box_cells4 {w w' : World} {c0 c1 c2 c3 : Value} {t : TypeId} (h : Below (w.alloc (.cells #[c0, c1, c2, c3] t)).heap.size (w.alloc (.cells #[c0, c1, c2, c3] t)) w') :
    w'.cell? ⟨w.heap.size, 0, none⟩ = some c0 ∧ w'.cell? ⟨w.heap.size, 1, none⟩ = some c1 ∧ w'.cell? ⟨w.heap.size, 2, none⟩ = some c2 ∧ w'.cell? ⟨w.heap.size, 3, none⟩ = some c3 := by
  refine ⟨?_, ?_, ?_, ?_⟩ <;> (rw [h.cell (by simp), World.cell?_alloc_at _ _ _ _ rfl]; rfl)
theorem ep_name (sc : Int) (s : ByteArray) (n v : Nat) : (ep sc s n v).name = s.data.toList := rfl

end Go.Proofs.YtbdjkihgcmebgaaGreatDoor
