/- The plain mathematics of layer 3: parts of lists of items. No program's number stands here. -/
import Derived.Test.YtldnokgdgafphaaDoorJCborI
import Derived.Test.YtldnokgdgafphaaDoorJCborO
import Derived.Test.YtldnokgdgafphaaDoorJCrcR
namespace Go.Proofs.YtldnokgdgafphaaDoor

theorem deps_app : ∀ (a b : List Itm), deps (a ++ b) = max (deps a) (deps b)
  | [], b => by rw [deps]; simp
  | x :: r, b => by rw [List.cons_append, deps, deps, deps_app r b]; omega
theorem deps_take (l : List Itm) (j : Nat) (h : j < l.length) : deps (l.take (j + 1)) = max (deps (l.take j)) (dep (l[j]'h)) := by
  rw [List.take_succ_eq_append_getElem h, deps_app, deps, deps]
  omega
mutual
theorem dep_le : ∀ x : Itm, dep x ≤ par x
  | .mk k _ _ l => by have := deps_le l; rw [dep, par]; split <;> omega
theorem deps_le : ∀ l : List Itm, deps l ≤ pars l
  | [] => by rw [deps]; omega
  | x :: r => by have := dep_le x; have := deps_le r; rw [deps, pars]; omega
end
theorem pars_app : ∀ (a b : List Itm), pars (a ++ b) = pars a + pars b
  | [], b => by rw [pars]; simp
  | x :: r, b => by rw [List.cons_append, pars, pars, pars_app r b]; omega
theorem pars_take (l : List Itm) (j : Nat) (h : j < l.length) : pars (l.take (j + 1)) = pars (l.take j) + par (l[j]'h) := by
  rw [List.take_succ_eq_append_getElem h, pars_app, pars, pars]
  omega
theorem pars_le (l : List Itm) (j : Nat) : pars (l.take j) ≤ pars l := by
  conv => rhs; rw [← List.take_append_drop j l, pars_app]
  omega
theorem plain_take' (d : List UInt8) (k : Nat) (h : plain d = true) : plain (d.take k) = true := by
  unfold plain at *
  rw [List.all_eq_true] at *
  exact fun c hc => h c (List.mem_of_mem_take hc)
/-- A part of a text. -/
theorem plain_snoc (l : List UInt8) (x : UInt8) : plain (l ++ [x]) = (plain l && (decide (32 ≤ x.toNat) && decide (x.toNat ≤ 126))) := by
  unfold plain
  rw [List.all_append]
  simp
theorem plain_take_f (l : List UInt8) (k : Nat) (h : plain (l.take k) = false) : plain l = false := by
  rcases hb : plain l with _ | _
  · rfl
  · rw [plain_take' l k hb] at h; cases h
end Go.Proofs.YtldnokgdgafphaaDoor
/- The plain mathematics of layer 5: blocks, the bytes that they are, how bytes are read as one. No program's number stands here but the sums' (CrcR). -/
namespace Go.Proofs.YtldnokgdgafphaaDoor

/-- A block: type, number, flags, kind of sum, data. -/
structure Blk where
  typ : Nat
  num : Nat
  flg : Nat
  crc : Int
  dat : List UInt8
def Blk.zero : Blk := ⟨0, 0, 0, 0, []⟩
/-- May it be? -/
def blkOk (b : Blk) : Bool := decide (1 ≤ b.typ ∧ b.typ ≤ 255) && (decide (b.num ≠ 0) && ((decide (b.typ ≠ 1) || decide (b.num = 1)) && (decide (0 ≤ b.crc ∧ b.crc ≤ 2) && decide (b.dat.length ≤ 4096))))
theorem blkOk_iff {b : Blk} : blkOk b = true ↔ (1 ≤ b.typ ∧ b.typ ≤ 255) ∧ b.num ≠ 0 ∧ (b.typ ≠ 1 ∨ b.num = 1) ∧ (0 ≤ b.crc ∧ b.crc ≤ 2) ∧ b.dat.length ≤ 4096 := by
  unfold blkOk; simp [Bool.and_eq_true, Bool.or_eq_true]
/-- Its numbers are below 2^64. -/
def Bd (b : Blk) : Prop := b.typ < 18446744073709551616 ∧ b.num < 18446744073709551616 ∧ b.flg < 18446744073709551616
/-- How many bytes a sum has. -/
def sumN (k : Int) : Nat := if k = 1 then 2 else if k = 2 then 4 else 0
theorem sumN_le (k : Int) : sumN k ≤ 4 := by unfold sumN; repeat' (split <;> try omega)
theorem crcBytes_len (k : Int) (l : List UInt8) : (crcBytes k l).length = sumN k := by
  unfold crcBytes sumN
  split
  · rw [be_length]
  · split
    · rw [be_length]
    · rfl
def partsB (b : Blk) : List Itm := [.mk 0 b.typ [] [], .mk 0 b.num [] [], .mk 0 b.flg [] [], .mk 0 b.crc.toNat [] [], .mk 2 0 b.dat []]
/-- Its item, with a sum's bytes. -/
def itmB (b : Blk) (s : List UInt8) : Itm := .mk 4 0 [] (partsB b ++ if b.crc = 0 then [] else [.mk 2 0 s []])
/-- All its bytes but the sum's. -/
def bodyB (b : Blk) : List UInt8 := hd 4 (if b.crc = 0 then 5 else 6) ++ (wrs (partsB b) ++ if b.crc = 0 then [] else hd 2 (sumN b.crc))
def nulls (b : Blk) : List UInt8 := List.replicate (sumN b.crc) 0
theorem nulls_len (b : Blk) : (nulls b).length = sumN b.crc := by simp [nulls]
def sumB (b : Blk) : List UInt8 := crcBytes b.crc (bodyB b ++ nulls b)
/-- Its bytes. -/
def blkW (b : Blk) : List UInt8 := bodyB b ++ sumB b
theorem sumB_len (b : Blk) : (sumB b).length = sumN b.crc := crcBytes_len _ _
theorem wrs_ap : ∀ a b : List Itm, wrs (a ++ b) = wrs a ++ wrs b
  | [], b => rfl
  | x :: r, b => by rw [List.cons_append, wrs, wrs, wrs_ap r b, List.append_assoc]
theorem wri_u (n : Nat) : wri (.mk 0 n [] []) = hd 0 n := by rw [wri, if_pos rfl]
theorem wri_b (d : List UInt8) : wri (.mk 2 0 d []) = hd 2 d.length ++ d := by rw [wri, if_neg (by decide), if_pos (by decide)]; rfl
theorem wri_itm (b : Blk) (s : List UInt8) (hs : s.length = sumN b.crc) (_hc : 0 ≤ b.crc ∧ b.crc ≤ 2) : wri (itmB b s) = bodyB b ++ s := by
  unfold itmB
  rw [wri, if_neg (by decide), if_neg (by decide), if_pos rfl]
  unfold bodyB
  by_cases h0 : b.crc = 0
  · have : s = [] := List.eq_nil_of_length_eq_zero (by rw [hs, h0]; rfl)
    subst this
    simp only [if_pos h0, List.append_nil]
    rw [show (partsB b).length = 5 from rfl]
  · simp only [if_neg h0]
    rw [wrs_ap, show (partsB b ++ [Itm.mk 2 0 s []]).length = 6 from rfl, wrs, wri_b, wrs, hs]
    simp [List.append_assoc]
theorem partsB_right (b : Blk) : rights (partsB b) = true := by unfold partsB; simp [rights, right, own]
theorem itm_fits (b : Blk) (s : List UInt8) : Fits (itmB b s) := by
  unfold itmB partsB
  by_cases h0 : b.crc = 0
  · simp only [if_pos h0]
    exact ⟨by simp [right, rights, own], by simp [dep, deps], by simp [par, pars]⟩
  · simp only [if_neg h0]
    exact ⟨by simp [right, rights, own], by simp [dep, deps], by simp [par, pars]⟩
theorem itm_siz (b : Blk) (s : List UInt8) (hb : Bd b) (hc : b.crc ≤ 2) (hd : b.dat.length < 18446744073709551616) (hs : s.length < 18446744073709551616) : Siz (itmB b s) := by
  unfold itmB partsB
  have h3 : b.crc.toNat < 18446744073709551616 := by omega
  obtain ⟨h1, h2, h4⟩ := hb
  by_cases h0 : b.crc = 0
  · simp only [if_pos h0]
    refine ⟨by decide, by simp, by simp, ⟨h1, by simp, by simp, trivial⟩, ⟨h2, by simp, by simp, trivial⟩, ⟨h4, by simp, by simp, trivial⟩, ⟨h3, by simp, by simp, trivial⟩, ⟨by decide, hd, by simp, trivial⟩, trivial⟩
  · simp only [if_neg h0]
    refine ⟨by decide, by simp, by simp, ⟨h1, by simp, by simp, trivial⟩, ⟨h2, by simp, by simp, trivial⟩, ⟨h4, by simp, by simp, trivial⟩, ⟨h3, by simp, by simp, trivial⟩, ⟨by decide, hd, by simp, trivial⟩, ⟨by decide, hs, by simp, trivial⟩, trivial⟩
theorem body_len (b : Blk) : (bodyB b).length ≤ b.dat.length + 70 := by
  unfold bodyB partsB
  simp only [wrs, wri_u, wri_b, List.length_append, hd_len, List.append_nil]
  have h1 := hsz_le (if b.crc = 0 then 5 else 6)
  have h2 := hsz_le b.typ
  have h3 := hsz_le b.num
  have h4 := hsz_le b.flg
  have h5 := hsz_le b.crc.toNat
  have h6 := hsz_le b.dat.length
  have h7 := hsz_le (sumN b.crc)
  generalize (if b.crc = 0 then 5 else 6 : Nat) = q at *
  by_cases h0 : b.crc = 0
  · rw [if_pos h0, List.length_nil]; omega
  · rw [if_neg h0, hd_len]; omega
theorem body_pos (b : Blk) : 1 ≤ (bodyB b).length := by unfold bodyB; simp only [List.length_append, hd_len]; omega

/-- The one block whose item this could be. -/
def takenB : Itm → Blk
  | .mk _ _ _ (y0 :: y1 :: y2 :: y3 :: y4 :: _) => ⟨y0.num, y1.num, y2.num, RowKit.wrap64 (y3.num : Int), y4.data⟩
  | _ => .zero
/-- How bytes and a block's bytes, s of them a sum's, differ: the fault's number. -/
def cmpB (u w : List UInt8) (s : Nat) : Int := if u.length ≠ w.length ∨ u.take (w.length - s) ≠ w.take (w.length - s) then 50 else if u.drop (w.length - s) ≠ w.drop (w.length - s) then 51 else 0
/-- What Decode answers. -/
def decB (l : List UInt8) : Blk × Int × Int :=
  if (decode l).2.2 ≠ 0 then (.zero, 0, (decode l).2.2)
  else if blkOk (takenB (decode l).1) = false then (.zero, 0, 50)
  else if cmpB (l.take (decode l).2.1.toNat) (blkW (takenB (decode l).1)) (sumN (takenB (decode l).1).crc) ≠ 0 then (.zero, 0, cmpB (l.take (decode l).2.1.toNat) (blkW (takenB (decode l).1)) (sumN (takenB (decode l).1).crc))
  else (takenB (decode l).1, (decode l).2.1, 0)

theorem wrap_small (c : Int) (h0 : 0 ≤ c) (h2 : c ≤ 2) : RowKit.wrap64 ((c.toNat : Nat) : Int) = c := by
  unfold RowKit.wrap64
  omega
theorem taken_itm (b : Blk) (s : List UInt8) (hc : 0 ≤ b.crc ∧ b.crc ≤ 2) : takenB (itmB b s) = b := by
  have h := wrap_small b.crc hc.1 hc.2
  obtain ⟨t, n, f, c, d⟩ := b
  unfold itmB partsB
  simp only [List.cons_append, takenB, Itm.num, Itm.data]
  rw [h]

/-- What is read where a block's bytes but the sum's stand, with a sum of that length. -/
theorem decB_sum (b : Blk) (s m : List UInt8) (hok : blkOk b = true) (hb : Bd b) (hs : s.length = sumN b.crc) :
    decB (bodyB b ++ s ++ m) = if s = sumB b then (b, ((blkW b).length : Int), 0) else (.zero, 0, 51) := by
  obtain ⟨h1, h2, h3, h4, h5⟩ := blkOk_iff.1 hok
  have hw := wri_itm b s hs h4
  have hs4 := sumN_le b.crc
  have hd := decode_wr (itm_fits b s) (itm_siz b s hb h4.2 (by omega) (by omega)) m
  rw [hw] at hd
  have hlen : ((bodyB b ++ s).length) = (blkW b).length := by unfold blkW; rw [List.length_append, List.length_append, hs, sumB_len]
  unfold decB
  rw [hd]
  simp only [taken_itm b s h4]
  rw [if_neg (by simp), if_neg (by rw [hok]; decide), Int.toNat_natCast, List.take_left]
  have hk : (blkW b).length - sumN b.crc = (bodyB b).length := by unfold blkW; rw [List.length_append, sumB_len]; omega
  have hcmp : cmpB (bodyB b ++ s) (blkW b) (sumN b.crc) = if s = sumB b then 0 else 51 := by
    unfold cmpB
    rw [hk]
    unfold blkW
    rw [List.take_left, List.take_left, List.drop_left, List.drop_left, if_neg (by simp [hs, sumB_len])]
    by_cases he : s = sumB b
    · rw [if_neg (by simp [he]), if_pos he]
    · rw [if_pos he, if_neg he]
  rw [hcmp, hlen]
  by_cases he : s = sumB b
  · rw [if_pos he, if_neg (by simp), if_pos he]
  · rw [if_neg he, if_pos (by simp), if_neg he]
theorem decB_blk (b : Blk) (m : List UInt8) (hok : blkOk b = true) (hb : Bd b) : decB (blkW b ++ m) = (b, ((blkW b).length : Int), 0) := by
  have := decB_sum b (sumB b) m hok hb (sumB_len b)
  rw [if_pos rfl] at this
  exact this

theorem be_inj {x y n : Nat} (hn : n ≤ 8) (hx : x < 256 ^ n) (hy : y < 256 ^ n) (h : be x n = be y n) : x = y := by
  have := congrArg beNat h
  rwa [beNat_be _ _ hn, beNat_be _ _ hn, Nat.mod_eq_of_lt hx, Nat.mod_eq_of_lt hy] at this
/-- A sum tells a byte that is another one. -/
theorem crc_tells (k : Int) (hk : k = 1 ∨ k = 2) (l : List UInt8) (i : Nat) (v : UInt8) (h : crcBytes k l = crcBytes k (l.set i v)) : l = l.set i v := by
  have hw : ∀ j, j < 8 * l.length → (l.getD (j / 8) 0).toNat.testBit (j % 8) ≠ ((l.set i v).getD (j / 8) 0).toNat.testBit (j % 8) → 8 * i ≤ j ∧ j < 8 * i + 8 := by
    intro j hj hne
    by_cases he : j / 8 = i
    · omega
    · exfalso
      apply hne
      have : (l.set i v).getD (j / 8) 0 = l.getD (j / 8) 0 := by simp [List.getD, Ne.symm he]
      rw [this]
  rcases hk with rfl | rfl
  · have h' : s16 l = s16 (l.set i v) := BitVec.eq_of_toNat_eq (be_inj (n := 2) (by decide) (by have := (s16 l).isLt; simpa using this) (by have := (s16 (l.set i v)).isLt; simpa using this) h)
    have h2 : fB p16 0xffff#16 l = fB p16 0xffff#16 (l.set i v) := by
      have := congrArg (~~~ ·) h'
      simpa [s16] using this
    exact fB_tells p16 (by decide) rfl _ l _ (by simp) (8 * i) (fun j hj hne => ⟨(hw j hj hne).1, by have := (hw j hj hne).2; omega⟩) h2
  · have h' : s32 l = s32 (l.set i v) := BitVec.eq_of_toNat_eq (be_inj (n := 4) (by decide) (by have := (s32 l).isLt; simpa using this) (by have := (s32 (l.set i v)).isLt; simpa using this) h)
    have h2 : fB p32 0xffffffff#32 l = fB p32 0xffffffff#32 (l.set i v) := by
      have := congrArg (~~~ ·) h'
      simpa [s32] using this
    exact fB_tells p32 (by decide) rfl _ l _ (by simp) (8 * i) (fun j hj hne => ⟨(hw j hj hne).1, by have := (hw j hj hne).2; omega⟩) h2
end Go.Proofs.YtldnokgdgafphaaDoor
/- The plain mathematics of layer 3: an item gone through by a stack of lists. No program's number stands here. -/
namespace Go.Proofs.YtldnokgdgafphaaDoor

def rall : List (List Itm) → Bool | [] => true | l :: r => rights l && rall r
def sump : List (List Itm) → Nat | [] => 0 | l :: r => pars l + sump r
/-- How deep what lies in a stack's lists is; i: the first list's level. -/
def lev : Nat → List (List Itm) → Nat | _, [] => 0 | i, l :: r => max (i + deps l) (lev (i + 1) r)
theorem rall_snoc : ∀ (a : List (List Itm)) (t : List Itm), rall (a ++ [t]) = (rall a && rights t)
  | [], t => by simp [rall]
  | l :: r, t => by rw [List.cons_append, rall, rall, rall_snoc r t, Bool.and_assoc]
theorem sump_snoc : ∀ (a : List (List Itm)) (t : List Itm), sump (a ++ [t]) = sump a + pars t
  | [], t => by simp [sump]
  | l :: r, t => by rw [List.cons_append, sump, sump, sump_snoc r t]; omega
theorem lev_snoc : ∀ (a : List (List Itm)) (t : List Itm) (i : Nat), lev i (a ++ [t]) = max (lev i a) (i + a.length + deps t)
  | [], t, i => by simp [lev]
  | l :: r, t, i => by rw [List.cons_append, lev, lev, lev_snoc r t, List.length_cons]; omega

/-- What is left of the item x, where p items were taken and the greatest level was D. -/
structure ChkSt (x : Itm) (st : List (List Itm)) (p D : Nat) : Prop where
  rt : right x = rall st
  pr : par x = p + sump st
  dp : dep x = max D (lev 0 st)
  ln : st.length ≤ D + 1
  lp : st.length ≤ p + 1
theorem ChkSt.start (x : Itm) : ChkSt x [[x]] 0 0 := by
  refine ⟨?_, ?_, ?_, ?_, ?_⟩
  · simp [rall, rights]
  · simp [sump, pars]
  · simp [lev, deps]
  · simp
  · simp
theorem ChkSt.pop {x : Itm} {a : List (List Itm)} {p D : Nat} (h : ChkSt x (a ++ [[]]) p D) : ChkSt x a p D := by
  have h1 := h.rt
  have h2 := h.pr
  have h3 := h.dp
  have h4 := h.ln
  have h5 := h.lp
  rw [rall_snoc, rights, Bool.and_true] at h1
  rw [sump_snoc, pars] at h2
  rw [lev_snoc, deps] at h3
  rw [List.length_append, List.length_singleton] at h4 h5
  exact ⟨h1, by omega, by omega, by omega, by omega⟩
theorem ChkSt.bad {x : Itm} {a : List (List Itm)} {p D : Nat} {k : Int} {n : Nat} {d : List UInt8} {l r : List Itm} (h : ChkSt x (a ++ [.mk k n d l :: r]) p D) (ho : own k n d l = false) : right x = false := by
  rw [h.rt, rall_snoc, rights, right, ho]
  simp
theorem own_flat {k : Int} {n : Nat} {d : List UInt8} {l : List Itm} (h : own k n d l = true) (hk : ¬ (k = 4 ∨ k = 5)) : l = [] := by
  unfold own at h
  rw [if_neg hk] at h
  split at h
  · simp at h; exact h.2
  split at h
  · simp at h; exact h.2
  split at h
  · simp at h; exact h.2.1
  · cases h
theorem ChkSt.flat {x : Itm} {a : List (List Itm)} {p D : Nat} {k : Int} {n : Nat} {d : List UInt8} {l r : List Itm} (h : ChkSt x (a ++ [.mk k n d l :: r]) p D) (ho : own k n d l = true) (hk : ¬ (k = 4 ∨ k = 5)) : ChkSt x (a ++ [r]) (p + 1) D := by
  have hl := own_flat ho hk
  subst hl
  have h1 := h.rt
  have h2 := h.pr
  have h3 := h.dp
  have h4 := h.ln
  have h5 := h.lp
  rw [rall_snoc, rights, right, ho, rights, Bool.and_self, Bool.true_and] at h1
  rw [sump_snoc, pars, par, pars] at h2
  rw [lev_snoc, deps, dep, if_neg hk, deps] at h3
  rw [List.length_append, List.length_singleton] at h4 h5
  refine ⟨?_, ?_, ?_, ?_, ?_⟩
  · rw [h1, rall_snoc]
  · rw [sump_snoc]; omega
  · rw [lev_snoc]; omega
  · rw [List.length_append, List.length_singleton]; omega
  · rw [List.length_append, List.length_singleton]; omega
theorem ChkSt.arr {x : Itm} {a : List (List Itm)} {p D : Nat} {k : Int} {n : Nat} {d : List UInt8} {l r : List Itm} (h : ChkSt x (a ++ [.mk k n d l :: r]) p D) (ho : own k n d l = true) (hk : k = 4 ∨ k = 5) : ChkSt x (a ++ [r] ++ [l]) (p + 1) (max D (a.length + 1)) := by
  have h1 := h.rt
  have h2 := h.pr
  have h3 := h.dp
  have h4 := h.ln
  have h5 := h.lp
  rw [rall_snoc, rights, right, ho, Bool.true_and] at h1
  rw [sump_snoc, pars, par] at h2
  rw [lev_snoc, deps, dep, if_pos hk] at h3
  rw [List.length_append, List.length_singleton] at h4 h5
  refine ⟨?_, ?_, ?_, ?_, ?_⟩
  · rw [h1, rall_snoc, rall_snoc]
    cases rall a <;> cases rights r <;> cases rights l <;> rfl
  · rw [sump_snoc, sump_snoc]; omega
  · rw [lev_snoc, lev_snoc, List.length_append, List.length_singleton]; omega
  · rw [List.length_append, List.length_append, List.length_singleton, List.length_singleton]; omega
  · rw [List.length_append, List.length_append, List.length_singleton, List.length_singleton]; omega
theorem ChkSt.left {x : Itm} {a : List (List Itm)} {p D : Nat} {y : Itm} {r : List Itm} (h : ChkSt x (a ++ [y :: r]) p D) : p < par x ∧ D ≤ dep x ∧ a.length ≤ p := by
  have h2 := h.pr
  have h3 := h.dp
  have h5 := h.lp
  rw [sump_snoc, pars] at h2
  rw [List.length_append, List.length_singleton] at h5
  cases y with
  | mk k n d l =>
    rw [par] at h2
    omega
theorem ChkSt.done {x : Itm} {p D : Nat} (h : ChkSt x [] p D) : right x = true ∧ par x = p ∧ dep x = D := by
  have h1 := h.rt
  have h2 := h.pr
  have h3 := h.dp
  rw [rall] at h1
  rw [sump] at h2
  rw [lev] at h3
  exact ⟨h1, by omega, by omega⟩
end Go.Proofs.YtldnokgdgafphaaDoor
