/- Records, plain: what Frame, Next and Scan of layer 14 say. No program's number stands here. -/
import Derived.Test.YtahgaogmcffglaaDoorJCrcR
import Derived.Test.YtahgaogmcffglaaDoorJNumB
import Derived.Test.YtahgaogmcffglaaDoorJOwn
import Derived.Deep.Slices
import Derived.ChangeArms
import Derived.ChangeSlices
import Derived.OpenShut
namespace Go.Proofs.YtahgaogmcffglaaDoor
open Go.RowKit

/-- A record. -/
structure Rcd where
  typ : Int
  dat : List UInt8
def Rcd.zero : Rcd := ⟨0, []⟩
/-- May it be? -/
def rokR (r : Rcd) : Bool := decide (1 ≤ r.typ) && (decide (r.typ ≤ 255) && decide (r.dat.length ≤ 8192))
theorem rokR_iff {r : Rcd} : rokR r = true ↔ 1 ≤ r.typ ∧ r.typ ≤ 255 ∧ r.dat.length ≤ 8192 := by simp [rokR]
/-- A record's bytes without its sum, and with it. -/
def bodyR (r : Rcd) : List UInt8 := be r.dat.length 2 ++ (UInt8.ofNat r.typ.toNat :: r.dat)
def sumR (salt : Nat) (r : Rcd) : List UInt8 := crcBytes 2 (be salt 8 ++ bodyR r)
def frameR (salt : Nat) (r : Rcd) : List UInt8 := bodyR r ++ sumR salt r
theorem sumR_len (salt : Nat) (r : Rcd) : (sumR salt r).length = 4 := by
  show (be _ 4).length = 4
  rw [be_length]
theorem bodyR_len (r : Rcd) : (bodyR r).length = r.dat.length + 3 := by
  unfold bodyR
  rw [List.length_append, be_length, List.length_cons]
  omega
theorem frameR_len (salt : Nat) (r : Rcd) : (frameR salt r).length = r.dat.length + 7 := by
  unfold frameR
  rw [List.length_append, bodyR_len, sumR_len]
/-- The length that a row of bytes begins with. -/
def lenR (b : List UInt8) : Nat := beNat (b.take 2)
theorem lenR_lt (b : List UInt8) : lenR b < 65536 := by
  have h := beNat_bd (b.take 2).length (b.take 2) rfl (by rw [List.length_take]; omega)
  have h2 : 256 ^ (b.take 2).length ≤ 256 ^ 2 := Nat.pow_le_pow_right (by decide) (by rw [List.length_take]; omega)
  have h3 : (256 : Nat) ^ 2 = 65536 := by decide
  unfold lenR
  omega
/-- What Next reads. -/
def takenR (b : List UInt8) : Rcd := ⟨((b.getD 2 0).toNat : Int), (b.drop 3).take (lenR b)⟩
def nextR (salt : Nat) (b : List UInt8) : Rcd × Nat × Int :=
  if b.length < 3 then (.zero, 0, 30)
  else if b.getD 2 0 = 0 ∨ 8192 < lenR b then (.zero, 0, 140)
  else if b.length < lenR b + 7 then (.zero, 0, 30)
  else if frameR salt (takenR b) = b.take (lenR b + 7) then (takenR b, lenR b + 7, 0)
  else (.zero, 0, 140)
theorem bodyR_two (r : Rcd) (m : List UInt8) (h : r.dat.length ≤ 8192) : lenR (bodyR r ++ m) = r.dat.length := by
  unfold lenR bodyR
  rw [List.append_assoc, List.take_append_of_le_length (by rw [be_length]; exact Nat.le_refl _), List.take_of_length_le (by rw [be_length]; exact Nat.le_refl _), beNat_be _ _ (by decide)]
  exact Nat.mod_eq_of_lt (by have : (256 : Nat) ^ 2 = 65536 := by decide
                             omega)
theorem be2_cases (x : Nat) : ∃ a b, be x 2 = [a, b] := ⟨_, _, be2 x⟩
theorem bodyR_at2 (r : Rcd) (m : List UInt8) : (bodyR r ++ m).getD 2 0 = UInt8.ofNat r.typ.toNat := by
  unfold bodyR
  obtain ⟨a, b, e⟩ := be2_cases r.dat.length
  rw [e]
  rfl
theorem bodyR_drop (r : Rcd) (m : List UInt8) : (bodyR r ++ m).drop 3 = r.dat ++ m := by
  unfold bodyR
  obtain ⟨a, b, e⟩ := be2_cases r.dat.length
  rw [e]
  rfl
/-- What is framed is taken as it was. -/
theorem taken_frame (r : Rcd) (m : List UInt8) (h : rokR r = true) : takenR (bodyR r ++ m) = r := by
  obtain ⟨h1, h2, h3⟩ := rokR_iff.1 h
  unfold takenR
  rw [bodyR_at2, bodyR_drop, bodyR_two r m h3, List.take_left]
  obtain ⟨t, d⟩ := r
  congr 1
  rw [UInt8.toNat_ofNat']
  show ((t.toNat % 256 : Nat) : Int) = t
  have h1' : 1 ≤ t := h1
  have h2' : t ≤ 255 := h2
  omega
theorem typ_ne (r : Rcd) (h : rokR r = true) : UInt8.ofNat r.typ.toNat ≠ 0 := by
  obtain ⟨h1, h2, -⟩ := rokR_iff.1 h
  intro e
  have := congrArg UInt8.toNat e
  rw [UInt8.toNat_ofNat'] at this
  have h0 : (0 : UInt8).toNat = 0 := rfl
  rw [h0] at this
  omega
/-- Next of what was framed, whatever stands behind. -/
theorem next_frame (salt : Nat) (r : Rcd) (m : List UInt8) (h : rokR r = true) : nextR salt (frameR salt r ++ m) = (r, r.dat.length + 7, 0) := by
  obtain ⟨h1, h2, h3⟩ := rokR_iff.1 h
  have e : frameR salt r ++ m = bodyR r ++ (sumR salt r ++ m) := by unfold frameR; rw [List.append_assoc]
  have hl : (frameR salt r ++ m).length = r.dat.length + 7 + m.length := by rw [List.length_append, frameR_len]
  have hn : lenR (frameR salt r ++ m) = r.dat.length := by rw [e]; exact bodyR_two r _ h3
  have ht : takenR (frameR salt r ++ m) = r := by rw [e]; exact taken_frame r _ h
  unfold nextR
  rw [if_neg (by omega), if_neg (by rw [hn, e, bodyR_at2]; have := typ_ne r h; intro hh; rcases hh with hh | hh; exact this hh; omega), if_neg (by rw [hn]; omega), ht, hn, if_pos]
  rw [List.take_append_of_le_length (by rw [frameR_len]; exact Nat.le_refl _), List.take_of_length_le (by rw [frameR_len]; exact Nat.le_refl _)]
/-- What Next reads was framed. -/
theorem next_ok {salt : Nat} {b : List UInt8} (h : (nextR salt b).2.2 = 0) : ∃ r, nextR salt b = (r, r.dat.length + 7, 0) ∧ rokR r = true ∧ r.dat.length + 7 ≤ b.length ∧ frameR salt r = b.take (r.dat.length + 7) := by
  unfold nextR at h ⊢
  by_cases h1 : b.length < 3
  · rw [if_pos h1] at h; cases h
  rw [if_neg h1] at h ⊢
  by_cases h2 : b.getD 2 0 = 0 ∨ 8192 < lenR b
  · rw [if_pos h2] at h; cases h
  rw [if_neg h2] at h ⊢
  by_cases h3 : b.length < lenR b + 7
  · rw [if_pos h3] at h; cases h
  rw [if_neg h3] at h ⊢
  by_cases h4 : frameR salt (takenR b) = b.take (lenR b + 7)
  · rw [if_pos h4]
    have hl : (takenR b).dat.length = lenR b := by
      show ((b.drop 3).take (lenR b)).length = _
      rw [List.length_take, List.length_drop]
      omega
    refine ⟨takenR b, by rw [hl], rokR_iff.2 ⟨?_, ?_, by rw [hl]; omega⟩, by rw [hl]; omega, by rw [hl]; exact h4⟩
    · show 1 ≤ ((b.getD 2 0).toNat : Int)
      have : (b.getD 2 0).toNat ≠ 0 := fun e => h2 (.inl (UInt8.toNat_inj.1 e))
      omega
    · show ((b.getD 2 0).toNat : Int) ≤ 255
      have := (b.getD 2 0).toNat_lt
      omega
  · rw [if_neg h4] at h; cases h
/-- Where there is no record, nothing is read. -/
theorem next_no {salt : Nat} {b : List UInt8} (h : (nextR salt b).2.2 ≠ 0) : (nextR salt b).1 = .zero ∧ (nextR salt b).2.1 = 0 := by
  unfold nextR at h ⊢
  repeat' split
  all_goals first | exact ⟨rfl, rfl⟩ | skip
  rename_i h1 h2 h3 h4
  rw [if_neg h1, if_neg h2, if_neg h3, if_pos h4] at h
  exact absurd rfl h
theorem next_size {salt : Nat} {b : List UInt8} (h : (nextR salt b).2.2 = 0) : 7 ≤ (nextR salt b).2.1 ∧ (nextR salt b).2.1 ≤ b.length := by
  obtain ⟨r, e, -, hl, -⟩ := next_ok h
  rw [e]
  exact ⟨by show 7 ≤ _ + 7; omega, hl⟩
/-- What Scan reads, with fuel enough. -/
def scanF (salt : Nat) : Nat → List UInt8 → List Rcd × Nat
  | 0, _ => ([], 0)
  | f + 1, b => if (nextR salt b).2.2 = 0 then ((nextR salt b).1 :: (scanF salt f (b.drop (nextR salt b).2.1)).1, (nextR salt b).2.1 + (scanF salt f (b.drop (nextR salt b).2.1)).2) else ([], 0)
def scanR (salt : Nat) (b : List UInt8) : List Rcd × Nat := scanF salt (b.length + 1) b
theorem scanF_fuel (salt : Nat) : ∀ (f f' : Nat) (b : List UInt8), b.length < f → b.length < f' → scanF salt f b = scanF salt f' b
  | 0, _, _, h, _ => absurd h (Nat.not_lt_zero _)
  | _ + 1, 0, _, _, h => absurd h (Nat.not_lt_zero _)
  | f + 1, f' + 1, b, h, h' => by
    rw [scanF, scanF]
    by_cases h0 : (nextR salt b).2.2 = 0
    · have hs := next_size h0
      rw [if_pos h0, if_pos h0, scanF_fuel salt f f' (b.drop (nextR salt b).2.1) (by rw [List.length_drop]; omega) (by rw [List.length_drop]; omega)]
    · rw [if_neg h0, if_neg h0]
/-- Scan, one record on. -/
theorem scanR_step (salt : Nat) (b : List UInt8) : scanR salt b = if (nextR salt b).2.2 = 0 then ((nextR salt b).1 :: (scanR salt (b.drop (nextR salt b).2.1)).1, (nextR salt b).2.1 + (scanR salt (b.drop (nextR salt b).2.1)).2) else ([], 0) := by
  unfold scanR
  rw [scanF]
  by_cases h0 : (nextR salt b).2.2 = 0
  · have hs := next_size h0
    rw [if_pos h0, if_pos h0, scanF_fuel salt b.length ((b.drop (nextR salt b).2.1).length + 1) (b.drop (nextR salt b).2.1) (by rw [List.length_drop]; omega) (by omega)]
  · rw [if_neg h0, if_neg h0]
/-- Records framed one behind the other. -/
def framesR (salt : Nat) : List Rcd → List UInt8
  | [] => []
  | r :: l => frameR salt r ++ framesR salt l
theorem framesR_snoc (salt : Nat) (r : Rcd) : ∀ l : List Rcd, framesR salt (l ++ [r]) = framesR salt l ++ frameR salt r
  | [] => by simp [framesR]
  | x :: l => by rw [List.cons_append, framesR, framesR_snoc salt r l, framesR, List.append_assoc]
/-- P14.3: Scan of frames, and of what stands behind them. -/
theorem scan_frames (salt : Nat) (m : List UInt8) : ∀ l : List Rcd, (∀ r ∈ l, rokR r = true) → scanR salt (framesR salt l ++ m) = (l ++ (scanR salt m).1, (framesR salt l).length + (scanR salt m).2)
  | [], _ => by simp [framesR]
  | r :: l, h => by
    have e := next_frame salt r (framesR salt l ++ m) (h r (by simp))
    rw [framesR, List.append_assoc, scanR_step, e, if_pos rfl]
    have ed : (frameR salt r ++ (framesR salt l ++ m)).drop (r.dat.length + 7) = framesR salt l ++ m := List.drop_left' (frameR_len salt r)
    rw [ed, scan_frames salt m l (fun x hx => h x (by simp [hx])), List.length_append, frameR_len]
    simp [Nat.add_assoc]
/-- The beginning of a frame that is cut off is none. -/
theorem next_cut (salt : Nat) (r : Rcd) (k : Nat) (h : rokR r = true) (hk : k < r.dat.length + 7) : (nextR salt ((frameR salt r).take k)).2.2 ≠ 0 := by
  intro h0
  obtain ⟨q, e, -, hl, hf⟩ := next_ok h0
  obtain ⟨h1, h2, h3⟩ := rokR_iff.1 h
  have hlen : ((frameR salt r).take k).length = k := by rw [List.length_take, frameR_len]; omega
  rw [hlen] at hl
  -- the length that is read is r's
  have e2 : lenR ((frameR salt r).take k) = r.dat.length := by
    unfold lenR
    rw [List.take_take, Nat.min_eq_left (by omega)]
    have := bodyR_two r (sumR salt r) h3
    unfold lenR at this
    exact this
  unfold nextR at h0
  rw [if_neg (by omega)] at h0
  split at h0
  · cases h0
  · rw [e2, if_pos (by omega)] at h0
    cases h0
theorem scan_cut (salt : Nat) (r : Rcd) (k : Nat) (h : rokR r = true) (hk : k < r.dat.length + 7) : scanR salt ((frameR salt r).take k) = ([], 0) := by
  rw [scanR_step, if_neg (next_cut salt r k h hk)]
theorem scan_nil (salt : Nat) : scanR salt [] = ([], 0) := by
  rw [scanR_step, if_neg]
  unfold nextR
  rw [if_pos (by decide)]
  decide
theorem be_inj14 {x y n : Nat} (hn : n ≤ 8) (hx : x < 256 ^ n) (hy : y < 256 ^ n) (h : be x n = be y n) : x = y := by
  have := congrArg beNat h
  rwa [beNat_be _ _ hn, beNat_be _ _ hn, Nat.mod_eq_of_lt hx, Nat.mod_eq_of_lt hy] at this
/-- A sum tells a byte that is another one. -/
theorem crc_tells14 (l : List UInt8) (i : Nat) (v : UInt8) (h : crcBytes 2 l = crcBytes 2 (l.set i v)) : l = l.set i v := by
  have hw : ∀ j, j < 8 * l.length → (l.getD (j / 8) 0).toNat.testBit (j % 8) ≠ ((l.set i v).getD (j / 8) 0).toNat.testBit (j % 8) → 8 * i ≤ j ∧ j < 8 * i + 8 := by
    intro j hj hne
    by_cases he : j / 8 = i
    · omega
    · exfalso
      apply hne
      have : (l.set i v).getD (j / 8) 0 = l.getD (j / 8) 0 := by simp [List.getD, Ne.symm he]
      rw [this]
  have h' : s32 l = s32 (l.set i v) := BitVec.eq_of_toNat_eq (be_inj14 (n := 4) (by decide) (by have := (s32 l).isLt; simpa using this) (by have := (s32 (l.set i v)).isLt; simpa using this) h)
  have h2 : fB p32 0xffffffff#32 l = fB p32 0xffffffff#32 (l.set i v) := by
    have := congrArg (~~~ ·) h'
    simpa [s32] using this
  exact fB_tells p32 (by decide) rfl _ l _ (by simp) (8 * i) (fun j hj hne => ⟨(hw j hj hne).1, by have := (hw j hj hne).2; omega⟩) h2
/-- P14.2: a frame with a byte turned is read otherwise, and no longer. -/
theorem next_turned (salt : Nat) (r : Rcd) (i : Nat) (v : UInt8) (h : rokR r = true) (hi : i < r.dat.length + 7) (hne : (frameR salt r).getD i 0 ≠ v) :
    ((nextR salt ((frameR salt r).set i v)).2.2 ≠ 0 ∨ (nextR salt ((frameR salt r).set i v)).2.1 < r.dat.length + 7) ∧ (nextR salt ((frameR salt r).set i v)).1 ≠ r := by
  obtain ⟨h1, h2, h3⟩ := rokR_iff.1 h
  have hl : ((frameR salt r).set i v).length = r.dat.length + 7 := by rw [List.length_set, frameR_len]
  have hsame : (frameR salt r).set i v ≠ frameR salt r := fun e => by
    have := congrArg (fun l => l.getD i 0) e
    simp only [List.getD_eq_getElem?_getD, List.getElem?_set_self (show i < (frameR salt r).length by rw [frameR_len]; exact hi)] at this
    exact hne (by rw [List.getD_eq_getElem?_getD]; exact this.symm)
  by_cases h0 : (nextR salt ((frameR salt r).set i v)).2.2 = 0
  · obtain ⟨q, e, hq, hql, hf⟩ := next_ok h0
    rw [hl] at hql
    rw [e]
    have hqr : q ≠ r := by
      rintro rfl
      rw [List.take_of_length_le (by rw [hl]; exact Nat.le_refl _)] at hf
      exact hsame hf.symm
    refine ⟨.inr ?_, hqr⟩
    show q.dat.length + 7 < r.dat.length + 7
    rcases Nat.lt_or_ge q.dat.length r.dat.length with hlt | hge
    · omega
    exfalso
    have heq : q.dat.length = r.dat.length := by omega
    -- the whole is q's frame: body and sum; one byte differs
    rw [heq, List.take_of_length_le (by rw [hl]; exact Nat.le_refl _)] at hf
    have hbl : (bodyR q).length = (bodyR r).length := by rw [bodyR_len, bodyR_len, heq]
    by_cases hib : i < (bodyR r).length
    · have e1 : (frameR salt r).set i v = (bodyR r).set i v ++ sumR salt r := by unfold frameR; rw [List.set_append_left _ _ hib]
      rw [e1] at hf
      unfold frameR at hf
      obtain ⟨hb, hs⟩ := List.append_inj hf (by rw [List.length_set]; exact hbl)
      unfold sumR at hs
      have e2 : be salt 8 ++ bodyR q = (be salt 8 ++ bodyR r).set (8 + i) v := by
        rw [hb, List.set_append_right _ _ (by rw [be_length]; omega), be_length, Nat.add_sub_cancel_left]
      rw [e2] at hs
      have e3 := crc_tells14 _ _ _ hs.symm
      rw [← e2] at e3
      have e4 := List.append_cancel_left e3
      rw [hb] at e4
      apply hsame
      rw [e1, ← e4]
      rfl
    · have e1 : (frameR salt r).set i v = bodyR r ++ (sumR salt r).set (i - (bodyR r).length) v := by unfold frameR; rw [List.set_append_right _ _ (by omega)]
      rw [e1] at hf
      unfold frameR at hf
      obtain ⟨hb, hs⟩ := List.append_inj hf hbl
      apply hsame
      rw [e1, ← hs]
      unfold sumR
      rw [hb]
      rfl
  · obtain ⟨e1, -⟩ := next_no h0
    refine ⟨.inl h0, ?_⟩
    rw [e1]
    intro e
    have : r.typ = 0 := by rw [← e]; rfl
    omega
end Go.Proofs.YtahgaogmcffglaaDoor
/- Records that lie in memory, and that come in. -/
namespace Go.Proofs.YtahgaogmcffglaaDoor
open Go.RowKit Go.ChangeShapes Go.WideShapes

theorem add_mk14 (b o j : Nat) : (⟨b, o, none⟩ : Addr).add j = ⟨b, o + j, none⟩ := by unfold Addr.add; split <;> simp_all
/-- A record's value. -/
def recV (t : Int) (A : Option Addr) (n c : Nat) : Value := .agg #[.int .i64 t, .slice A n c]
/-- Records in a row, two cells each: what they read as lies below block B. -/
def RdC (w : World) (B b o : Nat) (l : List Rcd) : Prop := ∀ i r, l[i]? = some r → ∃ Ad nd cd, w.cell? ⟨b, o + i * 2, none⟩ = some (.int .i64 r.typ) ∧ w.cell? ⟨b, o + i * 2 + 1, none⟩ = some (.slice Ad nd cd) ∧ nd ≤ cd ∧ nd ≤ 140737488355328 ∧ Rd w B Ad nd r.dat
theorem RdC.nil_ {w : World} {B b o : Nat} : RdC w B b o [] := fun i r h => by simp at h
theorem RdC.keep {w w' : World} {B b o : Nat} {l : List Rcd} (h : RdC w B b o l) (hb : b < B) (hk : ∀ p : Addr, p.block < B → w'.cell? p = w.cell? p) : RdC w' B b o l := fun i r hr => by
  obtain ⟨Ad, nd, cd, h1, h2, h3, h4, h5⟩ := h i r hr
  exact ⟨Ad, nd, cd, (hk ⟨b, o + i * 2, none⟩ hb).trans h1, (hk ⟨b, o + i * 2 + 1, none⟩ hb).trans h2, h3, h4, h5.keep hk⟩
theorem RdC.below {w w' : World} {B b o : Nat} {l : List Rcd} (h : RdC w B b o l) (hb : b < B) (hB : Below B w w') : RdC w' B b o l := h.keep hb fun _ hp => hB.cell hp
theorem RdC.more {w : World} {B B' b o : Nat} {l : List Rcd} (h : RdC w B b o l) (hB : B ≤ B') : RdC w B' b o l := fun i r hr => by
  obtain ⟨Ad, nd, cd, h1, h2, h3, h4, h5⟩ := h i r hr
  exact ⟨Ad, nd, cd, h1, h2, h3, h4, h5.more hB⟩
theorem RdC.get {w : World} {B b o : Nat} {l : List Rcd} (h : RdC w B b o l) {i : Nat} (hi : i < l.length) : ∃ Ad nd cd, w.cell? ⟨b, o + i * 2, none⟩ = some (.int .i64 (l[i]'hi).typ) ∧ w.cell? ⟨b, o + i * 2 + 1, none⟩ = some (.slice Ad nd cd) ∧ nd ≤ cd ∧ nd ≤ 140737488355328 ∧ Rd w B Ad nd (l[i]'hi).dat := h i _ (List.getElem?_eq_getElem hi)
theorem RdC.snoc {w : World} {B b o : Nat} {l : List Rcd} {r : Rcd} {Ad : Option Addr} {nd cd : Nat} (h : RdC w B b o l) (h1 : w.cell? ⟨b, o + l.length * 2, none⟩ = some (.int .i64 r.typ)) (h2 : w.cell? ⟨b, o + l.length * 2 + 1, none⟩ = some (.slice Ad nd cd)) (h3 : nd ≤ cd) (h4 : nd ≤ 140737488355328) (h5 : Rd w B Ad nd r.dat) : RdC w B b o (l ++ [r]) := fun i q hq => by
  rcases Nat.lt_or_ge i l.length with hi | hi
  · rw [List.getElem?_append_left hi] at hq; exact h i q hq
  · rw [List.getElem?_append_right hi] at hq
    have hi0 : i - l.length = 0 := by
      rcases Nat.eq_zero_or_pos (i - l.length) with e | e
      · exact e
      · rw [List.getElem?_eq_none (by simp; omega)] at hq; cases hq
    rw [hi0] at hq
    obtain rfl : r = q := Option.some.inj hq
    obtain rfl : i = l.length := by omega
    exact ⟨Ad, nd, cd, h1, h2, h3, h4, h5⟩
theorem cellsRec : Tryd.prog.cellsOf 35 = 2 ∧ Tryd.prog.cellsOf 3 = 1 ∧ Tryd.prog.cellsOf 33 = 1 := ⟨by kernel_rfl, by kernel_rfl, by kernel_rfl⟩
/-- A record's two cells, as they come in. -/
theorem open_rec_cells {H : Type} {enc : TypeId × Value → H} {w : World} {base : Nat} {spare : Nat → Bool} {held : Bool} {fuel : Nat} {v0 v1 : Value} {x : DataW H × List MemPlace}
    (h : DataW.trod enc Tryd.prog w base spare held fuel 35 [v0, v1] = some x) : ∃ (t : Int) (A : Option Addr) (n c : Nat) (d : List UInt8), v0 = .int .i64 t ∧ v1 = .slice A n c ∧ (Lit.int .i64 t).wf = true ∧ n ≤ c ∧ n ≤ maxLen ∧ Rd w w.heap.size A n d := by
  obtain ⟨ce, ci, cb⟩ := cellsRec
  obtain ⟨xs, k', -, -, hl2, hlx, hfs⟩ := DataW.trod_struct Tryd.underlying35 h
  obtain ⟨y0, y1, rfl⟩ : ∃ y0 y1, xs = [y0, y1] := by
    match xs, hlx with
    | [y0, y1], _ => exact ⟨y0, y1, rfl⟩
  have g0 := hfs 0 _ rfl
  have g1 := hfs 1 _ rfl
  clear hfs
  simp [ci, cb] at g0 g1
  obtain ⟨z0, e0, -, w0⟩ := DataW.trod_int Tryd.underlying3 g0
  simp only [List.cons.injEq, and_true] at e0
  subst e0
  rcases open_ints Tryd.underlying33 Tryd.underlying5 (by kernel_rfl) g1 with ⟨hcs, _⟩ | ⟨x, l, c, zs, hcs, _, hlc, hm, hz, hd, hcell, hwz⟩
  · simp only [List.cons.injEq, and_true] at hcs
    exact ⟨z0, none, 0, 0, [], rfl, hcs, w0, Nat.le_refl _, by decide, Rd.nil_⟩
  · simp only [List.cons.injEq, and_true] at hcs
    have hlz : l ≤ zs.length := by rw [hz]; split <;> omega
    exact ⟨z0, some x, l, c, _, rfl, hcs, w0, hlc, Nat.le_trans hlc hm, Rd.of_ints (c := zs.length) hlz rfl hcell hwz⟩
end Go.Proofs.YtahgaogmcffglaaDoor
