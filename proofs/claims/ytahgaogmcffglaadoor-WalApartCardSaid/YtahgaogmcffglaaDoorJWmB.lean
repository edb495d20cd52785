/- Logs, plain: what sectors say of a log, and what writes to them leave of it. -/
import Derived.Test.YtahgaogmcffglaaDoorJWmA
namespace Go.Proofs.YtahgaogmcffglaaDoor
open Go.RowKit

/-- How many sectors each half has. -/
def hlf (n : Nat) : Nat := (n - 1) / 2
/-- What a head is salted with. -/
def saltW (a n : Nat) : Nat := a * 4294967296 + n
/-- Where the half begins whose turn it is. -/
def stW (a n t : Nat) : Nat := a + 1 + (t % 2) * hlf n
/-- A head, as a record, and as bytes. -/
def hdR (t len : Nat) : Rcd := ⟨1, be t 8 ++ be len 8⟩
def hdF (a n t len : Nat) : List UInt8 := frameR (saltW a n) (hdR t len)
theorem hdR_len (t len : Nat) : (hdR t len).dat.length = 16 := by simp [hdR, be_length]
theorem hdR_ok (t len : Nat) : rokR (hdR t len) = true := rokR_iff.2 ⟨by show (1 : Int) ≤ 1; omega, by show (1 : Int) ≤ 255; omega, by rw [hdR_len]; decide⟩
theorem hdF_len (a n t len : Nat) : (hdF a n t len).length = 23 := by unfold hdF; rw [frameR_len, hdR_len]
/-- What a head's bytes read as. -/
def rhW (a n : Nat) (b : List UInt8) : Option (Nat × Nat) :=
  if (nextR (saltW a n) b).2.2 = 0 ∧ (nextR (saltW a n) b).1.typ = 1 ∧ (nextR (saltW a n) b).1.dat.length = 16 ∧ beNat ((nextR (saltW a n) b).1.dat.drop 8) ≤ hlf n * 64
  then some (beNat ((nextR (saltW a n) b).1.dat.take 8), beNat ((nextR (saltW a n) b).1.dat.drop 8)) else none
/-- The head that is taken. -/
def hdW (a n : Nat) (b : List UInt8) : Nat × Nat := (rhW a n b).getD (0, 0)
theorem rhW_hd (a n t len : Nat) (m : List UInt8) (ht : t < 18446744073709551616) (hl : len ≤ hlf n * 64) (hn : hlf n * 64 < 18446744073709551616) : rhW a n (hdF a n t len ++ m) = some (t, len) := by
  have e := next_frame (saltW a n) (hdR t len) m (hdR_ok t len)
  have h1 : (hdR t len).dat.take 8 = be t 8 := by
    show (be t 8 ++ be len 8).take 8 = _
    rw [List.take_append_of_le_length (by rw [be_length]; exact Nat.le_refl _), List.take_of_length_le (by rw [be_length]; exact Nat.le_refl _)]
  have h2 : (hdR t len).dat.drop 8 = be len 8 := by
    show (be t 8 ++ be len 8).drop 8 = _
    have := List.drop_left (l₁ := be t 8) (l₂ := be len 8)
    rwa [be_length] at this
  have g1 : beNat (be t 8) = t := by rw [beNat_be _ _ (by decide)]; exact Nat.mod_eq_of_lt ht
  have g2 : beNat (be len 8) = len := by rw [beNat_be _ _ (by decide)]; exact Nat.mod_eq_of_lt (Nat.lt_of_le_of_lt hl (Nat.lt_of_lt_of_eq hn (by decide)))
  have e2 : nextR (saltW a n) (hdF a n t len ++ m) = (hdR t len, (hdR t len).dat.length + 7, 0) := e
  unfold rhW
  rw [e2]
  show (if (0 : Int) = 0 ∧ (hdR t len).typ = 1 ∧ (hdR t len).dat.length = 16 ∧ beNat ((hdR t len).dat.drop 8) ≤ hlf n * 64 then some (beNat ((hdR t len).dat.take 8), beNat ((hdR t len).dat.drop 8)) else none) = _
  rw [h1, h2, g1, g2, if_pos ⟨rfl, rfl, hdR_len t len, hl⟩]
/-- What sectors say of the log that lies in n of them from a on: its turn, its length, its records. -/
structure InZ (a n : Nat) (Z : List (List UInt8)) (t len : Nat) (L : List Rcd) : Prop where
  hd : hdW a n (rdZ Z a 32) = (t, len)
  by_ : rdZ Z (stW a n t) len = framesR t L
  ok : ∀ r ∈ L, rokR r = true
  lenL : len = sumL L
  fit : len ≤ hlf n * 64
  tn : t < 18446744073709551616
/-- Sectors of noughts have none. -/
theorem next_noughts (salt n : Nat) : (nextR salt (List.replicate n 0)).2.2 ≠ 0 := by
  unfold nextR
  split
  · decide
  · rw [if_pos]
    · decide
    · refine .inl ?_
      rw [List.getD_eq_getElem?_getD]
      rcases Nat.lt_or_ge 2 n with h | h
      · rw [List.getElem?_replicate_of_lt h]; rfl
      · rw [List.getElem?_eq_none (by simpa using h)]; rfl
theorem inz_noughts (a n N : Nat) (h : a < N) : InZ a n (List.replicate N z64) 0 0 [] := by
  have hw : ∀ s ∈ List.replicate N z64, s.length = 64 := fun s hs => by rw [(List.mem_replicate.1 hs).2]; rfl
  have e : rdZ (List.replicate N z64) a 32 = List.replicate 32 0 := by
    refine rdZ_ext hw _ _ _ (by rw [List.length_replicate]; omega) (by simp) fun k hk => ?_
    rw [List.getElem?_replicate_of_lt (by omega), List.getElem?_replicate_of_lt hk]
    show z64[k % 64]? = _
    unfold z64
    exact List.getElem?_replicate_of_lt (Nat.mod_lt _ (by decide))
  refine ⟨?_, by rw [rdZ_zero]; rfl, fun r hr => absurd hr (by simp), rfl, Nat.zero_le _, by decide⟩
  unfold hdW rhW
  rw [e, if_neg (fun h => next_noughts _ _ h.1)]
  rfl
theorem rdZ_head {Z : List (List UInt8)} (h : ∀ s ∈ Z, s.length = 64) {a : Nat} {s : List UInt8} (hs : Z[a]? = some s) : rdZ Z a 32 = s.take 32 := by
  have := rdZ_more h a 0 32 (by decide) (s := s) (by rw [Nat.add_zero]; exact hs)
  rw [Nat.mul_zero, Nat.zero_add, rdZ_zero, List.nil_append] at this
  exact this
/-- Sectors that agree where the log lies say the same. -/
theorem InZ.same {a n t len : Nat} {Z Z' : List (List UInt8)} {L : List Rcd} (h : InZ a n Z t len L) (hh : rdZ Z' a 32 = rdZ Z a 32) (hb : rdZ Z' (stW a n t) len = rdZ Z (stW a n t) len) : InZ a n Z' t len L :=
  ⟨by rw [hh]; exact h.hd, by rw [hb]; exact h.by_, h.ok, h.lenL, h.fit, h.tn⟩
/-- What is to be laid behind a head that tells of c0 bytes: where, and the bytes of the sector in which they end. -/
theorem stW_in (a n t : Nat) : a + 1 ≤ stW a n t ∧ stW a n t + hlf n ≤ a + 1 + 2 * hlf n := by
  unfold stW
  rcases Nat.mod_two_eq_zero_or_one t with h | h <;> rw [h] <;> omega
theorem stW_next (a n t t' : Nat) (h : t % 2 ≠ t' % 2) : stW a n t + hlf n ≤ stW a n t' ∨ stW a n t' + hlf n ≤ stW a n t := by
  unfold stW
  rcases Nat.mod_two_eq_zero_or_one t with h1 | h1 <;> rcases Nat.mod_two_eq_zero_or_one t' with h2 | h2 <;> rw [h1, h2] at h ⊢ <;> omega

/-- What keeps a log: sectors Z' agree with Z but for those from at on, up to m of them, and the first c bytes of sector at are as they were. -/
structure Kp (Z Z' : List (List UInt8)) (at_ m c : Nat) : Prop where
  len : Z'.length = Z.length
  wide : ∀ s ∈ Z', s.length = 64
  out : ∀ i, i < at_ ∨ at_ + m ≤ i → Z'[i]? = Z[i]?
  part : ∀ k, k < c → (Z'[at_]?).bind (·[k]?) = (Z[at_]?).bind (·[k]?)
theorem Kp.rd {Z Z' : List (List UInt8)} {at_ m c : Nat} (h : Kp Z Z' at_ m c) (hw : ∀ s ∈ Z, s.length = 64) (hc : c < 64) (a len : Nat) (hl : a * 64 + len ≤ Z.length * 64) (hin : a * 64 + len ≤ at_ * 64 + c ∨ at_ + m ≤ a) : rdZ Z' a len = rdZ Z a len := by
  refine rdZ_ext h.wide a len _ (by rw [h.len]; exact hl) (rdZ_len hw _ _ hl) fun k hk => ?_
  rw [rdZ_at hw _ _ _ hk]
  rcases hin with hin | hin
  · by_cases e : a + k / 64 = at_
    · rw [e]
      exact h.part (k % 64) (by omega)
    · rw [h.out _ (.inl (by omega))]
  · rw [h.out _ (.inr (by omega))]
/-- Whatever is left of the writes of bytes b to sector at and on, where b begins with the c bytes that were there. -/
theorem kp_torn {Z : List (List UInt8)} (hw : ∀ s ∈ Z, s.length = 64) (at_ : Nat) (b : List UInt8) (c : Nat) (hc : c < 64) (hcb : c ≤ b.length) (hb : ∀ k, k < c → b[k]? = (Z[at_]?).bind (·[k]?)) (j : Nat) (ks : List Int) : Kp Z (tornW Z ((chunks at_ b).take j) ks) at_ (secN b.length) c := by
  have hP := tornW_pred (P := fun i s => s.length = 64 ∧ (i < at_ ∨ at_ + secN b.length ≤ i → Z[i]? = some s) ∧ (i = at_ → ∀ k, k < c → s[k]? = (Z[at_]?).bind (·[k]?))) ((chunks at_ b).take j) ks Z
    (fun i s hs => ⟨hw s (List.mem_of_getElem? hs), fun _ => hs, fun e k _ => by rw [← e, hs]; rfl⟩)
    (fun x hx s k hs => by
      obtain ⟨i, hi, rfl⟩ := chunks_mem (List.mem_of_mem_take hx)
      obtain ⟨h1, -, h3⟩ := hs
      refine ⟨torn_len h1 (chunk_len _ _ _), fun h => ?_, fun h k' hk' => ?_⟩
      · have : at_ + i < at_ ∨ at_ + secN b.length ≤ at_ + i := h
        omega
      · have hi0 : i = 0 := by have : at_ + i = at_ := h
                               omega
        subst hi0
        rcases torn_at (k := k) h1 (chunk_len at_ b 0) k' with h4 | h4
        · rw [h4]
          exact h3 h k' hk'
        · rw [h4, chunk_at at_ b 0 k' (by omega) (by omega), Nat.mul_zero, Nat.zero_add]
          exact hb k' hk')
  refine ⟨tornW_len _ _ _, fun s hs => ?_, fun i hi => ?_, fun k hk => ?_⟩
  · obtain ⟨i, hi, rfl⟩ := List.mem_iff_getElem.1 hs
    exact (hP i _ (List.getElem?_eq_getElem hi)).1
  · cases e : (tornW Z ((chunks at_ b).take j) ks)[i]? with
    | some s => exact ((hP i s e).2.1 hi).symm
    | none =>
      have hge : Z.length ≤ i := by
        have := List.getElem?_eq_none_iff.1 e
        rwa [tornW_len] at this
      exact (List.getElem?_eq_none hge).symm
  · cases e : (tornW Z ((chunks at_ b).take j) ks)[at_]? with
    | some s => exact (hP at_ s e).2.2 rfl k hk
    | none =>
      have hge : Z.length ≤ at_ := by
        have := List.getElem?_eq_none_iff.1 e
        rwa [tornW_len] at this
      rw [List.getElem?_eq_none hge]
theorem kp_lay {Z : List (List UInt8)} (hw : ∀ s ∈ Z, s.length = 64) (at_ : Nat) (b : List UInt8) (c : Nat) (hc : c < 64) (hcb : c ≤ b.length) (hb : ∀ k, k < c → b[k]? = (Z[at_]?).bind (·[k]?)) : Kp Z (layW Z (chunks at_ b)) at_ (secN b.length) c := by
  have := kp_torn hw at_ b c hc hcb hb (chunks at_ b).length (List.replicate (chunks at_ b).length 1)
  rwa [List.take_length, tornW_ones] at this
/-- What was written whole reads as the bytes. -/
theorem lay_rd {Z : List (List UInt8)} (at_ : Nat) (b : List UInt8) (hin : at_ + secN b.length ≤ Z.length) (k : Nat) (hk : k < b.length) : ((layW Z (chunks at_ b))[at_ + k / 64]?).bind (·[k % 64]?) = b[k]? := by
  have h := layW_chunks at_ b Z hin (secN b.length) (Nat.le_refl _) (at_ + k / 64)
  rw [show (chunks at_ b).take (secN b.length) = chunks at_ b from List.take_of_length_le (by rw [chunks_len]; exact Nat.le_refl _)] at h
  have hs : k / 64 < secN b.length := by unfold secN; omega
  rw [h, if_pos (by omega), Nat.add_sub_cancel_left]
  show (chunk at_ b (k / 64)).2[k % 64]? = _
  rw [chunk_at _ _ _ _ (Nat.mod_lt _ (by decide)) (by omega)]
  congr 1
  omega
end Go.Proofs.YtahgaogmcffglaaDoor
