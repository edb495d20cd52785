/- Logs, plain: sectors read as bytes; bytes written into sectors in chunks; what a stop leaves of that. -/
import Derived.Test.YtahgaogmcffglaaDoorJDscG
import Derived.Test.YtahgaogmcffglaaDoorJWlM
namespace Go.Proofs.YtahgaogmcffglaaDoor
open Go.RowKit

/-- A sector's byte, among all sectors' bytes. -/
theorem flat64_at : ∀ {Z : List (List UInt8)} (_ : ∀ s ∈ Z, s.length = 64) (k : Nat), Z.flatten[k]? = (Z[k / 64]?).bind (·[k % 64]?)
  | [], _, k => by simp
  | s :: Z, h, k => by
    have hs := h s (by simp)
    rw [List.flatten_cons]
    rcases Nat.lt_or_ge k 64 with hk | hk
    · rw [List.getElem?_append_left (by omega), Nat.div_eq_of_lt hk, Nat.mod_eq_of_lt hk]
      rfl
    · rw [List.getElem?_append_right (by omega), hs, flat64_at (fun x hx => h x (by simp [hx])) (k - 64)]
      have e1 : k / 64 = (k - 64) / 64 + 1 := by omega
      have e2 : k % 64 = (k - 64) % 64 := by omega
      rw [e1, e2, List.getElem?_cons_succ]
/-- n bytes from sector a on. -/
def rdZ (Z : List (List UInt8)) (a n : Nat) : List UInt8 := ((Z.drop a).flatten).take n
theorem rdZ_at {Z : List (List UInt8)} (h : ∀ s ∈ Z, s.length = 64) (a n k : Nat) (hk : k < n) : (rdZ Z a n)[k]? = (Z[a + k / 64]?).bind (·[k % 64]?) := by
  unfold rdZ
  rw [List.getElem?_take_of_lt hk, flat64_at (fun s hs => h s (List.mem_of_mem_drop hs)), List.getElem?_drop]
theorem flat64_len : ∀ {Z : List (List UInt8)} (_ : ∀ s ∈ Z, s.length = 64), Z.flatten.length = Z.length * 64
  | [], _ => rfl
  | s :: Z, h => by
    rw [List.flatten_cons, List.length_append, h s (by simp), flat64_len (fun x hx => h x (by simp [hx])), List.length_cons]
    omega
theorem rdZ_len {Z : List (List UInt8)} (h : ∀ s ∈ Z, s.length = 64) (a n : Nat) (hn : a * 64 + n ≤ Z.length * 64) : (rdZ Z a n).length = n := by
  unfold rdZ
  rw [List.length_take, flat64_len (fun s hs => h s (List.mem_of_mem_drop hs)), List.length_drop]
  omega
theorem rdZ_zero (Z : List (List UInt8)) (a : Nat) : rdZ Z a 0 = [] := List.take_zero
theorem rdZ_take (Z : List (List UInt8)) (a n m : Nat) (h : n ≤ m) : (rdZ Z a m).take n = rdZ Z a n := by
  unfold rdZ
  rw [List.take_take, Nat.min_eq_left h]
/-- Some bytes more, of the sector that comes next. -/
theorem rdZ_more {Z : List (List UInt8)} (h : ∀ s ∈ Z, s.length = 64) (a i k : Nat) (hk : k ≤ 64) {s : List UInt8} (hs : Z[a + i]? = some s) : rdZ Z a (64 * i + k) = rdZ Z a (64 * i) ++ s.take k := by
  have hl := h s (List.mem_of_getElem? hs)
  have hi : a + i < Z.length := (List.getElem?_eq_some_iff.1 hs).1
  have hln : (rdZ Z a (64 * i)).length = 64 * i := rdZ_len h _ _ (by omega)
  have hlm : (rdZ Z a (64 * i + k)).length = 64 * i + k := rdZ_len h _ _ (by omega)
  apply List.ext_getElem?
  intro j
  rcases Nat.lt_or_ge j (64 * i) with hj | hj
  · rw [List.getElem?_append_left (by omega), rdZ_at h _ _ _ (by omega), rdZ_at h _ _ _ hj]
  · rcases Nat.lt_or_ge j (64 * i + k) with hj2 | hj2
    · rw [List.getElem?_append_right (by omega), hln, rdZ_at h _ _ _ hj2, show j / 64 = i by omega, hs, List.getElem?_take_of_lt (by omega), show j % 64 = j - 64 * i by omega]
      rfl
    · rw [List.getElem?_eq_none (by omega), List.getElem?_eq_none (by simp; omega)]
/-- Two rows of sectors that agree read the same. -/
theorem rdZ_ext {Z : List (List UInt8)} (h : ∀ s ∈ Z, s.length = 64) (a n : Nat) (l : List UInt8) (hn : a * 64 + n ≤ Z.length * 64) (hl : l.length = n) (hk : ∀ k, k < n → (Z[a + k / 64]?).bind (·[k % 64]?) = l[k]?) : rdZ Z a n = l := by
  apply List.ext_getElem?
  intro k
  rcases Nat.lt_or_ge k n with h1 | h1
  · rw [rdZ_at h _ _ _ h1, hk k h1]
  · rw [List.getElem?_eq_none (by rw [rdZ_len h _ _ hn]; exact h1), List.getElem?_eq_none (by omega)]
/-- A sector with these bytes ahead, and noughts. -/
def padS (b : List UInt8) : List UInt8 := b ++ List.replicate (64 - b.length) 0
theorem padS_len {b : List UInt8} (h : b.length ≤ 64) : (padS b).length = 64 := by simp [padS]; omega
/-- How many sectors bytes need. -/
def secN (n : Nat) : Nat := (n + 63) / 64
/-- The i-th sector that bytes are written to. -/
def chunk (a : Nat) (b : List UInt8) (i : Nat) : Nat × List UInt8 := (a + i, padS ((b.drop (64 * i)).take 64))
def chunks (a : Nat) (b : List UInt8) : List (Nat × List UInt8) := (List.range (secN b.length)).map (chunk a b)
theorem chunk_len (a : Nat) (b : List UInt8) (i : Nat) : (chunk a b i).2.length = 64 := padS_len (by rw [List.length_take]; exact Nat.min_le_left _ _)
theorem chunks_len (a : Nat) (b : List UInt8) : (chunks a b).length = secN b.length := by simp [chunks]
theorem chunks_at (a : Nat) (b : List UInt8) (i : Nat) (h : i < secN b.length) : (chunks a b)[i]? = some (chunk a b i) := by
  unfold chunks
  rw [List.getElem?_map, List.getElem?_range h]
  rfl
theorem chunks_take (a : Nat) (b : List UInt8) (i : Nat) (h : i < secN b.length) : (chunks a b).take (i + 1) = (chunks a b).take i ++ [chunk a b i] := by
  rw [List.take_add_one, chunks_at a b i h]
  rfl
theorem chunks_mem {a : Nat} {b : List UInt8} {x : Nat × List UInt8} (h : x ∈ chunks a b) : ∃ i, i < secN b.length ∧ x = chunk a b i := by
  obtain ⟨i, hi, rfl⟩ := List.mem_map.1 h
  exact ⟨i, List.mem_range.1 hi, rfl⟩
theorem chunk_at (a : Nat) (b : List UInt8) (i k : Nat) (hk : k < 64) (h : 64 * i + k < b.length) : (chunk a b i).2[k]? = b[64 * i + k]? := by
  show (padS ((b.drop (64 * i)).take 64))[k]? = _
  unfold padS
  rw [List.getElem?_append_left (by rw [List.length_take, List.length_drop]; omega), List.getElem?_take_of_lt hk, List.getElem?_drop]
/-- Each byte of a torn sector is an old one or a new one. -/
theorem torn_at {k : Int} {s n : List UInt8} (hs : s.length = 64) (hn : n.length = 64) (i : Nat) : (torn k s n)[i]? = s[i]? ∨ (torn k s n)[i]? = n[i]? := by
  unfold torn
  split
  · exact .inr rfl
  · split
    · rcases Nat.lt_or_ge i 32 with h | h
      · exact .inr (by rw [List.getElem?_append_left (by simp; omega), List.getElem?_take_of_lt h])
      · refine .inl ?_
        rw [List.getElem?_append_right (by simp; omega), List.getElem?_drop]
        congr 1
        simp
        omega
    · split
      · rcases Nat.lt_or_ge i 32 with h | h
        · exact .inl (by rw [List.getElem?_append_left (by simp; omega), List.getElem?_take_of_lt h])
        · refine .inr ?_
          rw [List.getElem?_append_right (by simp; omega), List.getElem?_drop]
          congr 1
          simp
          omega
      · exact .inl rfl
theorem torn_half {k : Int} {s n : List UInt8} (hs : s.length = 64) (hn : n.length = 64) : (torn k s n).take 32 = s.take 32 ∨ (torn k s n).take 32 = n.take 32 := by
  unfold torn
  split
  · exact .inr rfl
  · split
    · exact .inr (by rw [List.take_append_of_le_length (by simp; omega), List.take_of_length_le (by simp; omega)])
    · split
      · exact .inl (by rw [List.take_append_of_le_length (by simp; omega), List.take_of_length_le (by simp; omega)])
      · exact .inl rfl
/-- What each sector keeps, whatever is left of writes. -/
theorem tornW_pred {P : Nat → List UInt8 → Prop} : ∀ (ws : List (Nat × List UInt8)) (ks : List Int) (S : List (List UInt8)), (∀ i s, S[i]? = some s → P i s) → (∀ x ∈ ws, ∀ s k, P x.1 s → P x.1 (torn k s x.2)) → ∀ i s, (tornW S ws ks)[i]? = some s → P i s
  | [], _, S, h, _, i, s, hs => by
    unfold tornW at hs
    exact h i s hs
  | _ :: _, [], S, h, _, i, s, hs => h i s hs
  | x :: ws, k :: ks, S, h, hx, i, s, hs => by
    rw [tornW] at hs
    refine tornW_pred ws ks _ (fun j t ht => ?_) (fun y hy => hx y (by simp [hy])) i s hs
    rcases Nat.lt_or_ge x.1 S.length with hl | hl
    · by_cases e : x.1 = j
      · subst e
        rw [List.getElem?_set_self hl] at ht
        obtain rfl := Option.some.inj ht
        exact hx x (by simp) _ k (h _ _ (by rw [List.getElem?_eq_getElem hl]; rfl))
      · rw [List.getElem?_set_ne e] at ht
        exact h j t ht
    · rw [List.set_eq_of_length_le hl] at ht
      exact h j t ht
/-- Writes done whole, sector by sector. -/
theorem layW_chunks (a : Nat) (b : List UInt8) (S : List (List UInt8)) (h : a + secN b.length ≤ S.length) : ∀ j, j ≤ secN b.length → ∀ i, (layW S ((chunks a b).take j))[i]? = if a ≤ i ∧ i < a + j then some (chunk a b (i - a)).2 else S[i]?
  | 0, _, i => by
    rw [List.take_zero, layW_nil, if_neg (by omega)]
  | j + 1, hj, i => by
    rw [chunks_take a b j (by omega), layW_snoc]
    by_cases e : a + j = i
    · subst e
      rw [if_pos (by omega)]
      show (List.set _ (a + j) _)[a + j]? = _
      rw [List.getElem?_set_self (by rw [layW_len]; omega), Nat.add_sub_cancel_left]
    · show (List.set _ (a + j) _)[i]? = _
      rw [List.getElem?_set_ne e, layW_chunks a b S h j (by omega) i]
      by_cases c : a ≤ i ∧ i < a + j
      · rw [if_pos c, if_pos (by omega)]
      · rw [if_neg c, if_neg (by omega)]
end Go.Proofs.YtahgaogmcffglaaDoor
