/- The plain mathematics of layer 4, second part: a text cut at its first c; a name by its pieces; digits read as they were written; whose text, or item, something could be. No program's number stands here. -/
import Derived.Test.YtlncacfflalacaaDoorEidN
import Derived.Lib.Bytealg
import Derived.Lib.IndexLaws
import Derived.Lib.ParseIntB
import Derived.Lib.Strings
namespace Go.Proofs.YtlncacfflalacaaDoor
open Go.Lib (decDigits)

/-- What stands ahead of the first c, what stands behind it, and whether there is one. -/
def ahead (c : UInt8) (l : List UInt8) : List UInt8 := l.takeWhile fun x => x != c
def behind (c : UInt8) (l : List UInt8) : List UInt8 := l.drop ((ahead c l).length + 1)
def hasB (c : UInt8) (l : List UInt8) : Bool := decide ((ahead c l).length < l.length)

theorem ahead_nil (c : UInt8) : ahead c [] = [] := rfl
theorem ahead_cons (c x : UInt8) (l : List UInt8) : ahead c (x :: l) = if x = c then [] else x :: ahead c l := by
  unfold ahead
  rw [List.takeWhile_cons]
  by_cases h : x = c <;> simp [h]
theorem ahead_no (c : UInt8) : ∀ l : List UInt8, ∀ x ∈ ahead c l, x ≠ c
  | [], x, h => by rw [ahead_nil] at h; cases h
  | y :: l, x, h => by
    rw [ahead_cons] at h
    split at h
    · cases h
    · rename_i hne
      rcases List.mem_cons.1 h with rfl | h
      · exact hne
      · exact ahead_no c l x h
theorem ahead_le (c : UInt8) : ∀ l : List UInt8, (ahead c l).length ≤ l.length
  | [] => Nat.le_refl _
  | y :: l => by
    rw [ahead_cons]
    split
    · exact Nat.zero_le _
    · have := ahead_le c l; simp only [List.length_cons]; omega
theorem ahead_take (c : UInt8) : ∀ l : List UInt8, ahead c l = l.take (ahead c l).length
  | [] => rfl
  | y :: l => by
    rw [ahead_cons]
    split
    · rfl
    · have := ahead_take c l
      simp only [List.length_cons, List.take_succ_cons]
      rw [← this]
theorem ahead_all {c : UInt8} {l : List UInt8} (h : hasB c l = false) : ahead c l = l := by
  have h1 := ahead_le c l
  have h2 : (ahead c l).length = l.length := by unfold hasB at h; simp at h; omega
  rw [ahead_take c l, h2, List.take_length]
theorem behind_nil {c : UInt8} {l : List UInt8} (h : hasB c l = false) : behind c l = [] := by
  unfold behind
  rw [ahead_all h]
  simp
theorem cut_eq {c : UInt8} : ∀ {l : List UInt8}, hasB c l = true → l = ahead c l ++ c :: behind c l
  | [], h => by simp [hasB] at h
  | y :: l, h => by
    unfold behind
    rw [ahead_cons]
    by_cases hy : y = c
    · subst hy; simp
    · rw [if_neg hy]
      have h' : hasB c l = true := by
        unfold hasB at h ⊢
        rw [ahead_cons, if_neg hy] at h
        simp at h ⊢
        omega
      have e := cut_eq h'
      unfold behind at e
      simp only [List.length_cons, List.drop_succ_cons, List.cons_append]
      rw [← e]
theorem ahead_app {c : UInt8} : ∀ {u : List UInt8} (t : List UInt8), (∀ x ∈ u, x ≠ c) → ahead c (u ++ c :: t) = u
  | [], t, _ => by rw [List.nil_append, ahead_cons, if_pos rfl]
  | y :: u, t, h => by
    rw [List.cons_append, ahead_cons, if_neg (h y (by simp)), ahead_app t (fun x hx => h x (by simp [hx]))]
theorem has_app {c : UInt8} {u t : List UInt8} (h : ∀ x ∈ u, x ≠ c) : hasB c (u ++ c :: t) = true ∧ behind c (u ++ c :: t) = t := by
  unfold hasB behind
  rw [ahead_app t h]
  refine ⟨by simp, ?_⟩
  rw [List.drop_append]
  simp
theorem index_ahead (c : UInt8) : ∀ l : List UInt8, Lib.indexByte l c = if hasB c l = true then ((ahead c l).length : Int) else -1
  | [] => by simp [Lib.indexByte, hasB]
  | y :: l => by
    have ih := index_ahead c l
    have e1 : hasB c (y :: l) = if y = c then true else hasB c l := by
      unfold hasB
      rw [ahead_cons]
      by_cases hy : y = c <;> simp [hy]
    rw [Lib.indexByte, e1, ahead_cons]
    by_cases hy : y = c
    · subst hy; simp
    · have hb : (y == c) = false := by simpa using hy
      rw [hb, if_neg hy, if_neg hy, ih]
      rw [if_neg (by simp)]
      by_cases hh : hasB c l = true
      · rw [if_pos hh, if_pos hh]
        have : ¬ ((((ahead c l).length : Int) == -1) = true) := by rw [beq_iff_eq]; omega
        rw [if_neg this, List.length_cons]
        omega
      · rw [if_neg hh, if_neg hh]; rfl

/-- Digits are read as the number that was written. -/
theorem parse_app (M : Nat) : ∀ (l t : List UInt8) (acc v : Nat), Lib.parseUintM M acc l = .ok v → Lib.parseUintM M acc (l ++ t) = Lib.parseUintM M v t
  | [], t, acc, v, h => by
    simp only [Lib.parseUintM] at h
    cases h
    rfl
  | c :: r, t, acc, v, h => by
    simp only [Lib.parseUintM] at h
    simp only [List.cons_append, Lib.parseUintM]
    split at h
    · rename_i hd
      rw [if_pos hd]
      split at h
      · cases h
      · rename_i h1
        rw [if_neg h1]
        split at h
        · cases h
        · rename_i h2
          rw [if_neg h2]
          exact parse_app M r t _ v h
    · cases h
theorem parse_dec (M : Nat) (hM : M ≤ 4294967295) : ∀ n : Nat, n ≤ M → Lib.parseUintM M 0 (decDigits n) = .ok n := by
  intro n
  induction n using Nat.strongRecOn with
  | _ n ih =>
    intro hn
    have hd : ∀ d : Nat, d < 10 → (UInt8.ofNat (48 + d)).toNat = 48 + d := fun d h => by
      have h2 : ∀ d : Fin 10, (UInt8.ofNat (48 + d.val)).toNat = 48 + d.val := by decide +kernel
      exact h2 ⟨d, h⟩
    by_cases hx : n < 10
    · rw [dec_small hx]
      simp only [Lib.parseUintM]
      rw [hd n hx, if_pos (by omega), if_neg (by omega), if_neg (by omega)]
      congr 1
      omega
    · rw [dec_big hx, parse_app M _ _ 0 (n / 10) (ih (n / 10) (by omega) (by omega))]
      simp only [Lib.parseUintM]
      rw [hd (n % 10) (by omega), if_pos (by omega), if_neg (by omega), if_neg (by omega)]
      congr 1
      omega
theorem dec_ne_nil (n : Nat) : decDigits n ≠ [] := by
  by_cases hx : n < 10
  · rw [dec_small hx]; simp
  · rw [dec_big hx]; simp
theorem parse32 (n : Nat) (h : n ≤ 4294967295) : Lib.parseUintB 32 (decDigits n) = .ok n := by
  unfold Lib.parseUintB
  rw [if_neg (dec_ne_nil n)]
  exact parse_dec _ (by decide) n (by omega)
theorem parse32_le {l : List UInt8} {n : Nat} (h : Lib.parseUintB 32 l = .ok n) : n ≤ 4294967295 := by
  have key : ∀ (l : List UInt8) (acc v : Nat), acc ≤ 4294967295 → Lib.parseUintM 4294967295 acc l = .ok v → v ≤ 4294967295 := by
    intro l
    induction l with
    | nil => intro acc v ha h; simp only [Lib.parseUintM] at h; cases h; exact ha
    | cons c r ih =>
      intro acc v ha h
      simp only [Lib.parseUintM] at h
      split at h
      · split at h
        · cases h
        · split at h
          · cases h
          · exact ih _ _ (by omega) h
      · cases h
  unfold Lib.parseUintB at h
  split at h
  · cases h
  · exact key l 0 n (by omega) h

/-- A name by its pieces, as it is asked for. -/
def nameC (s : List UInt8) : Bool :=
  decide (s.length ≤ 64) && (Lib.hasPrefix s [47, 47] && (hasB 47 (s.drop 2) && (!(ahead 47 (s.drop 2)).isEmpty && ((ahead 47 (s.drop 2)).all letterB && (behind 47 (s.drop 2)).all lsB))))
theorem beq_comm_u (a b : UInt8) : (a == b) = (b == a) := by
  by_cases h : a = b
  · subst h; rfl
  · have h2 : ¬ b = a := fun e => h e.symm
    rw [beq_eq_false_iff_ne.2 h, beq_eq_false_iff_ne.2 h2]
theorem toSlash_ahead (l : List UInt8) : toSlash l = (ahead 47 l).length := rfl
theorem letter_ls {c : UInt8} (h : c ≠ 47) : lsB c = letterB c := by
  unfold lsB
  have : (c == 47) = false := by simpa using h
  rw [this, Bool.false_or]
theorem all_ls {l : List UInt8} (h : ∀ x ∈ l, x ≠ 47) : l.all lsB = l.all letterB := by
  induction l with
  | nil => rfl
  | cons a l ih =>
    rw [List.all_cons, List.all_cons, letter_ls (h a (by simp)), ih (fun x hx => h x (by simp [hx]))]
theorem nameC_eq (s : List UInt8) : nameC s = nameB s := by
  unfold nameC nameB
  congr 1
  match s with
  | [] => rfl
  | [a] => simp [Lib.hasPrefix, List.isPrefixOf]
  | a :: b :: r =>
    have e1 : Lib.hasPrefix (a :: b :: r) [47, 47] = (a == 47 && b == 47) := by
      simp only [Lib.hasPrefix, List.isPrefixOf, Bool.and_true]
      rw [show ((47 : UInt8) == a) = (a == 47) from beq_comm_u _ _, show ((47 : UInt8) == b) = (b == 47) from beq_comm_u _ _]
    rw [e1]
    congr 1
    show (hasB 47 r && _) = _
    rw [show (a :: b :: r).drop 2 = r from rfl]
    by_cases hh : hasB 47 r = true
    · have e := cut_eq hh
      have e2 : r.all lsB = ((ahead 47 r).all letterB && (behind 47 r).all lsB) := by
        conv => lhs; rw [e]
        rw [List.all_append, List.all_cons, all_ls (ahead_no 47 r)]
        rfl
      have e3 : decide (toSlash r < r.length) = true := hh
      have e4 : (!(ahead 47 r).isEmpty) = decide (1 ≤ toSlash r) := by
        rw [toSlash_ahead]
        cases ahead 47 r <;> simp
      rw [hh, e3, e2, e4, Bool.true_and, Bool.and_true, Bool.and_comm]
    · have e3 : decide (toSlash r < r.length) = false := by rw [Bool.not_eq_true] at hh; exact hh
      rw [Bool.not_eq_true] at hh
      rw [hh, e3, Bool.false_and, Bool.and_false, Bool.and_false]
end Go.Proofs.YtlncacfflalacaaDoor
