/- The plain mathematics of layer 3: what is written is read as it was; what is read is written as it was; beginnings are short. No program's number stands here. -/
import Derived.Test.YtanbjifdcplmnaaGreatDoorTCborI
import Derived.Test.YtanbjifdcplmnaaGreatDoorTCborM
import Derived.Test.YtanbjifdcplmnaaGreatDoorTCborQ
import Derived.Test.YtanbjifdcplmnaaGreatDoorTCborR
import Derived.Test.YtanbjifdcplmnaaGreatDoorTNumB
import Derived.Test.YtanbjifdcplmnaaGreatDoorTSame
import Derived.Maps.AppendAt
import Derived.Laws.OwnMore
import Derived.OwnWalk
import Derived.RegionTactic
import Derived.Deep.RegionHeld3
import Derived.Laws.IdiomStrings
namespace Go.Proofs.YtanbjifdcplmnaaGreatDoor

/-- A right item, by its kind. -/
theorem own_kind {k : Int} {n : Nat} {d : List UInt8} {l : List Itm} (h : own k n d l = true) :
    (k = 0 ∧ d = [] ∧ l = []) ∨ (k = 2 ∧ n = 0 ∧ l = []) ∨ (k = 3 ∧ n = 0 ∧ l = [] ∧ plain d = true) ∨ (k = 4 ∧ n = 0 ∧ d = []) ∨ (k = 5 ∧ n = 0 ∧ d = []) := by
  unfold own at h
  split at h
  next hk => simp at h; exact .inl ⟨hk, h.1, h.2⟩
  next hk =>
  split at h
  next h2 => simp at h; exact .inr (.inl ⟨h2, h.1, h.2⟩)
  next h2 =>
  split at h
  next h3 => simp at h; exact .inr (.inr (.inl ⟨h3, h.1, h.2.1, h.2.2⟩))
  next h3 =>
  split at h
  next h4 =>
    simp at h
    rcases h4 with h4 | h4
    · exact .inr (.inr (.inr (.inl ⟨h4, h.1, h.2⟩)))
    · exact .inr (.inr (.inr (.inr ⟨h4, h.1, h.2⟩)))
  next h4 => cases h

theorem hd_cons (m n : Nat) (r : List UInt8) : hd m n ++ r = UInt8.ofNat (32 * m + hlow n) :: (be n (hsz n) ++ r) := rfl
theorem first_arr (m n : Nat) (hm : m ≤ 4) : arrB (UInt8.ofNat (32 * m + hlow n)) = decide (m = 4) := by
  obtain ⟨h1, h2⟩ := hd_first m n hm
  have h27 := hlow_le n
  have h9 : (UInt8.ofNat (32 * m + hlow n) == 0x9f) = false := by
    rw [beq_eq_false_iff_ne]
    intro e
    rw [e] at h2
    have : (0x9f : UInt8).toNat % 32 = 31 := rfl
    omega
  unfold arrB
  rw [h9, h1, h2]
  by_cases h4 : m = 4 <;> simp [h4, h27]
theorem first_ne (m n : Nat) (hm : m ≤ 4) : UInt8.ofNat (32 * m + hlow n) ≠ 0x9f ∧ UInt8.ofNat (32 * m + hlow n) ≠ 0xff := by
  obtain ⟨h1, h2⟩ := hd_first m n hm
  have h27 := hlow_le n
  constructor
  · intro e; rw [e] at h2; have : (0x9f : UInt8).toNat % 32 = 31 := rfl; omega
  · intro e; rw [e] at h2; have : (0xff : UInt8).toNat % 32 = 31 := rfl; omega

/-- What itemD does at a head. -/
theorem itemD_hd (sub : Nat → List UInt8 → Except Int (Itm × Nat × List UInt8)) (deep : Bool) (p m n : Nat) (r : List UInt8) (hm : m = 0 ∨ m = 2 ∨ m = 3 ∨ m = 4) (hn : n < 18446744073709551616) (hp : p < 4096) (h4 : m = 4 → deep = false) :
    itemD sub deep p (hd m n ++ r) = if m = 0 then .ok (.mk 0 n [] [], p + 1, r) else if m = 4 then (match many sub n (p + 1) r with | .error e => .error e | .ok (xs, p2, l2) => .ok (.mk 4 0 [] xs, p2, l2)) else textD m n (p + 1) r := by
  have hno : ¬ (p = 4096 ∨ (decide (m = 4) = true ∧ deep = true)) := by
    rintro (h | ⟨h, h'⟩)
    · omega
    · rw [h4 (by simpa using h)] at h'; cases h'
  rw [hd_cons, itemD, first_arr m n (by omega), if_neg hno, if_neg (first_ne m n (by omega)).1, ← hd_cons, headD_hd m n r hm hn]
  rfl

mutual
theorem wr_ne : ∀ x : Itm, ∃ c r, wri x = c :: r ∧ c ≠ 0xff
  | .mk k n d l => by
    rw [wri]
    split
    · exact ⟨_, _, rfl, (first_ne 0 n (by decide)).2⟩
    split
    next h => exact ⟨_, _, rfl, (first_ne k.toNat d.length (by omega)).2⟩
    split
    · exact ⟨_, _, rfl, (first_ne 4 l.length (by decide)).2⟩
    · exact ⟨_, _, rfl, by decide⟩
end
theorem wrs_len : ∀ l : List Itm, l.length ≤ (wrs l).length
  | [] => Nat.le_refl _
  | x :: r => by
    obtain ⟨c, t, h, _⟩ := wr_ne x
    have := wrs_len r
    rw [wrs, List.length_append, h]
    simp
    omega

/-! ### There -/
mutual
theorem dec_wr : ∀ (x : Itm) (d p : Nat) (m : List UInt8), right x = true → Siz x → dep x ≤ d → p + par x ≤ 4096 → dec d p (wri x ++ m) = .ok (x, p + par x, m)
  | .mk k n dt l, d, p, m, hr, hs, hd', hp => by
    rw [right, Bool.and_eq_true] at hr
    rw [Siz] at hs
    rw [dep] at hd'
    rw [par] at hp
    obtain ⟨hn, hdl, hll, hss⟩ := hs
    rcases own_kind hr.1 with ⟨rfl, rfl, rfl⟩ | ⟨rfl, rfl, rfl⟩ | ⟨rfl, rfl, rfl, hpl⟩ | ⟨rfl, rfl, rfl⟩ | ⟨rfl, rfl, rfl⟩
    · have e : wri (.mk 0 n [] []) = hd 0 n := by rw [wri, if_pos rfl]
      rw [e]
      cases d with
      | zero => rw [dec, itemD_hd _ _ _ _ _ _ (.inl rfl) hn (by omega) (by omega)]; rfl
      | succ d => rw [dec, itemD_hd _ _ _ _ _ _ (.inl rfl) hn (by omega) (by omega)]; rfl
    · have e : wri (.mk 2 0 dt []) = hd 2 dt.length ++ dt := by rw [wri, if_neg (by decide), if_pos (.inl rfl)]; rfl
      rw [e, List.append_assoc]
      have ht : textD 2 dt.length (p + 1) (dt ++ m) = .ok (.mk 2 0 dt [], p + 1, m) := by
        rw [textD, if_neg (by omega), if_neg (by simp), List.take_left' rfl, List.drop_left' rfl]; rfl
      cases d with
      | zero => rw [dec, itemD_hd _ _ _ _ _ _ (.inr (.inl rfl)) hdl (by omega) (by omega), if_neg (by decide), if_neg (by decide), ht]; rfl
      | succ d => rw [dec, itemD_hd _ _ _ _ _ _ (.inr (.inl rfl)) hdl (by omega) (by omega), if_neg (by decide), if_neg (by decide), ht]; rfl
    · have e : wri (.mk 3 0 dt []) = hd 3 dt.length ++ dt := by rw [wri, if_neg (by decide), if_pos (.inr rfl)]; rfl
      rw [e, List.append_assoc]
      have ht : textD 3 dt.length (p + 1) (dt ++ m) = .ok (.mk 3 0 dt [], p + 1, m) := by
        rw [textD, List.take_left' rfl, if_neg (by rw [hpl]; simp), if_neg (by simp), List.drop_left' rfl]; rfl
      cases d with
      | zero => rw [dec, itemD_hd _ _ _ _ _ _ (.inr (.inr (.inl rfl))) hdl (by omega) (by omega), if_neg (by decide), if_neg (by decide), ht]; rfl
      | succ d => rw [dec, itemD_hd _ _ _ _ _ _ (.inr (.inr (.inl rfl))) hdl (by omega) (by omega), if_neg (by decide), if_neg (by decide), ht]; rfl
    · have e : wri (.mk 4 0 [] l) = hd 4 l.length ++ wrs l := by rw [wri, if_neg (by decide), if_neg (by decide), if_pos rfl]
      rw [e, List.append_assoc]
      cases d with
      | zero => simp at hd'
      | succ d =>
        rw [dec, itemD_hd _ _ _ _ _ _ (.inr (.inr (.inr rfl))) hll (by omega) (fun _ => rfl), if_neg (by decide), if_pos rfl, many_wrs l d (p + 1) m hr.2 hss (by simpa using hd') (by omega)]
        simp only [par]
        congr 3
        omega
    · have e : wri (.mk 5 0 [] l) = 0x9f :: (wrs l ++ [0xff]) := by rw [wri, if_neg (by decide), if_neg (by decide), if_neg (by decide)]
      rw [e, List.cons_append, List.append_assoc, List.singleton_append]
      cases d with
      | zero => simp at hd'
      | succ d =>
        have hf := wrs_len l
        rw [dec, itemD, if_neg (by simp; omega), if_pos rfl, endl_wrs l d (p + 1) _ m hr.2 hss (by simpa using hd') (by omega) (by simp; omega)]
        simp only [par]
        congr 3
        omega
theorem many_wrs : ∀ (l : List Itm) (d p : Nat) (m : List UInt8), rights l = true → Sizs l → deps l ≤ d → p + pars l ≤ 4096 → many (dec d) l.length p (wrs l ++ m) = .ok (l, p + pars l, m)
  | [], d, p, m, _, _, _, _ => by simp [many, wrs, pars]
  | x :: r, d, p, m, hr, hs, hd', hp => by
    rw [rights, Bool.and_eq_true] at hr
    rw [Sizs] at hs
    rw [deps] at hd'
    rw [pars] at hp
    rw [List.length_cons, wrs, List.append_assoc, many, dec_wr x d p _ hr.1 hs.1 (by omega) (by omega)]
    simp only
    rw [many_wrs r d (p + par x) m hr.2 hs.2 (by omega) (by omega)]
    simp only [pars]
    congr 3
    omega
theorem endl_wrs : ∀ (l : List Itm) (d p f : Nat) (m : List UInt8), rights l = true → Sizs l → deps l ≤ d → p + pars l ≤ 4096 → l.length < f → endl (dec d) f p (wrs l ++ (0xff :: m)) = .ok (l, p + pars l, m)
  | [], d, p, f, m, _, _, _, _, hf => by
    cases f with
    | zero => omega
    | succ f => simp [endl, wrs, pars]
  | x :: r, d, p, f, m, hr, hs, hd', hp, hf => by
    rw [rights, Bool.and_eq_true] at hr
    rw [Sizs] at hs
    rw [deps] at hd'
    rw [pars] at hp
    rw [List.length_cons] at hf
    obtain ⟨c, t, hw, hne⟩ := wr_ne x
    cases f with
    | zero => omega
    | succ f =>
      have h1 := dec_wr x d p (wrs r ++ 0xff :: m) hr.1 hs.1 (by omega) (by omega)
      rw [hw, List.cons_append] at h1
      rw [wrs, List.append_assoc, hw, List.cons_append, endl, if_neg hne, h1]
      simp only
      rw [endl_wrs r d (p + par x) f m hr.2 hs.2 (by omega) (by omega) (by omega)]
      simp only [pars]
      congr 3
      omega
end
/-! ### Back -/
/-- What a reader of items keeps. -/
def SubOk (d : Nat) (sub : Nat → List UInt8 → Except Int (Itm × Nat × List UInt8)) : Prop :=
  ∀ p l x p' r, p ≤ 4096 → sub p l = .ok (x, p', r) → l = wri x ++ r ∧ right x = true ∧ Siz x ∧ dep x ≤ d ∧ p' = p + par x ∧ p' ≤ 4096
theorem par_pos : ∀ x : Itm, 1 ≤ par x
  | .mk _ _ _ _ => by rw [par]; omega
theorem pars_len : ∀ l : List Itm, l.length ≤ pars l
  | [] => Nat.le_refl _
  | x :: r => by have := par_pos x; have := pars_len r; rw [pars, List.length_cons]; omega
theorem many_ok {d : Nat} {sub : Nat → List UInt8 → Except Int (Itm × Nat × List UInt8)} (hs : SubOk d sub) : ∀ (n p : Nat) (l : List UInt8) (xs : List Itm) (p' : Nat) (r : List UInt8), p ≤ 4096 → many sub n p l = .ok (xs, p', r) →
    l = wrs xs ++ r ∧ xs.length = n ∧ rights xs = true ∧ Sizs xs ∧ deps xs ≤ d ∧ p' = p + pars xs ∧ p' ≤ 4096
  | 0, p, l, xs, p', r, hp, h => by
    rw [many] at h
    cases h
    exact ⟨rfl, rfl, rfl, trivial, Nat.zero_le _, rfl, hp⟩
  | n + 1, p, l, xs, p', r, hp, h => by
    rw [many] at h
    split at h
    · cases h
    next x p1 l1 h1 =>
    split at h
    · cases h
    next ys p2 l2 h2 =>
    cases h
    obtain ⟨rfl, a2, a3, a4, rfl, a6⟩ := hs _ _ _ _ _ hp h1
    obtain ⟨rfl, b1, b2, b3, b4, rfl, b6⟩ := many_ok hs n _ _ _ _ _ a6 h2
    refine ⟨?_, ?_, ?_, ⟨a3, b3⟩, ?_, ?_, b6⟩
    · rw [wrs, List.append_assoc]
    · rw [List.length_cons, b1]
    · rw [rights, a2, b2]; rfl
    · rw [deps]; omega
    · rw [pars]; omega
theorem endl_ok {d : Nat} {sub : Nat → List UInt8 → Except Int (Itm × Nat × List UInt8)} (hs : SubOk d sub) : ∀ (f p : Nat) (l : List UInt8) (xs : List Itm) (p' : Nat) (r : List UInt8), p ≤ 4096 → endl sub f p l = .ok (xs, p', r) →
    l = wrs xs ++ 0xff :: r ∧ rights xs = true ∧ Sizs xs ∧ deps xs ≤ d ∧ p' = p + pars xs ∧ p' ≤ 4096
  | 0, p, l, xs, p', r, _, h => by rw [endl] at h; cases h
  | f + 1, p, [], xs, p', r, _, h => by rw [endl] at h; cases h
  | f + 1, p, c :: t, xs, p', r, hp, h => by
    rw [endl] at h
    split at h
    next hc =>
      cases h
      subst hc
      exact ⟨rfl, rfl, trivial, Nat.zero_le _, rfl, hp⟩
    next hc =>
    split at h
    · cases h
    next x p1 l1 h1 =>
    split at h
    · cases h
    next ys p2 l2 h2 =>
    cases h
    obtain ⟨e, a2, a3, a4, rfl, a6⟩ := hs _ _ _ _ _ hp h1
    obtain ⟨rfl, b2, b3, b4, rfl, b6⟩ := endl_ok hs f _ _ _ _ _ a6 h2
    refine ⟨?_, ?_, ⟨a3, b3⟩, ?_, ?_, b6⟩
    · rw [e, wrs, List.append_assoc]
    · rw [rights, a2, b2]; rfl
    · rw [deps]; omega
    · rw [pars]; omega
theorem textD_ok {m n p p' : Nat} {r r' : List UInt8} {x : Itm} (hm : m = 2 ∨ m = 3) (hn : n < 18446744073709551616) (h : textD m n p r = .ok (x, p', r')) :
    hd m n ++ r = wri x ++ r' ∧ right x = true ∧ Siz x ∧ dep x = 0 ∧ par x = 1 ∧ p' = p := by
  rw [textD] at h
  split at h
  · cases h
  next h1 =>
  split at h
  · cases h
  next h2 =>
  cases h
  have hl : (r.take n).length = n := by rw [List.length_take]; omega
  have hr : r = r.take n ++ r.drop n := (List.take_append_drop n r).symm
  generalize hd' : r.take n = dt at *
  generalize r.drop n = u at *
  subst hr
  rcases hm with rfl | rfl
  · refine ⟨?_, ?_, ⟨by decide, by omega, by decide, trivial⟩, rfl, rfl, rfl⟩
    · rw [wri, if_neg (by decide), if_pos (.inl rfl), hl, List.append_assoc]; rfl
    · simp [right, rights, own]
  · have hp : plain dt = true := by
      rcases hb : plain dt with _ | _
      · exact absurd ⟨rfl, hb⟩ h1
      · rfl
    refine ⟨?_, ?_, ⟨by decide, by omega, by decide, trivial⟩, rfl, rfl, rfl⟩
    · rw [wri, if_neg (by decide), if_pos (.inr rfl), hl, List.append_assoc]; rfl
    · simp [right, rights, own, hp]
theorem itemD_ok {d : Nat} {sub : Nat → List UInt8 → Except Int (Itm × Nat × List UInt8)} {deep : Bool} (hs : SubOk d sub) : SubOk (if deep then 0 else d + 1) (itemD sub deep) := by
  intro p l x p' r hp h
  cases l with
  | nil => rw [itemD] at h; cases h
  | cons c t =>
  rw [itemD] at h
  split at h
  · cases h
  next h0 =>
  have hp1 : p + 1 ≤ 4096 := by
    rcases Nat.lt_or_ge p 4096 with h7 | h7
    · exact h7
    · exact absurd (.inl (by omega)) h0
  split at h
  next hc =>
    subst hc
    split at h
    · cases h
    next xs p2 l2 h2 =>
    cases h
    obtain ⟨rfl, b2, b3, b4, rfl, b6⟩ := endl_ok hs _ _ _ _ _ _ hp1 h2
    have hd0 : deep = false := by
      rcases deep with _ | _
      · rfl
      · exact absurd (.inr ⟨rfl, rfl⟩) h0
    have hl := pars_len xs
    refine ⟨?_, ?_, ⟨by decide, by decide, ?_, b3⟩, ?_, ?_, ?_⟩
    · rw [wri, if_neg (by decide), if_neg (by decide), if_neg (by decide), List.cons_append, List.append_assoc]; rfl
    · rw [right, b2]; rfl
    · omega
    · subst hd0; rw [dep]; simp; omega
    · rw [par]; omega
    · exact b6
  next hc =>
  split at h
  · cases h
  next m n r1 h1 =>
  obtain ⟨e, hn, hm⟩ := headD_ok h1
  rw [e]
  split at h
  next hm0 =>
    subst hm0
    cases h
    refine ⟨?_, ?_, ⟨hn, by decide, by decide, trivial⟩, ?_, rfl, by omega⟩
    · rw [wri, if_pos rfl]
    · rfl
    · show 0 ≤ _; omega
  next hm0 =>
  split at h
  next hm4 =>
    subst hm4
    split at h
    · cases h
    next xs p2 l2 h2 =>
    cases h
    obtain ⟨rfl, b1, b2, b3, b4, rfl, b6⟩ := many_ok hs _ _ _ _ _ _ hp1 h2
    subst b1
    have hd0 : deep = false := by
      rcases deep with _ | _
      · rfl
      · refine absurd (.inr ⟨?_, rfl⟩) h0
        rw [hd_cons] at e
        cases e
        rw [first_arr 4 _ (by decide)]; rfl
    refine ⟨?_, ?_, ⟨by decide, by decide, hn, b3⟩, ?_, ?_, ?_⟩
    · rw [wri, if_neg (by decide), if_neg (by decide), if_pos rfl, List.append_assoc]
    · rw [right, b2]; rfl
    · subst hd0; rw [dep]; simp; omega
    · rw [par]; omega
    · exact b6
  next hm4 =>
    obtain ⟨a1, a2, a3, a4, a5, rfl⟩ := textD_ok (by omega) hn h
    exact ⟨a1, a2, a3, by omega, by omega, by omega⟩
theorem dec_ok : ∀ d : Nat, SubOk d (dec d)
  | 0 => itemD_ok (deep := true) (d := 0) (fun _ _ _ _ _ _ h => by cases h)
  | d + 1 => itemD_ok (deep := false) (dec_ok d)

/-! ### Beginnings -/
theorem take_app {l r : List UInt8} {k : Nat} (h : l.length ≤ k) : (l ++ r).take k = l ++ r.take (k - l.length) := by
  rw [List.take_append, List.take_of_length_le h]
theorem take_app' {l r : List UInt8} {k : Nat} (h : k ≤ l.length) : (l ++ r).take k = l.take k := by
  rw [List.take_append, show k - l.length = 0 by omega, List.take_zero, List.append_nil]
theorem itemD_short (sub : Nat → List UInt8 → Except Int (Itm × Nat × List UInt8)) (deep : Bool) (p m n cut : Nat) (hm : m = 0 ∨ m = 2 ∨ m = 3 ∨ m = 4) (hp : p < 4096) (h4 : m = 4 → deep = false) (hc : cut < (hd m n).length) :
    itemD sub deep p ((hd m n).take cut) = .error 30 := by
  have hs := headD_short m n hm cut hc
  cases cut with
  | zero => rfl
  | succ j =>
    have e : (hd m n).take (j + 1) = UInt8.ofNat (32 * m + hlow n) :: (be n (hsz n)).take j := rfl
    rw [e] at hs ⊢
    have hno : ¬ (p = 4096 ∨ (decide (m = 4) = true ∧ deep = true)) := by
      rintro (h | ⟨h, h'⟩)
      · omega
      · rw [h4 (by simpa using h)] at h'; cases h'
    rw [itemD, first_arr m n (by omega), if_neg hno, if_neg (first_ne m n (by omega)).1, hs]
theorem plain_take (d : List UInt8) (k : Nat) (h : plain d = true) : plain (d.take k) = true := by
  unfold plain at *
  rw [List.all_eq_true] at *
  exact fun c hc => h c (List.mem_of_mem_take hc)
theorem textD_short (m n p : Nat) (d : List UInt8) (h : d.length < n) (hp : m = 3 → plain d = true) : textD m n p d = .error 30 := by
  rw [textD, List.take_of_length_le (by omega), if_neg (by rintro ⟨h1, h2⟩; rw [hp h1] at h2; cases h2), if_pos h]
mutual
theorem dec_short : ∀ (x : Itm) (d p cut : Nat), right x = true → Siz x → dep x ≤ d → p + par x ≤ 4096 → cut < (wri x).length → dec d p ((wri x).take cut) = .error 30
  | .mk k n dt l, d, p, cut, hr, hs, hd', hp, hc => by
    rw [right, Bool.and_eq_true] at hr
    rw [Siz] at hs
    rw [dep] at hd'
    rw [par] at hp
    obtain ⟨hn, hdl, hll, hss⟩ := hs
    have hdec : ∀ P : (Nat → List UInt8 → Except Int (Itm × Nat × List UInt8)) → Prop, (∀ sub deep, (deps l + (if k = 4 ∨ k = 5 then 1 else 0) = 0 → True) → (k = 4 ∨ k = 5 → deep = false) → P (itemD sub deep)) → P (dec d) := by
      intro P hP
      cases d with
      | zero =>
        rw [dec]
        refine hP _ _ (fun _ => trivial) (fun hk => ?_)
        rw [if_pos hk] at hd'
        omega
      | succ d => rw [dec]; exact hP _ _ (fun _ => trivial) (fun _ => rfl)
    rcases own_kind hr.1 with ⟨rfl, rfl, rfl⟩ | ⟨rfl, rfl, rfl⟩ | ⟨rfl, rfl, rfl, hpl⟩ | ⟨rfl, rfl, rfl⟩ | ⟨rfl, rfl, rfl⟩
    · have e : wri (.mk 0 n [] []) = hd 0 n := by rw [wri, if_pos rfl]
      rw [e] at hc ⊢
      exact hdec (fun D => D p ((hd 0 n).take cut) = .error 30) (fun sub deep _ _ => itemD_short sub deep p 0 n cut (.inl rfl) (by omega) (by omega) hc)
    · have e : wri (.mk 2 0 dt []) = hd 2 dt.length ++ dt := by rw [wri, if_neg (by decide), if_pos (.inl rfl)]; rfl
      rw [e] at hc ⊢
      refine hdec (fun D => D p ((hd 2 dt.length ++ dt).take cut) = .error 30) (fun sub deep _ _ => ?_)
      rcases Nat.lt_or_ge cut (hd 2 dt.length).length with h | h
      · rw [take_app' (by omega)]
        exact itemD_short sub deep p 2 _ cut (.inr (.inl rfl)) (by omega) (by omega) h
      · rw [List.length_append] at hc
        rw [take_app h, itemD_hd _ _ _ _ _ _ (.inr (.inl rfl)) hdl (by omega) (by omega), if_neg (by decide), if_neg (by decide), textD_short _ _ _ _ (by rw [List.length_take]; omega) (by omega)]
    · have e : wri (.mk 3 0 dt []) = hd 3 dt.length ++ dt := by rw [wri, if_neg (by decide), if_pos (.inr rfl)]; rfl
      rw [e] at hc ⊢
      refine hdec (fun D => D p ((hd 3 dt.length ++ dt).take cut) = .error 30) (fun sub deep _ _ => ?_)
      rcases Nat.lt_or_ge cut (hd 3 dt.length).length with h | h
      · rw [take_app' (by omega)]
        exact itemD_short sub deep p 3 _ cut (.inr (.inr (.inl rfl))) (by omega) (by omega) h
      · rw [List.length_append] at hc
        rw [take_app h, itemD_hd _ _ _ _ _ _ (.inr (.inr (.inl rfl))) hdl (by omega) (by omega), if_neg (by decide), if_neg (by decide), textD_short _ _ _ _ (by rw [List.length_take]; omega) (fun _ => plain_take _ _ hpl)]
    · have e : wri (.mk 4 0 [] l) = hd 4 l.length ++ wrs l := by rw [wri, if_neg (by decide), if_neg (by decide), if_pos rfl]
      rw [e] at hc ⊢
      rcases Nat.lt_or_ge cut (hd 4 l.length).length with h | h
      · rw [take_app' (by omega)]
        exact hdec (fun D => D p ((hd 4 l.length).take cut) = .error 30) (fun sub deep _ h4 => itemD_short sub deep p 4 _ cut (.inr (.inr (.inr rfl))) (by omega) (fun _ => h4 (.inl rfl)) h)
      · rw [List.length_append] at hc
        cases d with
        | zero => simp at hd'
        | succ d =>
          rw [take_app h, dec, itemD_hd _ _ _ _ _ _ (.inr (.inr (.inr rfl))) hll (by omega) (fun _ => rfl), if_neg (by decide), if_pos rfl,
            many_short l d (p + 1) _ hr.2 hss (by simpa using hd') (by omega) (by omega)]
    · have e : wri (.mk 5 0 [] l) = 0x9f :: (wrs l ++ [0xff]) := by rw [wri, if_neg (by decide), if_neg (by decide), if_neg (by decide)]
      rw [e] at hc ⊢
      cases cut with
      | zero => exact hdec (fun D => D p [] = .error 30) (fun sub deep _ _ => rfl)
      | succ j =>
        cases d with
        | zero => simp at hd'
        | succ d =>
          rw [List.take_succ_cons, dec, itemD, if_neg (by simp; omega), if_pos rfl, endl_short l d (p + 1) _ j hr.2 hss (by simpa using hd') (by omega) (by simp at hc; omega)]
theorem many_short : ∀ (l : List Itm) (d p cut : Nat), rights l = true → Sizs l → deps l ≤ d → p + pars l ≤ 4096 → cut < (wrs l).length → many (dec d) l.length p ((wrs l).take cut) = .error 30
  | [], d, p, cut, _, _, _, _, hc => absurd hc (Nat.not_lt_zero _)
  | x :: r, d, p, cut, hr, hs, hd', hp, hc => by
    rw [rights, Bool.and_eq_true] at hr
    rw [Sizs] at hs
    rw [deps] at hd'
    rw [pars] at hp
    rw [wrs] at hc ⊢
    rw [List.length_cons, many]
    rcases Nat.lt_or_ge cut (wri x).length with h | h
    · rw [take_app' (by omega), dec_short x d p cut hr.1 hs.1 (by omega) (by omega) h]
    · rw [List.length_append] at hc
      rw [take_app h, dec_wr x d p _ hr.1 hs.1 (by omega) (by omega)]
      simp only
      rw [many_short r d (p + par x) _ hr.2 hs.2 (by omega) (by omega) (by omega)]
theorem endl_short : ∀ (l : List Itm) (d p f cut : Nat), rights l = true → Sizs l → deps l ≤ d → p + pars l ≤ 4096 → cut ≤ (wrs l).length → endl (dec d) f p ((wrs l ++ [0xff]).take cut) = .error 30
  | _, d, p, 0, cut, _, _, _, _, hc => by rw [endl]
  | l, d, p, f + 1, 0, _, _, _, _, hc => by rw [List.take_zero, endl]
  | [], d, p, f + 1, cut + 1, _, _, _, _, hc => by simp [wrs] at hc
  | x :: r, d, p, f + 1, cut + 1, hr, hs, hd', hp, hc => by
    rw [rights, Bool.and_eq_true] at hr
    rw [Sizs] at hs
    rw [deps] at hd'
    rw [pars] at hp
    rw [wrs] at hc ⊢
    obtain ⟨c, t, hw, hne⟩ := wr_ne x
    rcases Nat.lt_or_ge (cut + 1) (wri x).length with h | h
    · have h1 := dec_short x d p (cut + 1) hr.1 hs.1 (by omega) (by omega) h
      rw [hw, List.take_succ_cons] at h1
      rw [List.append_assoc, take_app' (by omega), hw, List.take_succ_cons, endl, if_neg hne, h1]
    · rw [List.length_append] at hc
      have h1 := dec_wr x d p ((wrs r ++ [0xff]).take (cut + 1 - (wri x).length)) hr.1 hs.1 (by omega) (by omega)
      have h2 : endl (dec d) f (p + par x) ((wrs r ++ [0xff]).take (cut + 1 - (wri x).length)) = .error 30 := endl_short r d (p + par x) f _ hr.2 hs.2 (by omega) (by omega) (by omega)
      rw [List.append_assoc, take_app h, hw, List.cons_append, endl, if_neg hne, ← List.cons_append, ← hw, h1]
      simp only
      rw [h2]
end
end Go.Proofs.YtanbjifdcplmnaaGreatDoor
/- The order of decimal digits: longer numerals are the greater ones, and of one length the later ones. -/
namespace Go.Proofs.YtanbjifdcplmnaaGreatDoor
open Go.RowKit
open Go.Lib (decDigits nDigits nDigits_small nDigits_big nDigits_pos decDigits_length)

theorem dd_lt (x y : Nat) (hx : x < 10) (hy : y < 10) : decide (UInt8.ofNat (48 + x) < UInt8.ofNat (48 + y)) = decide (x < y) := by
  have : ∀ x y : Fin 10, decide (UInt8.ofNat (48 + x.val) < UInt8.ofNat (48 + y.val)) = decide (x.val < y.val) := by decide +kernel
  exact this ⟨x, hx⟩ ⟨y, hy⟩
theorem dd_eq (x y : Nat) (hx : x < 10) (hy : y < 10) (h : UInt8.ofNat (48 + x) = UInt8.ofNat (48 + y)) : x = y := by
  have : ∀ x y : Fin 10, UInt8.ofNat (48 + x.val) = UInt8.ofNat (48 + y.val) → x = y := by decide +kernel
  exact congrArg Fin.val (this ⟨x, hx⟩ ⟨y, hy⟩ h)

theorem bl_snoc : ∀ (A B : List UInt8) (a b : UInt8), A.length = B.length → Op.bytesLess (A ++ [a]) (B ++ [b]) = (Op.bytesLess A B || ((A == B) && decide (a < b)))
  | [], [], a, b, _ => by simp [Op.bytesLess]
  | [], _ :: _, _, _, h => by simp at h
  | _ :: _, [], _, _, h => by simp at h
  | x :: A, y :: B, a, b, h => by
    have ih := bl_snoc A B a b (by simpa using h)
    simp only [List.cons_append, Op.bytesLess, ih, List.cons_beq_cons]
    cases decide (x < y) <;> cases (x == y) <;> cases (Op.bytesLess A B) <;> cases (A == B) <;> simp

theorem dec_small {x : Nat} (h : x < 10) : decDigits x = [UInt8.ofNat (48 + x)] := by rw [decDigits, dif_pos h]
theorem dec_big {x : Nat} (h : ¬ x < 10) : decDigits x = decDigits (x / 10) ++ [UInt8.ofNat (48 + x % 10)] := by rw [decDigits, dif_neg h]

theorem nd_mono : ∀ (y x : Nat), nDigits x < nDigits y → x < y := by
  intro y
  induction y using Nat.strongRecOn with
  | _ y ih =>
    intro x h
    have hp := nDigits_pos x
    by_cases hy : y < 10
    · rw [nDigits_small hy] at h; omega
    · by_cases hx : x < 10
      · omega
      · rw [nDigits_big hy, nDigits_big hx] at h
        have := ih (y / 10) (by omega) (x / 10) (by omega)
        omega

theorem dec_inj : ∀ (x y : Nat), decDigits x = decDigits y → x = y := by
  intro x
  induction x using Nat.strongRecOn with
  | _ x ih =>
    intro y h
    have hl : nDigits x = nDigits y := by rw [← decDigits_length, ← decDigits_length, h]
    have p1 := nDigits_pos (x / 10)
    have p2 := nDigits_pos (y / 10)
    by_cases hx : x < 10
    · by_cases hy : y < 10
      · rw [dec_small hx, dec_small hy] at h
        exact dd_eq x y hx hy (by simpa using h)
      · rw [nDigits_small hx, nDigits_big hy] at hl; omega
    · by_cases hy : y < 10
      · rw [nDigits_big hx, nDigits_small hy] at hl; omega
      · rw [dec_big hx, dec_big hy] at h
        have hs := List.append_inj' h rfl
        have e1 := ih (x / 10) (by omega) (y / 10) hs.1
        have e2 := dd_eq (x % 10) (y % 10) (by omega) (by omega) (by simpa using hs.2)
        omega

theorem dec_less : ∀ (x y : Nat), nDigits x = nDigits y → Op.bytesLess (decDigits x) (decDigits y) = decide (x < y) := by
  intro x
  induction x using Nat.strongRecOn with
  | _ x ih =>
    intro y hl
    have p1 := nDigits_pos (x / 10)
    have p2 := nDigits_pos (y / 10)
    by_cases hx : x < 10
    · by_cases hy : y < 10
      · rw [dec_small hx, dec_small hy]
        simp only [Op.bytesLess, Bool.and_false, Bool.or_false]
        exact dd_lt x y hx hy
      · rw [nDigits_small hx, nDigits_big hy] at hl; omega
    · by_cases hy : y < 10
      · rw [nDigits_big hx, nDigits_small hy] at hl; omega
      · rw [nDigits_big hx, nDigits_big hy] at hl
        have hl' : nDigits (x / 10) = nDigits (y / 10) := by omega
        have hb : (decDigits (x / 10) == decDigits (y / 10)) = decide (x / 10 = y / 10) := by
          rw [Bool.eq_iff_iff, beq_iff_eq, decide_eq_true_iff]
          exact ⟨fun h => dec_inj _ _ h, fun h => by rw [h]⟩
        rw [dec_big hx, dec_big hy, bl_snoc _ _ _ _ (by rw [decDigits_length, decDigits_length, hl']), ih (x / 10) (by omega) (y / 10) hl', hb, dd_lt _ _ (by omega) (by omega)]
        rw [Bool.eq_iff_iff]
        simp only [Bool.or_eq_true, Bool.and_eq_true, decide_eq_true_iff]
        omega

theorem nd_le : ∀ (k x : Nat), x < 10 ^ (k + 1) → nDigits x ≤ k + 1
  | 0, x, h => by rw [nDigits_small (by simpa using h)]; exact Nat.le_refl _
  | k + 1, x, h => by
    by_cases hx : x < 10
    · rw [nDigits_small hx]; omega
    · rw [nDigits_big hx]
      rw [Nat.pow_succ] at h
      have := nd_le k (x / 10) (by omega)
      omega
theorem nd_20 (x : Nat) (h : x < 18446744073709551616) : nDigits x ≤ 20 := nd_le 19 x (Nat.lt_trans h (by decide))
end Go.Proofs.YtanbjifdcplmnaaGreatDoor
/- The plain mathematics of layer 3: what Encode and Decode answer, as a whole; greater numbers have greater heads. No program's number stands here. -/
namespace Go.Proofs.YtanbjifdcplmnaaGreatDoor
open Go.RowKit

/-! ### The whole -/
theorem headD_err {l : List UInt8} {e : Int} (h : headD l = .error e) : e = 30 ∨ e = 31 := by
  cases l with
  | nil => rw [headD] at h; cases h; exact .inl rfl
  | cons c t =>
    rw [headD] at h
    split at h
    · cases h; exact .inr rfl
    split at h
    · cases h
    split at h
    · cases h; exact .inl rfl
    split at h
    · cases h; exact .inr rfl
    · cases h
def SubErr (sub : Nat → List UInt8 → Except Int (Itm × Nat × List UInt8)) : Prop := ∀ p l e, sub p l = .error e → e = 30 ∨ e = 31 ∨ e = 32
theorem many_err {sub : Nat → List UInt8 → Except Int (Itm × Nat × List UInt8)} (hs : SubErr sub) : ∀ (n p : Nat) (l : List UInt8) (e : Int), many sub n p l = .error e → e = 30 ∨ e = 31 ∨ e = 32
  | 0, p, l, e, h => by rw [many] at h; cases h
  | n + 1, p, l, e, h => by
    rw [many] at h
    split at h
    next h1 => cases h; exact hs _ _ _ h1
    next h1 =>
    split at h
    next h2 => cases h; exact many_err hs n _ _ _ h2
    · cases h
theorem endl_err {sub : Nat → List UInt8 → Except Int (Itm × Nat × List UInt8)} (hs : SubErr sub) : ∀ (f p : Nat) (l : List UInt8) (e : Int), endl sub f p l = .error e → e = 30 ∨ e = 31 ∨ e = 32
  | 0, p, l, e, h => by rw [endl] at h; cases h; exact .inl rfl
  | f + 1, p, [], e, h => by rw [endl] at h; cases h; exact .inl rfl
  | f + 1, p, c :: r, e, h => by
    rw [endl] at h
    split at h
    · cases h
    split at h
    next h1 => cases h; exact hs _ _ _ h1
    next h1 =>
    split at h
    next h2 => cases h; exact endl_err hs f _ _ _ h2
    · cases h
theorem textD_err {m n p : Nat} {r : List UInt8} {e : Int} (h : textD m n p r = .error e) : e = 30 ∨ e = 31 := by
  rw [textD] at h
  split at h
  · cases h; exact .inr rfl
  split at h
  · cases h; exact .inl rfl
  · cases h
theorem itemD_err {sub : Nat → List UInt8 → Except Int (Itm × Nat × List UInt8)} {deep : Bool} (hs : SubErr sub) : SubErr (itemD sub deep) := by
  intro p l e h
  cases l with
  | nil => rw [itemD] at h; cases h; exact .inl rfl
  | cons c t =>
    rw [itemD] at h
    split at h
    · cases h; exact .inr (.inr rfl)
    split at h
    · split at h
      next h1 => cases h; exact endl_err hs _ _ _ _ h1
      · cases h
    split at h
    next h1 =>
      cases h
      rcases headD_err h1 with h | h
      · exact .inl h
      · exact .inr (.inl h)
    split at h
    · cases h
    split at h
    · split at h
      next h1 => cases h; exact many_err hs _ _ _ _ h1
      · cases h
    · rcases textD_err h with h | h
      · exact .inl h
      · exact .inr (.inl h)
theorem dec_err : ∀ d : Nat, SubErr (dec d)
  | 0 => itemD_err (fun _ _ _ h => by cases h; exact .inr (.inr rfl))
  | d + 1 => itemD_err (dec_err d)

/-- May an item be written? -/
def Fits (x : Itm) : Prop := right x = true ∧ dep x ≤ 8 ∧ par x ≤ 4096
theorem enc_ok {x : Itm} (h : Fits x) : enc x = (wri x, 0) := by
  unfold enc
  rw [if_neg (by rw [h.1]; decide), if_neg (by have := h.2; omega)]
theorem enc_cases (x : Itm) : (Fits x ∧ enc x = (wri x, 0)) ∨ (¬ Fits x ∧ (enc x).1 = [] ∧ ((enc x).2 = 2 ∨ (enc x).2 = 32)) := by
  by_cases h : Fits x
  · exact .inl ⟨h, enc_ok h⟩
  · refine .inr ⟨h, ?_⟩
    unfold enc
    split
    · exact ⟨rfl, .inl rfl⟩
    next h1 =>
    split
    · exact ⟨rfl, .inr rfl⟩
    next h2 => exact absurd ⟨by simpa using h1, by omega, by omega⟩ h
/-- What is written is read as it was, whatever stands behind. -/
theorem decode_wr {x : Itm} (h : Fits x) (hs : Siz x) (m : List UInt8) : decode (wri x ++ m) = (x, ((wri x).length : Int), 0) := by
  unfold decode
  rw [dec_wr x 8 0 m h.1 hs h.2.1 (by have := h.2.2; omega)]
  simp
/-- What is read is written as it was. -/
theorem decode_cases (l : List UInt8) : (∃ e : Int, (e = 30 ∨ e = 31 ∨ e = 32) ∧ decode l = (.zero, 0, e)) ∨
    ∃ x r, l = wri x ++ r ∧ Fits x ∧ Siz x ∧ decode l = (x, ((wri x).length : Int), 0) := by
  unfold decode
  cases h : dec 8 0 l with
  | error e => exact .inl ⟨e, dec_err 8 _ _ _ h, rfl⟩
  | ok v =>
    obtain ⟨x, p, r⟩ := v
    obtain ⟨h1, h2, h3, h4, h5, h6⟩ := dec_ok 8 0 l x p r (by decide) h
    refine .inr ⟨x, r, h1, ⟨h2, h4, by omega⟩, h3, ?_⟩
    subst h1
    simp
/-- A beginning is short. -/
theorem decode_short {x : Itm} (h : Fits x) (hs : Siz x) (cut : Nat) (hc : cut < (wri x).length) : decode ((wri x).take cut) = (.zero, 0, 30) := by
  unfold decode
  rw [dec_short x 8 0 cut h.1 hs h.2.1 (by have := h.2.2; omega) hc]
theorem wr_pos (x : Itm) : 1 ≤ (wri x).length := by
  obtain ⟨c, r, h, _⟩ := wr_ne x
  rw [h]
  simp

/-! ### Greater numbers -/
theorem be_less : ∀ (k x y : Nat), x < y → y < 256 ^ k → Op.bytesLess (be x k) (be y k) = true
  | 0, x, y, h, hy => by simp at hy; omega
  | k + 1, x, y, h, hy => by
    rw [Nat.pow_succ] at hy
    rw [be_succ, be_succ, bl_snoc _ _ _ _ (by rw [be_length, be_length])]
    by_cases e : x / 256 = y / 256
    · have hlt : (UInt8.ofNat x < UInt8.ofNat y) := by
        rw [UInt8.lt_iff_toNat_lt, UInt8.toNat_ofNat', UInt8.toNat_ofNat']
        omega
      rw [e]
      simp [hlt]
    · rw [be_less k _ _ (by omega) (by omega)]
      rfl
theorem hsz_mono (a b : Nat) (h : a < b) : hsz a ≤ hsz b := by unfold hsz; repeat' (split <;> try omega)
theorem hd_less (m a b : Nat) (hm : m ≤ 7) (h : a < b) (hb : b < 18446744073709551616) :
    ((hd m a).length < (hd m b).length) ∨ ((hd m a).length = (hd m b).length ∧ Op.bytesLess (hd m a) (hd m b) = true) := by
  rw [hd_len, hd_len]
  rcases Nat.lt_or_ge (hsz a) (hsz b) with h1 | h1
  · exact .inl (by omega)
  · have e : hsz a = hsz b := Nat.le_antisymm (hsz_mono a b h) h1
    refine .inr ⟨by omega, ?_⟩
    unfold hd
    rcases Nat.lt_or_ge b 24 with h2 | h2
    · have eb : hlow b = b := by unfold hlow; rw [if_pos h2]
      have ea : hlow a = a := by unfold hlow; rw [if_pos (by omega)]
      have hlt : UInt8.ofNat (32 * m + a) < UInt8.ofNat (32 * m + b) := by
        rw [UInt8.lt_iff_toNat_lt, byte_nat _ (by omega), byte_nat _ (by omega)]
        omega
      rw [ea, eb, Op.bytesLess, decide_eq_true hlt]
      rfl
    · have hal : 24 ≤ a := by
        rcases Nat.lt_or_ge a 24 with h3 | h3
        · obtain ⟨g, _, _⟩ := hsz_low b h2
          unfold hsz at e
          rw [if_pos h3] at e
          have hp : 0 < 2 ^ (hlow b - 24) := Nat.pow_pos (by decide)
          unfold hsz at g
          omega
        · exact h3
      have el : hlow a = hlow b := by
        obtain ⟨g1, g2, _⟩ := hsz_low a hal
        obtain ⟨g3, g4, _⟩ := hsz_low b h2
        have := (Nat.pow_right_inj (a := 2) (by decide)).1 (g1.symm.trans (e.trans g3))
        omega
      rw [el, e, Op.bytesLess, be_less _ _ _ h (hsz_bd b hb h2)]
      simp
end Go.Proofs.YtanbjifdcplmnaaGreatDoor
/- Slices of bytes that a call made and may append to ('Ob'), and the built-in append onto them, whatever the source: nil, empty or not. No program's number stands here. -/
namespace Go.Proofs.YtanbjifdcplmnaaGreatDoor
open Go.RowKit

theorem bv_one (l : List UInt8) : ∀ u ∈ l.map bv, u.oneCell' = true := by
  intro u hu
  obtain ⟨x, _, rfl⟩ := List.mem_map.1 hu
  rfl

/-- A slice value of the call's own that holds l: nil and l empty, or at the head of a row of its own in a block from base on. -/
def Ob (w : World) (base : Nat) (t : TypeId) (v : Value) (l : List UInt8) : Prop := w.ownsRow base t 1 v l.length (l.map bv)

section
variable {w w' : World} {base : Nat} {t : TypeId} {v : Value} {l : List UInt8}
theorem Ob.nil_ (w : World) (base : Nat) (t : TypeId) : Ob w base t (.slice none 0 0) [] := World.ownsRow_nil w base t 1
theorem Ob.lit (w : World) (l : List UInt8) (cs : Array Value) (hcs : cs = (l.map bv).toArray) (hb : base ≤ w.heap.size) (n : Nat) (hn : l.length = n) (hm : n ≤ maxLen) : Ob (w.alloc (.cells cs t)) base t (.slice (some ⟨w.heap.size, 0, none⟩) n n) l := by
  subst hcs hn
  have h := World.ownsRow_lit (e := t) (size := 1) w (l.map bv).toArray l.length hb hm (by simp)
  exact h
theorem Ob.alloc (h : Ob w base t v l) (o : Obj) : Ob (w.alloc o) base t v l := World.ownsRow.alloc h o
theorem Ob.drew (h : Ob w base t v l) : Ob w.drew base t v l := h
theorem Ob.kept {row : Option Nat} (h : Ob w base t v l) (hg : w.grownBy w' row) (hne : v.ownBlock = none ∨ v.ownBlock ≠ row) : Ob w' base t v l := World.ownsRow.kept h hg hne
theorem Ob.below (h : Ob w base t v l) (hb : Below w.heap.size w w') : Ob w' base t v l :=
  World.ownsRow.kept h (row := none) ⟨hb.os, hb.tape, hb.output, hb.size, fun k hk _ => hb.block k hk⟩ (by cases v.ownBlock <;> simp)
/-- What it reads as. -/
theorem Ob.rd (h : Ob w base t v l) : ∃ (A : Option Addr) (c : Nat), v = .slice A l.length c ∧ l.length ≤ c ∧ c ≤ maxLen ∧ Rd w w.heap.size A l.length l := by
  rcases h.2 with ⟨hv, h0⟩ | ⟨g, cap, cur, hv, _, hg, hn, hm, _⟩
  · have e : l = [] := List.eq_nil_of_length_eq_zero h0
    subst e
    exact ⟨none, 0, hv, Nat.le_refl _, by decide, Rd.nil_⟩
  · refine ⟨some ⟨g, 0, none⟩, cap, hv, hn, hm, rfl, fun h0 => ⟨g, 0, rfl, ?_, fun i hi => ?_⟩⟩
    · have hb : v.ownBlock = some g := by rw [hv]; rfl
      exact (World.ownsRow.lt h g hb).2
    · have hc := World.ownsRow.cells h (g := g) (by rw [hv]; rfl) i (bv l[i]) (by simp [hi])
      simp only [List.getD, List.getElem?_eq_getElem hi]
      unfold Addr.add at hc
      by_cases h0 : i = 0
      · subst h0; simpa [bv] using hc
      · rw [if_neg h0] at hc; simpa [bv] using hc
end

section
variable {w w' : World} {base : Nat} {t : TypeId} {v : Value} {l : List UInt8}
/-- Where it is not empty. -/
theorem Ob.form (h : Ob w base t v l) (h0 : 0 < l.length) : ∃ g cap, v = .slice (some ⟨g, 0, none⟩) l.length cap ∧ base ≤ g ∧ g < w.heap.size ∧ l.length ≤ cap := by
  rcases h.2 with ⟨_, hn⟩ | ⟨g, cap, cur, hv, hbg, _, hn, _⟩
  · omega
  · exact ⟨g, cap, hv, hbg, (World.ownsRow.lt h g (by rw [hv]; rfl)).2, hn⟩
theorem Ob.rd_ {A : Option Addr} {n cap : Nat} (h : Ob w base t (.slice A n cap) l) : l.length = n ∧ Rd w w.heap.size A n l ∧ n ≤ cap ∧ cap ≤ maxLen := by
  obtain ⟨A2, c2, hv, hc, hm, hr⟩ := h.rd
  injection hv with h1 h2 h3
  subst h1 h2 h3
  exact ⟨rfl, hr, hc, hm⟩
variable {g cap n : Nat}
theorem Ob.cell (h : Ob w base t (.slice (some ⟨g, 0, none⟩) n cap) l) (hn : l.length = n) {j : Nat} (hj : j < n) : w.cell? ⟨g, j, none⟩ = some (.int .u8 ((l.getD j 0).toNat : Int)) := by
  subst hn
  have := World.ownsRow.cellAt h j (by omega)
  rw [this]
  simp [List.getD, hj, bv]
theorem Ob.frozen (h : Ob w base t (.slice (some ⟨g, 0, none⟩) n cap) l) (hn : l.length = n) (j : Nat) : w.frozen? ⟨g, j, none⟩ = false := by
  subst hn
  exact World.ownsRow.frozenAt h j
theorem Ob.stored (h : Ob w base t (.slice (some ⟨g, 0, none⟩) n cap) l) (hn : l.length = n) (j : Nat) (x : UInt8) {u : Value} (hu : u = .int .u8 (x.toNat : Int)) : Ob (w.setCell ⟨g, j, none⟩ u) base t (.slice (some ⟨g, 0, none⟩) n cap) (l.set j x) := by
  subst hn hu
  have := World.ownsRow.stored h j (bv x)
  unfold Ob
  rw [List.length_set, List.map_set]
  exact this.1
end

section
variable {P : Program} (w : World)

theorem run_app_none (base : Nat) (t ty e : TypeId) (i : TypeInfo) (ht : P.underlying t = some (.slice e)) (hi : P.info? e = some i) (v : Value) (l : List UInt8) (hown : Ob w base e v l) (c : Nat) :
    (Builtin.append_ #[t, t] ty #[v, .slice none 0 c]).run P w = .ok v w := by
  rcases hown.2 with ⟨rfl, hn⟩ | ⟨g, cap, cur, rfl, _, _, hnc, _⟩
  · simp [Builtin.append_, run_underlying ht, sizeOf, typeInfo, hi, Builtin.lenOf, Builtin.firstCells]
  · simp [Builtin.append_, run_underlying ht, sizeOf, typeInfo, hi, Builtin.lenOf, Builtin.firstCells, hnc, storeCells]

/-- append onto an own slice: some value, some world, in which it holds both. -/
theorem run_app (base : Nat) (t ty e : TypeId) (ht : P.underlying t = some (.slice e)) (hinfo : (P.info? e).map (fun i => (i.zero, i.size, i.bytes)) = some (some (.int .u8 0), 1, 1))
    (v : Value) (l : List UInt8) (hown : Ob w base e v l) (B : Nat) (A : Option Addr) (m c : Nat) (news : List UInt8) (hr : Rd w B A m news) (hbound : l.length + m ≤ 140737488355328) (hbase : base ≤ w.heap.size) :
    ∃ v' w', (Builtin.append_ #[t, t] ty #[v, .slice A m c]).run P w = .ok v' w' ∧ Ob w' base e v' (l ++ news) ∧ w.grownBy w' v.ownBlock ∧ (v'.ownBlock = v.ownBlock ∨ v'.ownBlock = some w.heap.size) := by
  obtain ⟨i, hi, hzz⟩ := Option.map_eq_some_iff.1 hinfo
  simp only [Prod.mk.injEq] at hzz
  obtain ⟨hz, hs, hb⟩ := hzz
  have hlen := hr.1
  rcases A with _ | ad
  · have h0 : m = 0 := by
      rcases Nat.eq_zero_or_pos m with h | h
      · exact h
      · obtain ⟨_, _, h', _⟩ := hr.2 h
        cases h'
    subst h0
    have hn : news = [] := List.eq_nil_of_length_eq_zero hlen
    subst hn
    exact ⟨v, w, run_app_none w base t ty e i ht hi v l hown c, by simpa using hown, World.grownBy.refl w _, .inl rfl⟩
  · have hcells : ∀ j u, (news.map bv)[j]? = some u → w.cell? (ad.add j) = some u := by
      intro j u hu
      rcases Nat.eq_zero_or_pos m with h0 | h0
      · have hn : news = [] := List.eq_nil_of_length_eq_zero (by omega)
        subst hn
        simp at hu
      · obtain ⟨b, o, e1, _, hc⟩ := hr.2 h0
        injection e1 with e1
        subst e1
        have hj : j < news.length := by
          rcases Nat.lt_or_ge j news.length with h | h
          · exact h
          · rw [List.getElem?_eq_none (by simpa using h)] at hu; cases hu
        have h := hc j (by omega)
        have ea : (⟨b, o, none⟩ : Addr).add j = ⟨b, o + j, none⟩ := by unfold Addr.add; split <;> simp_all
        rw [ea, h, ← hu]
        simp [List.getD, hj, bv]
    obtain ⟨v', w', hrun, h2, h3, _, h5⟩ := run_append_own_at (P := P) w base t ty e i (.int .u8 0) 1 1 ht hi hz hs hb rfl (by decide) v l.length (l.map bv) hown ad m c (news.map bv) (by simp [hlen]) hcells (bv_one news)
      (by unfold maxLen; omega) (by omega) hbase
    refine ⟨v', w', hrun, ?_, h3, h5⟩
    unfold Ob
    rw [List.length_append, hlen, List.map_append]
    exact h2

/-- As a law for 'go_wp2_with (at_builtin; refine wpList_app ..)'. -/
theorem wpList_app {w : World} {ops : Array Oper} {rest : List Oper} {o : Oper} {a : Act} {Q : Exit → Act → World → Prop} (hgd : o.guard = none) (s x : Operand) (t : TypeId)
    (ho : o.op = .call { callee := .builtin .append, args := #[s, x], argTypes := #[t, t] })
    (base : Nat) (e : TypeId) (ht : P.underlying t = some (.slice e)) (hinfo : (P.info? e).map (fun i => (i.zero, i.size, i.bytes)) = some (some (.int .u8 0), 1, 1))
    (v : Value) (l : List UInt8) (hs : a.eval s = v) (hown : Ob w base e v l) (B : Nat) (A : Option Addr) (m c : Nat) (news : List UInt8) (hx : a.eval x = .slice A m c) (hr : Rd w B A m news)
    (hbound : l.length + m ≤ 140737488355328) (hbase : base ≤ w.heap.size)
    (h : ∀ v' w', Ob w' base e v' (l ++ news) → w.grownBy w' v.ownBlock → (v'.ownBlock = v.ownBlock ∨ v'.ownBlock = some w.heap.size) → wpList P ops Q rest (a.put o.dst v') w') : wpList P ops Q (o :: rest) a w := by
  refine wpList_plain hgd fun K hK => ?_
  obtain ⟨v', w', hrun, h2, h3, h4⟩ := run_app (P := P) w base t o.type e ht hinfo v l hown B A m c news hr hbound hbase
  unfold Oper.wp execOp
  simp only [ho, resolve, invoke, builtin, Sem.run_bind, Sem.run_pure, Result.andThen_ok, List.map_toArray, List.map_cons, List.map_nil, hs, hx, hrun]
  exact hK _ _ (h v' w' h2 h3 h4)

theorem le_alloc (w : World) (o : Obj) : w.heap.size ≤ (w.alloc o).heap.size := by simp

/-- The same, with what is left as it was told by 'Below': nothing ahead of block base has changed. -/
theorem wpList_appB {w : World} {ops : Array Oper} {rest : List Oper} {o : Oper} {a : Act} {Q : Exit → Act → World → Prop} (hgd : o.guard = none) (s x : Operand) (t : TypeId)
    (ho : o.op = .call { callee := .builtin .append, args := #[s, x], argTypes := #[t, t] })
    (base : Nat) (e : TypeId) (ht : P.underlying t = some (.slice e)) (hinfo : (P.info? e).map (fun i => (i.zero, i.size, i.bytes)) = some (some (.int .u8 0), 1, 1))
    (v : Value) (l : List UInt8) (hs : a.eval s = v) (hown : Ob w base e v l) (B : Nat) (A : Option Addr) (m c : Nat) (news : List UInt8) (hx : a.eval x = .slice A m c) (hr : Rd w B A m news)
    (hbound : l.length + m ≤ 140737488355328) (hbase : base ≤ w.heap.size)
    (h : ∀ v' w', Ob w' base e v' (l ++ news) → Below base w w' → wpList P ops Q rest (a.put o.dst v') w') : wpList P ops Q (o :: rest) a w :=
  wpList_app hgd s x t ho base e ht hinfo v l hs hown B A m c news hx hr hbound hbase fun v' w' h1 h2 _ =>
    h v' w' h1 ⟨h2.os, h2.tape, h2.output, h2.size, fun k hk => h2.block k (by omega) (fun e => by have := (World.ownsRow.lt hown k e.symm).1; omega)⟩
end
end Go.Proofs.YtanbjifdcplmnaaGreatDoor
/- What Put of layer 1's reference, and Head of layer 3's, return: slices of the call's own. -/
namespace Go.Proofs.YtanbjifdcplmnaaGreatDoor
open Go.RowKit

/-- A call gives back a slice of its own that reads as l, and leaves what was there. -/
def GivesO (t : TypeId) (l : List UInt8) (w : World) (e : Ending) (w' : World) : Prop := ∃ v, e = .returned v ∧ Ob w' w.heap.size t v l ∧ Below w.heap.size w w'

theorem be_take (x n k : Nat) (hk : k < n) : (be x n).take (k + 1) = (be x n).take k ++ [UInt8.ofNat (x / 256 ^ (n - 1 - k))] := by
  rw [take_more _ _ (by rw [be_length]; exact hk)]
  simp [be, List.getD, hk]
theorem one_byte (x : Int) (h0 : 0 ≤ x) (s : Nat) : #[Value.int .u8 (x / 2 ^ (8 * s) % 256)] = (([UInt8.ofNat (x.toNat / 256 ^ s)] : List UInt8).map fun u => Value.int .u8 (u.toNat : Int)).toArray := by
  rw [byte_at_pow x h0 s]; rfl

set_option maxRecDepth 100000 in
set_option maxHeartbeats 1000000 in
theorem rput_any (x : Int) (n : Nat) (w : World) (hx0 : 0 ≤ x) (_hx1 : x < 18446744073709551616) (hn : n ≤ 8) :
    Calls Tryz.prog 106 #[.int .u64 x, .int .i64 (n : Int)] w (GivesO 5 (be x.toNat n) w) := by
  rcases Nat.eq_zero_or_pos n with h0 | h0
  · subst h0
    go_enter Tryz.func106, Tryz.ntmps106
    go_wp2
    go_ret
    exact ⟨_, rfl, Ob.nil_ _ _ _, Below.refl _ _⟩
  · go_enter Tryz.func106, Tryz.ntmps106
    go_wp2
    go_loopw [5, 6] (fun v i wr => ∃ r : Nat, r ≤ n ∧ i = .int .i64 ((r : Int) - 1) ∧ Hid (Ob wr w.heap.size 5 v ((be x.toNat n).take (n - r))) ∧ Hid (Below w.heap.size w wr)) (fun _ i _ => ((intOf i) + 1).toNat)
    case atStart => exact ⟨n, Nat.le_refl _, rfl, by rw [Nat.sub_self, List.take_zero]; exact Ob.nil_ _ _ _, Below.refl _ _⟩
    case round =>
      obtain ⟨r, hr, rfl, hob, hbel⟩ := hrel
      by_cases hlt : 0 < r
      · obtain ⟨q, rfl⟩ : ∃ q, r = q + 1 := ⟨r - 1, by omega⟩
        obtain ⟨X, hX⟩ : ∃ X, X = UInt8.ofNat (x.toNat / 256 ^ q) := ⟨_, rfl⟩
        have hbd : ((be x.toNat n).take (n - (q + 1))).length + 1 ≤ 140737488355328 := by rw [List.length_take, be_length]; omega
        have HBD := Lib.hid hbd
        have hbz : w.heap.size ≤ wr.heap.size := hbel.out.size
        have HBZ := Lib.hid hbz
        have HX := Lib.hid hX
        have e1 : ((q + 1 : Nat) : Int) - 1 = (q : Int) := by omega
        rw [e1]
        clear hX hbd hbz e1
        go_wp2_with (first
          | (at_builtin; refine wpList_appB rfl (.tmp 17) (.tmp 24) 22 rfl w.heap.size 5 Tryz.underlying22 info_u8 _ _ rfl (hob.out.alloc _) _ _ 1 1 [X] rfl (Rd.lit wr _ rfl [X] _ _ (by rw [HX.out]; exact one_byte x hx0 q) 1 rfl) HBD.out (Nat.le_trans HBZ.out (le_alloc _ _)) ?_; intro v1 w1 ho1 hb1; have O1 := Lib.hid ho1; have B1 := Lib.hid hb1; clear ho1 hb1)
          | fail)
        go_roundw
        case rel =>
          refine ⟨q, by omega, rfl, ?_, (((hbel.out).alloc HBZ.out _).trans B1.out)⟩
          have e := be_take x.toNat n (n - (q + 1)) (by omega)
          rw [show n - (q + 1) + 1 = n - q by omega, show n - 1 - (n - (q + 1)) = q by omega, ← HX.out] at e
          show Ob _ _ _ _ _
          rw [e]
          exact O1.out
        case measure => simp [intOf]
      · obtain rfl : r = 0 := by omega
        have ho := hob.out
        rw [Nat.sub_zero, List.take_of_length_le (by rw [be_length]; exact Nat.le_refl _)] at ho
        have HO := Lib.hid ho
        clear ho
        go_wp2_with fail
        go_ret
        exact ⟨_, rfl, HO.out, hbel.out⟩

/-- What Head answers. -/
def headB (m : Int) (n : Nat) : List UInt8 := if m < 0 ∨ 7 < m then [] else hd m.toNat n
theorem Ob.weak {w : World} {base base' : Nat} {t : TypeId} {v : Value} {l : List UInt8} (h : Ob w base t v l) (hb : base' ≤ base) : Ob w base' t v l :=
  ⟨h.1, h.2.imp id (fun ⟨g, cap, cur, h1, h2, h3⟩ => ⟨g, cap, cur, h1, Nat.le_trans hb h2, h3⟩)⟩
theorem Ob.rdn {w : World} {base n : Nat} {t : TypeId} {v : Value} {l : List UInt8} (h : Ob w base t v l) (hl : l.length = n) : ∃ (A : Option Addr) (c : Nat), v = .slice A n c ∧ n ≤ c ∧ c ≤ maxLen ∧ Rd w w.heap.size A n l := by
  subst hl
  exact h.rd
theorem head_one (m : Int) (h0 : 0 ≤ m) (h7 : m ≤ 7) (L : Nat) (hL : L ≤ 27) : #[Value.int .u8 (32 * m + (L : Int))] = (([UInt8.ofNat (32 * m.toNat + L)] : List UInt8).map fun u => Value.int .u8 (u.toNat : Int)).toArray := by
  obtain ⟨a, rfl⟩ := Int.eq_ofNat_of_zero_le h0
  simp only [Int.toNat_natCast, List.map_cons, List.map_nil]
  rw [byte_nat _ (by omega)]
  rw [Int.natCast_add, Int.natCast_mul]
  rfl

set_option maxRecDepth 100000 in
set_option maxHeartbeats 1000000 in
theorem rhead_any (m : Int) (n : Nat) (w : World) (_hm : (Lit.int .i64 m).wf = true) (hn : n < 18446744073709551616) :
    Calls Tryz.prog 83 #[.int .i64 m, .int .u64 (n : Int)] w (GivesO 5 (headB m n) w) := by
  by_cases h0 : m < 0
  · rw [headB, if_pos (.inl h0)]
    go_enter Tryz.func83, Tryz.ntmps83
    go_wp2_with fail
    go_ret
    exact ⟨_, rfl, Ob.nil_ _ _ _, Below.refl _ _⟩
  by_cases h7 : 7 < m
  · rw [headB, if_pos (.inr h7)]
    go_enter Tryz.func83, Tryz.ntmps83
    go_wp2_with fail
    go_ret
    exact ⟨_, rfl, Ob.nil_ _ _ _, Below.refl _ _⟩
  · rw [headB, if_neg (by omega), hd]
    have hm0 : 0 ≤ m := by omega
    have hm7 : m ≤ 7 := by omega
    have C1 := Lib.hid (rsize_any n w hn)
    have hl := hlow_le n
    have hz := hsz_le n
    have c2 := fun W => rput_any (n : Int) (hsz n) W (by omega) (by omega) hz
    rw [Int.toNat_natCast] at c2
    have C2 := Lib.hid c2
    clear c2
    have HL := Lib.hid (be_length n (hsz n))
    generalize hsz n = S at *
    generalize hlow n = L at *
    have H1 := Lib.hid (head_one m hm0 hm7 L hl)
    clear h0 h7
    go_enter Tryz.func83, Tryz.ntmps83
    go_wp2_with fail
    refine C1.out.mono ?_
    rintro e w1 ⟨rfl, rfl⟩
    go_wp2_with fail
    refine (C2.out _).mono ?_
    rintro e w1 ⟨v, rfl, ho, hb⟩
    obtain ⟨A, c, rfl, hc, hc2, hr⟩ := ho.rdn HL.out
    have HR := Lib.hid hr
    have HB := Lib.hid hb
    clear ho hr hb
    go_wp2_with (first
      | (at_builtin; go_loud (refine wpList_appB rfl (.tmp 23) (.tmp 26) 22 rfl w.heap.size 5 Tryz.underlying22 info_u8 _ _ rfl ((Ob.lit w [UInt8.ofNat (32 * m.toNat + L)] _ H1.out (Nat.le_refl _) 1 rfl (by decide)).below HB.out) _ _ _ _ _ rfl HR.out (by simp; omega) (Nat.le_trans (le_alloc _ _) HB.out.size) ?_; intro v1 w2 ho1 hb1; have O1 := Lib.hid ho1; have B1 := Lib.hid hb1; clear ho1 hb1))
      | fail)
    go_ret
    exact ⟨_, rfl, O1.out, (((Below.refl _ _).alloc (Nat.le_refl _) _).trans (HB.out.mono (le_alloc _ _))).trans B1.out⟩
end Go.Proofs.YtanbjifdcplmnaaGreatDoor
/- What write of layer 3's reference returns, of a right item. What write of layer 3's reference returns, of every right item. -/
namespace Go.Proofs.YtanbjifdcplmnaaGreatDoor
open Go.RowKit

section
variable {P : Program} {w : World}
/-- append at a step of a region that draws its order. -/
theorem step_appB {ops : Array Oper} {o : Oper} {a : Act} {K : Act → World → Prop} {Q : Exit → Act → World → Prop} {E : Prop} (hgd : o.guard = none) (s x : Operand) (t : TypeId)
    (ho : o.op = .call { callee := .builtin .append, args := #[s, x], argTypes := #[t, t] })
    (base : Nat) (e : TypeId) (ht : P.underlying t = some (.slice e)) (hinfo : (P.info? e).map (fun i => (i.zero, i.size, i.bytes)) = some (some (.int .u8 0), 1, 1))
    (v : Value) (l : List UInt8) (hs : a.eval s = v) (hown : Ob w base e v l) (B : Nat) (A : Option Addr) (m c : Nat) (news : List UInt8) (hx : a.eval x = .slice A m c) (hr : Rd w B A m news)
    (hbound : l.length + m ≤ 140737488355328) (hbase : base ≤ w.heap.size)
    (h : ∀ v' w', Ob w' base e v' (l ++ news) → Below base w w' → K (a.put o.dst v') w') : if Region.wanted o (yielded ops a.tmps) = true then Oper.wp P o a w K Q else E := by
  have hw : Region.wanted o (yielded ops a.tmps) = true := by simp [Region.wanted, hgd]
  rw [if_pos hw]
  obtain ⟨v', w', hrun, h2, h3, h4⟩ := run_app (P := P) w base t o.type e ht hinfo v l hown B A m c news hr hbound hbase
  unfold Oper.wp execOp
  simp only [ho, resolve, invoke, builtin, Sem.run_bind, Sem.run_pure, Result.andThen_ok, List.map_toArray, List.map_cons, List.map_nil, hs, hx, hrun]
  exact h v' w' h2 ⟨h3.os, h3.tape, h3.output, h3.size, fun k hk => h3.block k (by omega) (fun e => by have := (World.ownsRow.lt hown k e.symm).1; omega)⟩
end

set_option maxRecDepth 100000 in
set_option maxHeartbeats 600000 in
theorem rwrite_text (k : Int) (hk : k = 2 ∨ k = 3) (nd cd cl B : Nat) (A AL : Option Addr) (d : List UInt8) (w : World) (hB : B ≤ w.heap.size) (hrd : Rd w B A nd d) (_hc : nd ≤ cd) (hlen : (wri (.mk k 0 d [])).length ≤ 140737488355328) :
    Calls Tryz.prog 59 #[.agg #[.int .i64 k, .int .u64 0, .slice A nd cd, .slice AL 0 cl]] w (GivesO 5 (wri (.mk k 0 d [])) w) := by
  have e : wri (.mk k 0 d []) = hd k.toNat d.length ++ d := by rw [wri, if_neg (by omega), if_pos hk]
  rw [e] at hlen ⊢
  rw [hrd.1] at hlen ⊢
  have hl := hrd.1
  rw [List.length_append, hd_len, hl] at hlen
  have c1 := fun W => rhead_any k nd W (by rcases hk with rfl | rfl <;> decide) (by omega)
  have eh : headB k nd = hd k.toNat nd := by rw [headB, if_neg (by omega)]
  rw [eh] at c1
  have hw : IntKind.u64.wrap (nd : Int) = (nd : Int) := by rw [IntKind.wrap_u64]; omega
  have c2 := c1
  rw [← hw] at c2
  have C1 := Lib.hid c2
  clear hw c2
  have HL := Lib.hid (hd_len k.toNat nd)
  have hz := hsz_le nd
  have HD := Lib.hid hrd
  clear c1 eh e hrd hl
  generalize hd k.toNat nd = H at *
  generalize hsz nd = Z at *
  rcases hk with rfl | rfl
  · go_enter Tryz.func59, Tryz.ntmps59
    go_wp2_with fail
    have f0 : (w.alloc (.cells #[.int .i64 2, .int .u64 0, .slice A nd cd, .slice AL 0 cl] 37)).cell? ⟨w.heap.size, 0, none⟩ = some (.int .i64 2) := by simp
    have f2 : (w.alloc (.cells #[.int .i64 2, .int .u64 0, .slice A nd cd, .slice AL 0 cl] 37)).cell? ⟨w.heap.size, 2, none⟩ = some (.slice A nd cd) := by simp
    have FB := Lib.hid ((Below.refl w.heap.size w).alloc (Nat.le_refl _) (.cells #[.int .i64 2, .int .u64 0, .slice A nd cd, .slice AL 0 cl] 37))
    have FZ : Hid (w.heap.size + 1 ≤ (w.alloc (.cells #[.int .i64 2, .int .u64 0, .slice A nd cd, .slice AL 0 cl] 37)).heap.size) := (by simp : _ ≤ _)
    generalize w.alloc (.cells #[.int .i64 2, .int .u64 0, .slice A nd cd, .slice AL 0 cl] 37) = W0 at *
    have hB0 := Lib.hid hB
    clear hB
    go_region_held3 (fun W => W.cell? ⟨w.heap.size, 0, none⟩ = some (.int .i64 2) ∧ W.cell? ⟨w.heap.size, 2, none⟩ = some (.slice A nd cd))
      (first | (exact ⟨f0, f2⟩) | (exact ⟨(HB.out.cell (p := ⟨w.heap.size, 0, none⟩) FZ.out).trans f0, (HB.out.cell (p := ⟨w.heap.size, 2, none⟩) FZ.out).trans f2⟩) | (exact ⟨(B1.out.cell (p := ⟨w.heap.size, 0, none⟩) (Nat.lt_succ_self _)).trans ((HB.out.cell (p := ⟨w.heap.size, 0, none⟩) FZ.out).trans f0), (B1.out.cell (p := ⟨w.heap.size, 2, none⟩) (Nat.lt_succ_self _)).trans ((HB.out.cell (p := ⟨w.heap.size, 2, none⟩) FZ.out).trans f2)⟩) | fail)
      (first
        | (go_at_call 83; refine (C1.out _).mono ?_; rintro e w1 ⟨v, rfl, ho, hb⟩; have HO := Lib.hid ho; have HB := Lib.hid (((Below.refl W0.heap.size W0).drew).trans hb); clear ho hb)
        | (refine step_appB (by rfl) (.tmp 25) (.tmp 27) 22 (by rfl) (w.heap.size + 1) 5 Tryz.underlying22 info_u8 _ H (by rfl) (HO.out.weak FZ.out) B A nd cd d (by rfl) ((HD.out.below (FB.out.mono hB0.out)).below (HB.out.mono (Nat.le_trans hB0.out (Nat.le_trans (Nat.le_succ _) FZ.out)))) (by rw [HL.out]; omega) (Nat.le_trans FZ.out HB.out.size) ?_; intro v1 w2 ho1 hb1; have O1 := Lib.hid ho1; have B1 := Lib.hid hb1; clear ho1 hb1)
        | fail)
    go_wp2_with fail
    go_ret
    exact ⟨_, rfl, O1.out.weak (Nat.le_succ _), (FB.out.trans (HB.out.mono (Nat.le_trans (Nat.le_succ _) FZ.out))).trans (B1.out.mono (Nat.le_succ _))⟩
  · go_enter Tryz.func59, Tryz.ntmps59
    go_wp2_with fail
    have f0 : (w.alloc (.cells #[.int .i64 3, .int .u64 0, .slice A nd cd, .slice AL 0 cl] 37)).cell? ⟨w.heap.size, 0, none⟩ = some (.int .i64 3) := by simp
    have f2 : (w.alloc (.cells #[.int .i64 3, .int .u64 0, .slice A nd cd, .slice AL 0 cl] 37)).cell? ⟨w.heap.size, 2, none⟩ = some (.slice A nd cd) := by simp
    have FB := Lib.hid ((Below.refl w.heap.size w).alloc (Nat.le_refl _) (.cells #[.int .i64 3, .int .u64 0, .slice A nd cd, .slice AL 0 cl] 37))
    have FZ : Hid (w.heap.size + 1 ≤ (w.alloc (.cells #[.int .i64 3, .int .u64 0, .slice A nd cd, .slice AL 0 cl] 37)).heap.size) := (by simp : _ ≤ _)
    generalize w.alloc (.cells #[.int .i64 3, .int .u64 0, .slice A nd cd, .slice AL 0 cl] 37) = W0 at *
    have hB0 := Lib.hid hB
    clear hB
    go_region_held3 (fun W => W.cell? ⟨w.heap.size, 0, none⟩ = some (.int .i64 3) ∧ W.cell? ⟨w.heap.size, 2, none⟩ = some (.slice A nd cd))
      (first | (exact ⟨f0, f2⟩) | (exact ⟨(HB.out.cell (p := ⟨w.heap.size, 0, none⟩) FZ.out).trans f0, (HB.out.cell (p := ⟨w.heap.size, 2, none⟩) FZ.out).trans f2⟩) | (exact ⟨(B1.out.cell (p := ⟨w.heap.size, 0, none⟩) (Nat.lt_succ_self _)).trans ((HB.out.cell (p := ⟨w.heap.size, 0, none⟩) FZ.out).trans f0), (B1.out.cell (p := ⟨w.heap.size, 2, none⟩) (Nat.lt_succ_self _)).trans ((HB.out.cell (p := ⟨w.heap.size, 2, none⟩) FZ.out).trans f2)⟩) | fail)
      (first
        | (go_at_call 83; refine (C1.out _).mono ?_; rintro e w1 ⟨v, rfl, ho, hb⟩; have HO := Lib.hid ho; have HB := Lib.hid (((Below.refl W0.heap.size W0).drew).trans hb); clear ho hb)
        | (refine step_appB (by rfl) (.tmp 25) (.tmp 27) 22 (by rfl) (w.heap.size + 1) 5 Tryz.underlying22 info_u8 _ H (by rfl) (HO.out.weak FZ.out) B A nd cd d (by rfl) ((HD.out.below (FB.out.mono hB0.out)).below (HB.out.mono (Nat.le_trans hB0.out (Nat.le_trans (Nat.le_succ _) FZ.out)))) (by rw [HL.out]; omega) (Nat.le_trans FZ.out HB.out.size) ?_; intro v1 w2 ho1 hb1; have O1 := Lib.hid ho1; have B1 := Lib.hid hb1; clear ho1 hb1)
        | fail)
    go_wp2_with fail
    go_ret
    exact ⟨_, rfl, O1.out.weak (Nat.le_succ _), (FB.out.trans (HB.out.mono (Nat.le_trans (Nat.le_succ _) FZ.out))).trans (B1.out.mono (Nat.le_succ _))⟩

theorem wrs_app : ∀ (a b : List Itm), wrs (a ++ b) = wrs a ++ wrs b
  | [], b => by rw [wrs]; rfl
  | x :: r, b => by rw [List.cons_append, wrs, wrs, wrs_app r b, List.append_assoc]
theorem wrs_take (l : List Itm) (j : Nat) (h : j < l.length) : wrs (l.take (j + 1)) = wrs (l.take j) ++ wri (l[j]'h) := by
  rw [List.take_succ_eq_append_getElem h, wrs_app, wrs, wrs, List.append_nil]
theorem wrs_take_len (l : List Itm) (j : Nat) : (wrs (l.take j)).length ≤ (wrs l).length := by
  conv => rhs; rw [← List.take_append_drop j l, wrs_app, List.length_append]
  omega
theorem right_get : ∀ {l : List Itm}, rights l = true → ∀ {i : Nat} (hi : i < l.length), right (l[i]'hi) = true
  | [], _, _, hi => absurd hi (Nat.not_lt_zero _)
  | x :: r, h, 0, _ => by rw [rights, Bool.and_eq_true] at h; exact h.1
  | x :: r, h, i + 1, hi => by rw [rights, Bool.and_eq_true] at h; exact right_get h.2 (i := i) (by simpa using hi)

theorem le_one (w : World) (o : Obj) : w.heap.size + 1 ≤ (w.alloc o).heap.size := by simp
/-- The call of write on each smaller item. -/
def WriteIH (m : Nat) : Prop := ∀ (x : Itm) (v : Value) (w : World) (B : Nat), par x < m → right x = true → (wri x).length ≤ 140737488355328 → B ≤ w.heap.size → RdI w B v x →
    Calls Tryz.prog 59 #[v] w (GivesO 5 (wri x) w)

set_option maxRecDepth 100000 in
set_option maxHeartbeats 4000000 in
theorem rwrite_arr4 (m N nd cd cl B : Nat) (A AL : Option Addr) (l : List Itm) (w : World) (hm : 1 + pars l < m + 1) (hB : B ≤ w.heap.size) (hlen : (hd 4 N ++ wrs l).length ≤ 140737488355328) (hrt : rights l = true) (h5 : N ≤ cl ∧ N ≤ 140737488355328)
    (IH : Hid (WriteIH m)) (H7 : Hid (0 < N → ∃ b o, AL = some ⟨b, o, none⟩ ∧ b < B ∧ RdIs w B b o l)) (HL : Hid (l.length = N)) :
    Calls Tryz.prog 59 #[.agg #[.int .i64 4, .int .u64 0, .slice A nd cd, .slice AL N cl]] w (GivesO 5 (hd 4 N ++ wrs l) w) := by
  have C1 := Lib.hid (fun W => rhead_any 4 N W (by decide) (by omega))
  have HH : Hid (headB 4 N = hd 4 N) := by show _ = _; rw [headB, if_neg (by decide)]; rfl
  obtain ⟨H, hH⟩ : ∃ H, H = hd 4 N := ⟨_, rfl⟩
  rw [← hH] at hlen ⊢
  rw [HH.out, ← hH] at C1
  rw [List.length_append] at hlen
  have HRT := Lib.hid hrt
  have HLEN := Lib.hid hlen
  clear hrt hlen HH hH
  go_enter Tryz.func59, Tryz.ntmps59
  go_wp2_with fail
  refine (C1.out _).mono ?_
  rintro e w1 ⟨v, rfl, ho, hb⟩
  have HO := Lib.hid ho
  have HB := Lib.hid hb
  clear ho hb
  go_wp2_with fail
  go_loopw [3, 4] (fun bv i wr => ∃ j : Nat, j ≤ N ∧ i = .int .i64 j ∧ Hid (Ob wr (w.heap.size + 1) 5 bv (H ++ wrs (l.take j))) ∧ Hid (Below (w.heap.size + 1) (w.alloc (.cells #[.int .i64 4, .int .u64 0, .slice A nd cd, .slice AL N cl] 37)) wr))
    (fun _ i _ => N - (intOf i).toNat)
  case atStart => exact ⟨0, Nat.zero_le _, rfl, by show Ob _ _ _ _ _; rw [List.take_zero, wrs, List.append_nil]; exact HO.out.weak (by simp), ((Below.refl _ _).alloc (by simp) _).trans (HB.out.mono (by simp))⟩
  case round =>
    obtain ⟨j, hj, rfl, hob, hbel⟩ := hrel
    have hb3 : wr.cell? ⟨w.heap.size, 3, none⟩ = some (.slice AL N cl) := (hbel.out.cell (p := ⟨w.heap.size, 3, none⟩) (by simp)).trans (by simp)
    have hb0 : wr.cell? ⟨w.heap.size, 0, none⟩ = some (.int .i64 4) := (hbel.out.cell (p := ⟨w.heap.size, 0, none⟩) (by simp)).trans (by simp)
    have hsz : w.heap.size + 1 ≤ wr.heap.size := by have := hbel.out.size; simpa using this
    by_cases hlt : j < N
    · obtain ⟨b, o, rfl, hb, hs⟩ := H7.out (by omega)
      obtain ⟨c0, c1, c2, c3, g0, g1, g2, g3, gx⟩ := hs.get j (by rw [HL.out]; exact hlt)
      have hs' : Below w.heap.size w wr := ((Below.refl _ _).alloc (Nat.le_refl _) _).trans (hbel.out.mono (by omega))
      have e0 : wr.cell? ⟨b, o + j * 4, none⟩ = some c0 := (hs'.cell (p := ⟨b, o + j * 4, none⟩) (by show b < _; omega)).trans g0
      have e1 : wr.cell? ⟨b, o + j * 4 + 1, none⟩ = some c1 := (hs'.cell (p := ⟨b, o + j * 4 + 1, none⟩) (by show b < _; omega)).trans g1
      have e2 : wr.cell? ⟨b, o + j * 4 + 2, none⟩ = some c2 := (hs'.cell (p := ⟨b, o + j * 4 + 2, none⟩) (by show b < _; omega)).trans g2
      have e3 : wr.cell? ⟨b, o + j * 4 + 3, none⟩ = some c3 := (hs'.cell (p := ⟨b, o + j * 4 + 3, none⟩) (by show b < _; omega)).trans g3
      have hjl : j < l.length := by rw [HL.out]; exact hlt
      have htk := wrs_take l j hjl
      have htl := wrs_take_len l (j + 1)
      have hpg : par (l[j]'hjl) ≤ pars l := par_get _
      rw [htk, List.length_append] at htl
      have hll := HLEN.out
      have C1 := Lib.hid (IH.out (l[j]'hjl) _ wr B (by omega) (right_get HRT.out hjl) (by omega) (by omega) (gx.below (hs'.mono hB)))
      have HTK := Lib.hid htk
      have HBD : Hid ((H ++ wrs (l.take j)).length + (wri (l[j]'hjl)).length ≤ 140737488355328) := by show _ ≤ _; rw [List.length_append]; omega
      generalize wri (l[j]'hjl) = WX at *
      clear g0 g1 g2 g3 gx hs hs' htk htl hll hpg
      go_wp2_with fail
      refine C1.out.mono ?_
      rintro e w2 ⟨v2, rfl, ho2, hb2⟩
      obtain ⟨A2, cp2, rfl, hc2, hc3, hr2⟩ := ho2.rd
      have HR2 := Lib.hid hr2
      have HB2 := Lib.hid hb2
      have HZ2 : Hid (w.heap.size + 1 ≤ w2.heap.size) := Nat.le_trans hsz hb2.size
      clear ho2 hr2 hb2 hb3 hb0 e0 e1 e2 e3
      go_wp2_with (first
        | (at_builtin; refine wpList_appB rfl (.tmp 45) (.tmp 51) 22 rfl (w.heap.size + 1) 5 Tryz.underlying22 info_u8 _ _ rfl (hob.out.below HB2.out) _ _ _ _ _ rfl HR2.out HBD.out HZ2.out ?_; intro v3 w3 ho3 hb3; have O3 := Lib.hid ho3; have B3 := Lib.hid hb3; clear ho3 hb3)
        | fail)
      go_roundw
      case rel => exact ⟨j + 1, by omega, by go_num, by show Ob _ _ _ _ _; rw [HTK.out, ← List.append_assoc]; exact O3.out, (hbel.out.trans (HB2.out.mono hsz)).trans B3.out⟩
      case measure => simp [intOf]; omega
    · obtain rfl : j = N := by omega
      have hfin := hob.out
      rw [List.take_of_length_le (by rw [HL.out]; exact Nat.le_refl _)] at hfin
      have HF := Lib.hid hfin
      have HS := Lib.hid (((Below.refl w.heap.size w).alloc (Nat.le_refl _) _).trans (hbel.out.mono (by omega)))
      clear hfin
      go_wp2_with fail
      go_ret
      exact ⟨_, rfl, HF.out.weak (Nat.le_succ _), HS.out⟩

set_option maxRecDepth 100000 in
set_option maxHeartbeats 4000000 in
theorem rwrite_arr5 (m N nd cd cl B : Nat) (A AL : Option Addr) (l : List Itm) (w : World) (hm : 1 + pars l < m + 1) (hB : B ≤ w.heap.size) (hlen : (0x9f :: (wrs l ++ [0xff])).length ≤ 140737488355328) (hrt : rights l = true) (h5 : N ≤ cl ∧ N ≤ 140737488355328)
    (IH : Hid (WriteIH m)) (H7 : Hid (0 < N → ∃ b o, AL = some ⟨b, o, none⟩ ∧ b < B ∧ RdIs w B b o l)) (HL : Hid (l.length = N)) :
    Calls Tryz.prog 59 #[.agg #[.int .i64 5, .int .u64 0, .slice A nd cd, .slice AL N cl]] w (GivesO 5 (0x9f :: (wrs l ++ [0xff])) w) := by
  obtain ⟨H, hH⟩ : ∃ H : List UInt8, H = [0x9f] := ⟨_, rfl⟩
  have hH1 : H.length = 1 := by rw [hH]; rfl
  have eq : 0x9f :: (wrs l ++ [0xff]) = (H ++ wrs l) ++ [0xff] := by rw [hH]; rfl
  rw [eq] at hlen ⊢
  rw [List.length_append, List.length_append] at hlen
  simp only [List.length_cons, List.length_nil] at hlen
  have HRT := Lib.hid hrt
  have HLEN : Hid (H.length + (wrs l).length ≤ 140737488355328) := by show _ ≤ _; omega
  have HFIN : Hid ((H ++ wrs l).length + 1 ≤ 140737488355328) := by show _ ≤ _; rw [List.length_append]; omega
  have HH := Lib.hid hH
  clear hrt hlen hH hH1 eq
  go_enter Tryz.func59, Tryz.ntmps59
  go_wp2_with fail
  go_loopw [3, 4] (fun bv i wr => ∃ j : Nat, j ≤ N ∧ i = .int .i64 j ∧ Hid (Ob wr (w.heap.size + 1) 5 bv (H ++ wrs (l.take j))) ∧ Hid (Below (w.heap.size + 1) (w.alloc (.cells #[.int .i64 5, .int .u64 0, .slice A nd cd, .slice AL N cl] 37)) wr))
    (fun _ i _ => N - (intOf i).toNat)
  case atStart => exact ⟨0, Nat.zero_le _, rfl, by show Ob _ _ _ _ _; rw [List.take_zero, wrs, List.append_nil, HH.out]; have h := Ob.lit (base := w.heap.size + 1) (t := 5) (w.alloc (.cells #[.int .i64 5, .int .u64 0, .slice A nd cd, .slice AL N cl] 37)) [0x9f] #[.int .u8 159] rfl (le_one _ _) 1 rfl (by decide); simpa using h, (Below.refl _ _).alloc (le_one _ _) _⟩
  case round =>
    obtain ⟨j, hj, rfl, hob, hbel⟩ := hrel
    have hb3 : wr.cell? ⟨w.heap.size, 3, none⟩ = some (.slice AL N cl) := (hbel.out.cell (p := ⟨w.heap.size, 3, none⟩) (by simp)).trans (by simp)
    have hb0 : wr.cell? ⟨w.heap.size, 0, none⟩ = some (.int .i64 5) := (hbel.out.cell (p := ⟨w.heap.size, 0, none⟩) (by simp)).trans (by simp)
    have hsz : w.heap.size + 1 ≤ wr.heap.size := by have := hbel.out.size; simpa using this
    by_cases hlt : j < N
    · obtain ⟨b, o, rfl, hb, hs⟩ := H7.out (by omega)
      obtain ⟨c0, c1, c2, c3, g0, g1, g2, g3, gx⟩ := hs.get j (by rw [HL.out]; exact hlt)
      have hs' : Below w.heap.size w wr := ((Below.refl _ _).alloc (Nat.le_refl _) _).trans (hbel.out.mono (by omega))
      have e0 : wr.cell? ⟨b, o + j * 4, none⟩ = some c0 := (hs'.cell (p := ⟨b, o + j * 4, none⟩) (by show b < _; omega)).trans g0
      have e1 : wr.cell? ⟨b, o + j * 4 + 1, none⟩ = some c1 := (hs'.cell (p := ⟨b, o + j * 4 + 1, none⟩) (by show b < _; omega)).trans g1
      have e2 : wr.cell? ⟨b, o + j * 4 + 2, none⟩ = some c2 := (hs'.cell (p := ⟨b, o + j * 4 + 2, none⟩) (by show b < _; omega)).trans g2
      have e3 : wr.cell? ⟨b, o + j * 4 + 3, none⟩ = some c3 := (hs'.cell (p := ⟨b, o + j * 4 + 3, none⟩) (by show b < _; omega)).trans g3
      have hjl : j < l.length := by rw [HL.out]; exact hlt
      have htk := wrs_take l j hjl
      have htl := wrs_take_len l (j + 1)
      have hpg : par (l[j]'hjl) ≤ pars l := par_get _
      rw [htk, List.length_append] at htl
      have hll := HLEN.out
      have C1 := Lib.hid (IH.out (l[j]'hjl) _ wr B (by omega) (right_get HRT.out hjl) (by omega) (by omega) (gx.below (hs'.mono hB)))
      have HTK := Lib.hid htk
      have HBD : Hid ((H ++ wrs (l.take j)).length + (wri (l[j]'hjl)).length ≤ 140737488355328) := by show _ ≤ _; rw [List.length_append]; omega
      generalize wri (l[j]'hjl) = WX at *
      clear g0 g1 g2 g3 gx hs hs' htk htl hll hpg
      go_wp2_with fail
      refine C1.out.mono ?_
      rintro e w2 ⟨v2, rfl, ho2, hb2⟩
      obtain ⟨A2, cp2, rfl, hc2, hc3, hr2⟩ := ho2.rd
      have HR2 := Lib.hid hr2
      have HB2 := Lib.hid hb2
      have HZ2 : Hid (w.heap.size + 1 ≤ w2.heap.size) := Nat.le_trans hsz hb2.size
      clear ho2 hr2 hb2 hb3 hb0 e0 e1 e2 e3
      go_wp2_with (first
        | (at_builtin; refine wpList_appB rfl (.tmp 45) (.tmp 51) 22 rfl (w.heap.size + 1) 5 Tryz.underlying22 info_u8 _ _ rfl (hob.out.below HB2.out) _ _ _ _ _ rfl HR2.out HBD.out HZ2.out ?_; intro v3 w3 ho3 hb3; have O3 := Lib.hid ho3; have B3 := Lib.hid hb3; clear ho3 hb3)
        | fail)
      go_roundw
      case rel => exact ⟨j + 1, by omega, by go_num, by show Ob _ _ _ _ _; rw [HTK.out, ← List.append_assoc]; exact O3.out, (hbel.out.trans (HB2.out.mono hsz)).trans B3.out⟩
      case measure => simp [intOf]; omega
    · obtain rfl : j = N := by omega
      have hfin := hob.out
      rw [List.take_of_length_le (by rw [HL.out]; exact Nat.le_refl _)] at hfin
      have HF := Lib.hid hfin
      have HS := Lib.hid (((Below.refl w.heap.size w).alloc (Nat.le_refl _) _).trans (hbel.out.mono (by omega)))
      clear hfin
      go_wp2_with (first
        | (at_builtin; refine wpList_appB rfl (.tmp 56) (.tmp 57) 22 rfl (w.heap.size + 1) 5 Tryz.underlying22 info_u8 _ _ rfl (HF.out.alloc _) _ _ 1 1 [0xff] rfl (Rd.lit wr _ rfl [0xff] _ _ rfl 1 rfl) HFIN.out (Nat.le_trans hsz (le_alloc _ _)) ?_; intro v3 w3 ho3 hb3; have O3 := Lib.hid ho3; have B3 := Lib.hid hb3; clear ho3 hb3)
        | fail)
      go_ret
      exact ⟨_, rfl, O3.out.weak (Nat.le_succ _), (HS.out.alloc (by omega) _).trans (B3.out.mono (Nat.le_succ _))⟩

set_option maxRecDepth 100000 in
set_option maxHeartbeats 1000000 in
theorem rwrite_uint (n : Nat) (nd cd cl N : Nat) (A AL : Option Addr) (w : World) (hn : n < 18446744073709551616) :
    Calls Tryz.prog 59 #[.agg #[.int .i64 0, .int .u64 (n : Int), .slice A nd cd, .slice AL N cl]] w (GivesO 5 (hd 0 n) w) := by
  have C1 := Lib.hid (fun W => rhead_any 0 n W (by decide) hn)
  have HH : headB 0 n = hd 0 n := by rw [headB, if_neg (by decide)]; rfl
  rw [HH] at C1
  generalize hd 0 n = H at *
  clear HH
  go_enter Tryz.func59, Tryz.ntmps59
  go_wp2_with fail
  refine (C1.out _).mono ?_
  rintro e w1 ⟨v, rfl, ho, hb⟩
  have HO := Lib.hid ho
  have HB := Lib.hid hb
  clear ho hb
  go_wp2_with fail
  go_ret
  exact ⟨_, rfl, HO.out.weak (le_alloc _ _), ((Below.refl _ _).alloc (Nat.le_refl _) _).trans (HB.out.mono (le_alloc _ _))⟩

theorem rwrite_n : ∀ m : Nat, WriteIH m
  | 0 => fun _ _ _ _ h _ _ _ _ => absurd h (Nat.not_lt_zero _)
  | m + 1 => by
    intro x v w B hm hr hlen hB h
    obtain ⟨k, n, d, l⟩ := x
    obtain ⟨A, nd, cd, AL, cl, rfl, h1, h2, h3, h4, h5, h7⟩ := h.open
    rw [right, Bool.and_eq_true] at hr
    rw [par] at hm
    rcases own_kind hr.1 with ⟨rfl, rfl, rfl⟩ | ⟨rfl, rfl, rfl⟩ | ⟨rfl, rfl, rfl, hpl⟩ | ⟨rfl, rfl, rfl⟩ | ⟨rfl, rfl, rfl⟩
    · have e : wri (.mk 0 n [] []) = hd 0 n := by rw [wri, if_pos rfl]
      rw [e]
      exact rwrite_uint n nd cd cl _ A AL w h2
    · exact rwrite_text 2 (.inl rfl) nd cd cl B A AL d w hB h4 h3.1 hlen
    · exact rwrite_text 3 (.inr rfl) nd cd cl B A AL d w hB h4 h3.1 hlen
    · have e : wri (.mk 4 0 [] l) = hd 4 l.length ++ wrs l := by rw [wri, if_neg (by decide), if_neg (by decide), if_pos rfl]
      rw [e] at hlen ⊢
      exact rwrite_arr4 m l.length nd cd cl B A AL l w hm hB hlen hr.2 h5 (rwrite_n m) h7 rfl
    · have e : wri (.mk 5 0 [] l) = 0x9f :: (wrs l ++ [0xff]) := by rw [wri, if_neg (by decide), if_neg (by decide), if_neg (by decide)]
      rw [e] at hlen ⊢
      exact rwrite_arr5 m l.length nd cd cl B A AL l w hm hB hlen hr.2 h5 (rwrite_n m) h7 rfl
end Go.Proofs.YtanbjifdcplmnaaGreatDoor
/- '[]byte(s)' of a string that is no constant: a new slice that reads as its bytes. -/
namespace Go.Proofs.YtanbjifdcplmnaaGreatDoor
open Go.RowKit

theorem conv_bytes (W : World) (s : ByteArray) : ∃ (c : Nat) (W' : World), (convert 9 22 (.string s)).run Tryz.prog W = .ok (.slice (some ⟨W.heap.size, 0, none⟩) s.size c) W' ∧
    Rd W' (W.heap.size + 1) (some ⟨W.heap.size, 0, none⟩) s.size s.data.toList ∧ s.size ≤ c ∧ Below W.heap.size W W' ∧ W'.heap.size = W.heap.size + 1 := by
  refine ⟨_, _, run_bytes_of_string W _ _ 5 s Tryz.underlying9 Tryz.underlying22 Tryz.underlying5, ⟨by simp, fun _ => ⟨_, 0, rfl, Nat.lt_succ_self _, fun i hi => ?_⟩⟩, ?_, ?_, ?_⟩
  · rw [Nat.zero_add]
    have h := World.cell?_alloc_mark W.drew (bytesRow s (grownCap W s.size 0 5)) 5 ((bytesRow s (grownCap W s.size 0 5)).size, (bytesRow s (grownCap W s.size 0 5)).size + 1) i
    refine Eq.trans h ?_
    have hi' : i < s.data.size := hi
    unfold bytesRow
    rw [Array.getElem?_append_left (by simpa using hi')]
    simp only [Array.getElem?_map, Array.getElem?_eq_getElem hi', Option.map_some, List.getD, Array.getElem?_toList, Option.getD_some]
  · exact grownCap_ge W s.size 0 _
  · exact ((Below.refl W.heap.size W).drew).alloc (Nat.le_refl _) _
  · simp
end Go.Proofs.YtanbjifdcplmnaaGreatDoor
/- For code that keeps its state in one block of its own (a reader behind a pointer): worlds with that block rubbed out, and calls that turn that block alone. No program's number stands here but items' (CborI). -/
namespace Go.Proofs.YtanbjifdcplmnaaGreatDoor
open Go.RowKit

/-- What reads in w reads in w', if every cell that is there in w is there in w'. -/
theorem Rd.sub {w w' : World} {B B' n : Nat} {A : Option Addr} {l : List UInt8} (h : Rd w B A n l) (hB : B ≤ B') (hk : ∀ (p : Addr) (u : Value), p.block < B → w.cell? p = some u → w'.cell? p = some u) : Rd w' B' A n l :=
  ⟨h.1, fun hn => by
    obtain ⟨b, o, e, hb, hc⟩ := h.2 hn
    exact ⟨b, o, e, by omega, fun i hi => hk ⟨b, o + i, none⟩ _ hb (hc i hi)⟩⟩
mutual
theorem RdI.sub {w w' : World} {B B' : Nat} (hB : B ≤ B') (hk : ∀ (p : Addr) (u : Value), p.block < B → w.cell? p = some u → w'.cell? p = some u) : ∀ {x : Itm} {v : Value}, RdI w B v x → RdI w' B' v x
  | .mk k n d l, v, h => by
    rw [RdI] at h ⊢
    obtain ⟨A, nd, cd, AL, nl, cl, e, h1, h2, h3, h4, h5, h6, h7⟩ := h
    refine ⟨A, nd, cd, AL, nl, cl, e, h1, h2, h3, h4.sub hB hk, h5, h6, fun h0 => ?_⟩
    obtain ⟨b, o, ea, hb, hs⟩ := h7 h0
    exact ⟨b, o, ea, by omega, RdIs.sub hB hk hb hs⟩
theorem RdIs.sub {w w' : World} {B B' : Nat} (hB : B ≤ B') (hk : ∀ (p : Addr) (u : Value), p.block < B → w.cell? p = some u → w'.cell? p = some u) {b : Nat} (hb : b < B) : ∀ {l : List Itm} {o : Nat}, RdIs w B b o l → RdIs w' B' b o l
  | [], o, _ => by rw [RdIs]; trivial
  | x :: r, o, h => by
    rw [RdIs] at h ⊢
    obtain ⟨⟨c0, c1, c2, c3, g0, g1, g2, g3, gx⟩, hr⟩ := h
    exact ⟨⟨c0, c1, c2, c3, hk ⟨b, o, none⟩ _ hb g0, hk ⟨b, o + 1, none⟩ _ hb g1, hk ⟨b, o + 2, none⟩ _ hb g2, hk ⟨b, o + 3, none⟩ _ hb g3, RdI.sub hB hk gx⟩, RdIs.sub hB hk hb hr⟩
end

/-- The world with block g rubbed out. -/
def rub (g : Nat) (w : World) : World := { w with heap := w.heap.modify g fun _ => .cells #[] 0 }
theorem rub_heap {g k : Nat} {w : World} (h : k ≠ g) : (rub g w).heap[k]? = w.heap[k]? := by
  unfold rub
  simp only [Array.getElem?_modify]
  rw [if_neg (fun e => h e.symm)]
theorem rub_size {g : Nat} {w : World} : (rub g w).heap.size = w.heap.size := by simp [rub]
theorem rub_cell {g : Nat} {w : World} {p : Addr} (h : p.block ≠ g) : (rub g w).cell? p = w.cell? p := World.cell?_of_block (w := w) (rub_heap h)
theorem rub_none {g : Nat} {w : World} {p : Addr} {u : Value} (h : (rub g w).cell? p = some u) : p.block ≠ g := by
  intro e
  have hlt := World.block_lt_of_cell? (rub g w) p h
  have hb : (rub g w).heap[g]? = some (.cells #[] 0) := by
    unfold rub
    simp only [Array.getElem?_modify]
    rw [rub_size, e] at hlt
    simp [hlt]
  unfold World.cell? at h
  rw [e, hb] at h
  simp at h
theorem rub_sub {g : Nat} {w : World} {p : Addr} {u : Value} (h : (rub g w).cell? p = some u) : w.cell? p = some u := by rw [← rub_cell (rub_none h)]; exact h

/-- A call turned block g alone, and made new ones. -/
structure Only (g : Nat) (w w' : World) : Prop where
  os : w'.os = w.os
  tape : w'.tape = w.tape
  output : w'.output = w.output
  size : w.heap.size ≤ w'.heap.size
  block : ∀ k, k < w.heap.size → k ≠ g → w'.heap[k]? = w.heap[k]?
section
variable {g : Nat} {a b c : World}
theorem Only.refl (g : Nat) (w : World) : Only g w w := ⟨rfl, rfl, rfl, Nat.le_refl _, fun _ _ _ => rfl⟩
theorem Only.trans (h : Only g a b) (k : Only g b c) : Only g a c :=
  ⟨k.os.trans h.os, k.tape.trans h.tape, k.output.trans h.output, Nat.le_trans h.size k.size, fun i hi hg => (k.block i (Nat.lt_of_lt_of_le hi h.size) hg).trans (h.block i hi hg)⟩
theorem Only.of_below (h : Below a.heap.size a b) : Only g a b := ⟨h.os, h.tape, h.output, h.size, fun k hk _ => h.block k hk⟩
theorem Only.below (h : Only g a b) (hg : g ≤ a.heap.size) : Below g a b := ⟨h.os, h.tape, h.output, h.size, fun k hk => h.block k (by omega) (by omega)⟩
theorem Only.alloc (h : Only g a b) (o : Obj) : Only g a (b.alloc o) := h.trans (Only.of_below ((Below.refl _ _).alloc (Nat.le_refl _) o))
theorem Only.drew (h : Only g a b) : Only g a b.drew := ⟨h.os, h.tape, h.output, h.size, h.block⟩
theorem Only.setCell (h : Only g a b) {p : Addr} (hp : p.block = g) (u : Value) : Only g a (b.setCell p u) :=
  h.trans ⟨rfl, rfl, rfl, by simp [World.setCell], fun k _ hk => Below.heap_setCell _ _ _ _ (by omega)⟩
theorem Only.cell (h : Only g a b) {p : Addr} (hp : p.block < a.heap.size) (hg : p.block ≠ g) : b.cell? p = a.cell? p := World.cell?_of_block (w := a) (h.block p.block hp hg)
/-- What reads beside block g goes on to. -/
theorem Only.rub_cell (h : Only g a b) {p : Addr} {u : Value} (hp : p.block < a.heap.size) (hc : (rub g a).cell? p = some u) : (rub g b).cell? p = some u := by
  have hg := rub_none hc
  rw [Go.Proofs.YtanbjifdcplmnaaGreatDoor.rub_cell hg, h.cell hp hg]
  exact rub_sub hc
theorem RdI.only {v : Value} {x : Itm} (hr : RdI (rub g a) a.heap.size v x) (h : Only g a b) : RdI (rub g b) b.heap.size v x := hr.sub h.size fun _ _ hp hc => h.rub_cell hp hc
theorem RdIs.only {bl o : Nat} {l : List Itm} (hr : RdIs (rub g a) a.heap.size bl o l) (hb : bl < a.heap.size) (h : Only g a b) : RdIs (rub g b) b.heap.size bl o l := hr.sub h.size (fun _ _ hp hc => h.rub_cell hp hc) hb
theorem Rd.only {A : Option Addr} {n : Nat} {l : List UInt8} (hr : Rd (rub g a) a.heap.size A n l) (h : Only g a b) : Rd (rub g b) b.heap.size A n l := hr.sub h.size fun _ _ hp hc => h.rub_cell hp hc
theorem RdI.unrub {v : Value} {x : Itm} {B : Nat} (hr : RdI (rub g a) B v x) : RdI a B v x := hr.sub (Nat.le_refl _) fun _ _ _ hc => rub_sub hc
theorem Rd.unrub {A : Option Addr} {n B : Nat} {l : List UInt8} (hr : Rd (rub g a) B A n l) : Rd a B A n l := hr.sub (Nat.le_refl _) fun _ _ _ hc => rub_sub hc
/-- What lay below g reads beside it. -/
theorem Rd.rub {A : Option Addr} {n B : Nat} {l : List UInt8} (hr : Rd a B A n l) (hB : B ≤ g) : Rd (Go.Proofs.YtanbjifdcplmnaaGreatDoor.rub g a) B A n l := hr.sub (Nat.le_refl _) fun p _ hp hc => by
  rw [Go.Proofs.YtanbjifdcplmnaaGreatDoor.rub_cell (by omega)]; exact hc
end
end Go.Proofs.YtanbjifdcplmnaaGreatDoor
/- Worlds with some blocks rubbed out, and lists of items in a row of cells. No program's number stands here but items' (CborI). -/
namespace Go.Proofs.YtanbjifdcplmnaaGreatDoor
open Go.RowKit

/-- The world with the blocks of S rubbed out. -/
def mask (S : Nat → Bool) (w : World) : World := { w with heap := w.heap.mapIdx fun i o => if S i then .cells #[] 0 else o }
theorem mask_size {S : Nat → Bool} {w : World} : (mask S w).heap.size = w.heap.size := by simp [mask]
theorem mask_heap {S : Nat → Bool} {w : World} {k : Nat} (h : S k = false) : (mask S w).heap[k]? = w.heap[k]? := by
  unfold mask
  simp only [Array.getElem?_mapIdx, h]
  cases w.heap[k]? <;> simp
theorem mask_cell {S : Nat → Bool} {w : World} {p : Addr} (h : S p.block = false) : (mask S w).cell? p = w.cell? p := World.cell?_of_block (w := w) (mask_heap h)
theorem mask_out {S : Nat → Bool} {w : World} {p : Addr} {u : Value} (h : (mask S w).cell? p = some u) : S p.block = false := by
  rcases hs : S p.block with _ | _
  · rfl
  · exfalso
    have hlt := World.block_lt_of_cell? (mask S w) p h
    rw [mask_size] at hlt
    have hb : (mask S w).heap[p.block]? = some (.cells #[] 0) := by
      unfold mask
      simp only [Array.getElem?_mapIdx]
      simp [hlt, hs]
    unfold World.cell? at h
    rw [hb] at h
    simp at h
theorem mask_sub {S : Nat → Bool} {w : World} {p : Addr} {u : Value} (h : (mask S w).cell? p = some u) : w.cell? p = some u := by rw [← mask_cell (mask_out h)]; exact h
/-- What reads with the blocks of S rubbed out goes on to, in a world where all others stand, with those of S' rubbed out, if these are not among them. -/
theorem mask_go {S S' : Nat → Bool} {w w' : World} {p : Addr} {u : Value} (h : (mask S w).cell? p = some u) (hk : ∀ k, k < w.heap.size → S k = false → w'.heap[k]? = w.heap[k]?) (hs : ∀ k, k < w.heap.size → S k = false → S' k = false) : (mask S' w').cell? p = some u := by
  have ho := mask_out h
  have hc := mask_sub h
  have hlt := World.block_lt_of_cell? w p hc
  rw [mask_cell (hs _ hlt ho), World.cell?_of_block (w := w) (hk _ hlt ho)]
  exact hc
theorem RdI.mask_go {S S' : Nat → Bool} {w w' : World} {B B' : Nat} {v : Value} {x : Itm} (h : RdI (mask S w) B v x) (hB : B ≤ B') (hk : ∀ k, k < w.heap.size → S k = false → w'.heap[k]? = w.heap[k]?) (hs : ∀ k, k < w.heap.size → S k = false → S' k = false) : RdI (mask S' w') B' v x :=
  h.sub hB fun _ _ _ hc => Go.Proofs.YtanbjifdcplmnaaGreatDoor.mask_go hc hk hs
theorem Rd.mask_go {S S' : Nat → Bool} {w w' : World} {B B' n : Nat} {A : Option Addr} {l : List UInt8} (h : Rd (mask S w) B A n l) (hB : B ≤ B') (hk : ∀ k, k < w.heap.size → S k = false → w'.heap[k]? = w.heap[k]?) (hs : ∀ k, k < w.heap.size → S k = false → S' k = false) : Rd (mask S' w') B' A n l :=
  h.sub hB fun _ _ _ hc => Go.Proofs.YtanbjifdcplmnaaGreatDoor.mask_go hc hk hs
theorem RdI.unmask {S : Nat → Bool} {w : World} {B : Nat} {v : Value} {x : Itm} (h : RdI (mask S w) B v x) : RdI w B v x := h.sub (Nat.le_refl _) fun _ _ _ hc => mask_sub hc

/-- Below lo. -/
def lows (lo : Nat) (k : Nat) : Bool := decide (k < lo)
/-- Below lo, or v's own block. -/
def lowsOr (lo : Nat) (v : Value) (k : Nat) : Bool := decide (k < lo) || decide (v.ownBlock = some k)
theorem lows_f {lo k : Nat} : lows lo k = false ↔ lo ≤ k := by unfold lows; simp
theorem lowsOr_f {lo k : Nat} {v : Value} : lowsOr lo v k = false ↔ lo ≤ k ∧ v.ownBlock ≠ some k := by unfold lowsOr; simp

/-- Cells, four an item. -/
def ItC (w : World) (B : Nat) : List Value → List Itm → Prop
  | [], [] => True
  | c0 :: c1 :: c2 :: c3 :: cs, x :: xs => RdI w B (.agg #[c0, c1, c2, c3]) x ∧ ItC w B cs xs
  | _, _ => False
theorem ItC.sub {w w' : World} {B B' : Nat} (hB : B ≤ B') (hk : ∀ (p : Addr) (u : Value), p.block < B → w.cell? p = some u → w'.cell? p = some u) : ∀ {cs : List Value} {xs : List Itm}, ItC w B cs xs → ItC w' B' cs xs
  | [], [], _ => trivial
  | c0 :: c1 :: c2 :: c3 :: cs, x :: xs, h => ⟨h.1.sub hB hk, ItC.sub hB hk h.2⟩
  | [], _ :: _, h => h.elim
  | [_], _, h => by simp [ItC] at h
  | [_, _], _, h => by simp [ItC] at h
  | [_, _, _], _, h => by simp [ItC] at h
  | _ :: _ :: _ :: _ :: _, [], h => h.elim
theorem ItC.mask_go {S S' : Nat → Bool} {w w' : World} {B B' : Nat} {cs : List Value} {xs : List Itm} (h : ItC (mask S w) B cs xs) (hB : B ≤ B') (hk : ∀ k, k < w.heap.size → S k = false → w'.heap[k]? = w.heap[k]?) (hs : ∀ k, k < w.heap.size → S k = false → S' k = false) : ItC (mask S' w') B' cs xs :=
  h.sub hB fun _ _ _ hc => Go.Proofs.YtanbjifdcplmnaaGreatDoor.mask_go hc hk hs
theorem ItC.snoc {w : World} {B : Nat} {c0 c1 c2 c3 : Value} {x : Itm} (hx : RdI w B (.agg #[c0, c1, c2, c3]) x) : ∀ {cs : List Value} {xs : List Itm}, ItC w B cs xs → ItC w B (cs ++ [c0, c1, c2, c3]) (xs ++ [x])
  | [], [], _ => ⟨hx, trivial⟩
  | c0 :: c1 :: c2 :: c3 :: cs, x :: xs, h => ⟨h.1, ItC.snoc hx h.2⟩
  | [], _ :: _, h => h.elim
  | [_], _, h => by simp [ItC] at h
  | [_, _], _, h => by simp [ItC] at h
  | [_, _, _], _, h => by simp [ItC] at h
  | _ :: _ :: _ :: _ :: _, [], h => h.elim
theorem ItC.len {w : World} {B : Nat} : ∀ {cs : List Value} {xs : List Itm}, ItC w B cs xs → cs.length = xs.length * 4
  | [], [], _ => rfl
  | c0 :: c1 :: c2 :: c3 :: cs, x :: xs, h => by have := ItC.len h.2; simp; omega
  | [], _ :: _, h => h.elim
  | [_], _, h => by simp [ItC] at h
  | [_, _], _, h => by simp [ItC] at h
  | [_, _, _], _, h => by simp [ItC] at h
  | _ :: _ :: _ :: _ :: _, [], h => h.elim
/-- Where they lie. -/
theorem ItC.lie {w : World} {B b : Nat} : ∀ {cs : List Value} {xs : List Itm} {o : Nat}, ItC w B cs xs → (∀ j u, cs[j]? = some u → w.cell? ⟨b, o + j, none⟩ = some u) → RdIs w B b o xs
  | [], [], _, _, _ => by rw [RdIs]; trivial
  | c0 :: c1 :: c2 :: c3 :: cs, x :: xs, o, h, hc => by
    rw [RdIs]
    refine ⟨⟨c0, c1, c2, c3, hc 0 c0 rfl, hc 1 c1 rfl, hc 2 c2 rfl, hc 3 c3 rfl, h.1⟩, ItC.lie h.2 fun j u hj => ?_⟩
    rw [show o + 4 + j = o + (j + 4) by omega]
    exact hc (j + 4) u (by simpa using hj)
  | [], _ :: _, _, h, _ => h.elim
  | [_], _, _, h, _ => by simp [ItC] at h
  | [_, _], _, _, h, _ => by simp [ItC] at h
  | [_, _, _], _, _, h, _ => by simp [ItC] at h
  | _ :: _ :: _ :: _ :: _, [], _, h, _ => h.elim
end Go.Proofs.YtanbjifdcplmnaaGreatDoor
/- The plain mathematics of layer 3: an item gone through by a stack of lists. No program's number stands here. -/
namespace Go.Proofs.YtanbjifdcplmnaaGreatDoor

def rall : List (List Itm) → Bool | [] => true | l :: r => rights l && rall r
def sump : List (List Itm) → Nat | [] => 0 | l :: r => pars l + sump r
/-- How deep what lies in a stack's lists is; i: the first list's level. -/
def lev : Nat → List (List Itm) → Nat | _, [] => 0 | i, l :: r => max (i + deps l) (lev (i + 1) r)
theorem rall_snoc : ∀ (a : List (List Itm)) (t : List Itm), rall (a ++ [t]) = (rall a && rights t)
  | [], t => by simp [rall]
  | l :: r, t => by rw [List.cons_append, rall, rall, rall_snoc r t, Bool.and_assoc]
theorem sump_snoc : ∀ (a : List (List Itm)) (t : List Itm), sump (a ++ [t]) = sump a + pars t
  | [], t => by simp [sump]
  | l :: r, t => by rw [List.cons_append, sump, sump, sump_snoc r t]; omega
theorem lev_snoc : ∀ (a : List (List Itm)) (t : List Itm) (i : Nat), lev i (a ++ [t]) = max (lev i a) (i + a.length + deps t)
  | [], t, i => by simp [lev]
  | l :: r, t, i => by rw [List.cons_append, lev, lev, lev_snoc r t, List.length_cons]; omega

/-- What is left of the item x, where p items were taken and the greatest level was D. -/
structure ChkSt (x : Itm) (st : List (List Itm)) (p D : Nat) : Prop where
  rt : right x = rall st
  pr : par x = p + sump st
  dp : dep x = max D (lev 0 st)
  ln : st.length ≤ D + 1
  lp : st.length ≤ p + 1
theorem ChkSt.start (x : Itm) : ChkSt x [[x]] 0 0 := by
  refine ⟨?_, ?_, ?_, ?_, ?_⟩
  · simp [rall, rights]
  · simp [sump, pars]
  · simp [lev, deps]
  · simp
  · simp
theorem ChkSt.pop {x : Itm} {a : List (List Itm)} {p D : Nat} (h : ChkSt x (a ++ [[]]) p D) : ChkSt x a p D := by
  have h1 := h.rt
  have h2 := h.pr
  have h3 := h.dp
  have h4 := h.ln
  have h5 := h.lp
  rw [rall_snoc, rights, Bool.and_true] at h1
  rw [sump_snoc, pars] at h2
  rw [lev_snoc, deps] at h3
  rw [List.length_append, List.length_singleton] at h4 h5
  exact ⟨h1, by omega, by omega, by omega, by omega⟩
theorem ChkSt.bad {x : Itm} {a : List (List Itm)} {p D : Nat} {k : Int} {n : Nat} {d : List UInt8} {l r : List Itm} (h : ChkSt x (a ++ [.mk k n d l :: r]) p D) (ho : own k n d l = false) : right x = false := by
  rw [h.rt, rall_snoc, rights, right, ho]
  simp
theorem own_flat {k : Int} {n : Nat} {d : List UInt8} {l : List Itm} (h : own k n d l = true) (hk : ¬ (k = 4 ∨ k = 5)) : l = [] := by
  unfold own at h
  rw [if_neg hk] at h
  split at h
  · simp at h; exact h.2
  split at h
  · simp at h; exact h.2
  split at h
  · simp at h; exact h.2.1
  · cases h
theorem ChkSt.flat {x : Itm} {a : List (List Itm)} {p D : Nat} {k : Int} {n : Nat} {d : List UInt8} {l r : List Itm} (h : ChkSt x (a ++ [.mk k n d l :: r]) p D) (ho : own k n d l = true) (hk : ¬ (k = 4 ∨ k = 5)) : ChkSt x (a ++ [r]) (p + 1) D := by
  have hl := own_flat ho hk
  subst hl
  have h1 := h.rt
  have h2 := h.pr
  have h3 := h.dp
  have h4 := h.ln
  have h5 := h.lp
  rw [rall_snoc, rights, right, ho, rights, Bool.and_self, Bool.true_and] at h1
  rw [sump_snoc, pars, par, pars] at h2
  rw [lev_snoc, deps, dep, if_neg hk, deps] at h3
  rw [List.length_append, List.length_singleton] at h4 h5
  refine ⟨?_, ?_, ?_, ?_, ?_⟩
  · rw [h1, rall_snoc]
  · rw [sump_snoc]; omega
  · rw [lev_snoc]; omega
  · rw [List.length_append, List.length_singleton]; omega
  · rw [List.length_append, List.length_singleton]; omega
theorem ChkSt.arr {x : Itm} {a : List (List Itm)} {p D : Nat} {k : Int} {n : Nat} {d : List UInt8} {l r : List Itm} (h : ChkSt x (a ++ [.mk k n d l :: r]) p D) (ho : own k n d l = true) (hk : k = 4 ∨ k = 5) : ChkSt x (a ++ [r] ++ [l]) (p + 1) (max D (a.length + 1)) := by
  have h1 := h.rt
  have h2 := h.pr
  have h3 := h.dp
  have h4 := h.ln
  have h5 := h.lp
  rw [rall_snoc, rights, right, ho, Bool.true_and] at h1
  rw [sump_snoc, pars, par] at h2
  rw [lev_snoc, deps, dep, if_pos hk] at h3
  rw [List.length_append, List.length_singleton] at h4 h5
  refine ⟨?_, ?_, ?_, ?_, ?_⟩
  · rw [h1, rall_snoc, rall_snoc]
    cases rall a <;> cases rights r <;> cases rights l <;> rfl
  · rw [sump_snoc, sump_snoc]; omega
  · rw [lev_snoc, lev_snoc, List.length_append, List.length_singleton]; omega
  · rw [List.length_append, List.length_append, List.length_singleton, List.length_singleton]; omega
  · rw [List.length_append, List.length_append, List.length_singleton, List.length_singleton]; omega
theorem ChkSt.left {x : Itm} {a : List (List Itm)} {p D : Nat} {y : Itm} {r : List Itm} (h : ChkSt x (a ++ [y :: r]) p D) : p < par x ∧ D ≤ dep x ∧ a.length ≤ p := by
  have h2 := h.pr
  have h3 := h.dp
  have h5 := h.lp
  rw [sump_snoc, pars] at h2
  rw [List.length_append, List.length_singleton] at h5
  cases y with
  | mk k n d l =>
    rw [par] at h2
    omega
theorem ChkSt.done {x : Itm} {p D : Nat} (h : ChkSt x [] p D) : right x = true ∧ par x = p ∧ dep x = D := by
  have h1 := h.rt
  have h2 := h.pr
  have h3 := h.dp
  rw [rall] at h1
  rw [sump] at h2
  rw [lev] at h3
  exact ⟨h1, by omega, by omega⟩
end Go.Proofs.YtanbjifdcplmnaaGreatDoor
/- What Put returns: the lowest bytes of a number, the highest first, in new memory. -/
namespace Go.Proofs.YtanbjifdcplmnaaGreatDoor
open Go.RowKit

set_option maxRecDepth 100000 in
set_option maxHeartbeats 1000000 in
theorem put_any (x size : Int) (w : World) (hx0 : 0 ≤ x) (_hx1 : x < 18446744073709551616) :
    Calls Tryz.prog 105 #[.int .u64 x, .int .i64 size] w fun e w' =>
      e = .returned (.slice (some ⟨w.heap.size, 0, none⟩) (psz size) (psz size)) ∧ Rb w' w.heap.size 5 (psz size) (be x.toNat (psz size)) ∧ Below w.heap.size w w' := by
  have hsz := psz_eq size
  have hle := psz_le size
  generalize psz size = n at *
  have hmk := fun (w : World) => run_make_row' (P := Tryz.prog) 22 5 (.int .u8 0) 1 rfl info_u8 rfl .i64 .i64 n (by omega) (by omega) w
  go_enter Tryz.func105, Tryz.ntmps105
  go_wp2
  go_loopw [13] (fun i wr => ∃ k : Nat, k ≤ n ∧ i = .int .i64 k ∧ Hid (wr.rowIs w.heap.size 5 n (putRow x.toNat n k)) ∧ Hid (Below w.heap.size w wr))
    (fun i _ => n - (intOf i).toNat)
  case atStart => exact ⟨0, Nat.zero_le _, rfl, (World.rowIs_made _ _ _ _).congr (fun j hj => by simp [putRow]; omega), (Below.refl _ _).alloc (Nat.le_refl _) _⟩
  case round =>
    obtain ⟨k, hk, rfl, hrow, hbel⟩ := hrel
    by_cases hlt : k < n
    · have hf1 : wr.frozen? ⟨w.heap.size, n - 1 - k, none⟩ = false := World.rowIs.frozen hrow.out _
      have hc1 : wr.cell? ⟨w.heap.size, n - 1 - k, none⟩ = some _ := World.rowIs.cell hrow.out (by omega)
      go_wp2_with fail
      go_roundw
      case rel =>
        refine ⟨k + 1, by omega, by go_num, (World.rowIs.set hrow.out _ _).congr fun j hj => ?_, hbel.out.setCell (by simp) _⟩
        exact putRow_step x hx0 n k j hlt hj
      case measure => simp [intOf]; omega
    · obtain rfl : k = n := by omega
      have hr : Rb wr w.heap.size 5 k (be x.toNat k) := hrow.out.congr fun j hj => putRow_end x.toNat k j hj
      have HR := Lib.hid hr
      clear hr
      go_wp2
      go_ret
      exact ⟨rfl, HR.out, hbel.out⟩

end Go.Proofs.YtanbjifdcplmnaaGreatDoor
/- What Head of layer 3 returns. -/
namespace Go.Proofs.YtanbjifdcplmnaaGreatDoor
open Go.RowKit

/-- How far the search for a head's size has come. -/
def HdSt (n c S : Nat) : Prop := (c = 24 ∧ S = 1) ∨ (c = 25 ∧ S = 2 ∧ 256 ≤ n) ∨ (c = 26 ∧ S = 4 ∧ 65536 ≤ n) ∨ (c = 27 ∧ S = 8 ∧ 4294967296 ≤ n)
theorem HdSt.end_ {n c S : Nat} (h : HdSt n c S) (h24 : 24 ≤ n) (hd : 8 ≤ S ∨ n < 2 ^ (8 * S)) : c = hlow n ∧ S = hsz n := by
  unfold hlow hsz
  rcases h with ⟨rfl, rfl⟩ | ⟨rfl, rfl, h1⟩ | ⟨rfl, rfl, h1⟩ | ⟨rfl, rfl, h1⟩ <;> simp at hd
  · rw [if_neg (by omega), if_pos (by omega), if_neg (by omega), if_pos (by omega)]; exact ⟨rfl, rfl⟩
  · rw [if_neg (by omega), if_neg (by omega), if_pos (by omega), if_neg (by omega), if_neg (by omega), if_pos (by omega)]; exact ⟨rfl, rfl⟩
  · rw [if_neg (by omega), if_neg (by omega), if_neg (by omega), if_pos (by omega), if_neg (by omega), if_neg (by omega), if_neg (by omega), if_pos (by omega)]; exact ⟨rfl, rfl⟩
  · rw [if_neg (by omega), if_neg (by omega), if_neg (by omega), if_neg (by omega), if_neg (by omega), if_neg (by omega), if_neg (by omega), if_neg (by omega)]; exact ⟨rfl, rfl⟩
theorem HdSt.next {n c S : Nat} (h : HdSt n c S) (h8 : S < 8) (hd : 2 ^ (8 * S) ≤ n) : HdSt n (c + 1) (S * 2) := by
  unfold HdSt
  rcases h with ⟨rfl, rfl⟩ | ⟨rfl, rfl, h1⟩ | ⟨rfl, rfl, h1⟩ | ⟨rfl, rfl, h1⟩ <;> simp at hd <;> omega
theorem HdSt.bd {n c S : Nat} (h : HdSt n c S) : 24 ≤ c ∧ c ≤ 27 ∧ 1 ≤ S ∧ S ≤ 8 := by
  unfold HdSt at h; omega

theorem or_head (m : Int) (h0 : 0 ≤ m) (h7 : m ≤ 7) (L : Nat) (hL : L < 32) : bits BinOp.or IntKind.u8 (m * 32) (L : Int) = 32 * m + (L : Int) := by
  obtain ⟨a, rfl⟩ := Int.eq_ofNat_of_zero_le h0
  have e : ((a : Int) * 32) = ((2 ^ 5 * a : Nat) : Int) := by rw [Int.natCast_mul]; simp; omega
  rw [e, u8_or_nat _ _ (by omega) (by omega), ← Nat.two_pow_add_eq_or_of_lt (i := 5) (by omega)]
  omega

set_option maxRecDepth 100000 in
set_option maxHeartbeats 1000000 in
theorem khead_any (m : Int) (n : Nat) (w : World) (_hm : (Lit.int .i64 m).wf = true) (hn : n < 18446744073709551616) :
    Calls Tryz.prog 80 #[.int .i64 m, .int .u64 (n : Int)] w (GivesO 5 (headB m n) w) := by
  by_cases h0 : m < 0
  · rw [headB, if_pos (.inl h0)]
    go_enter Tryz.func80, Tryz.ntmps80
    go_wp2_with fail
    go_ret
    exact ⟨_, rfl, Ob.nil_ _ _ _, Below.refl _ _⟩
  by_cases h7 : 7 < m
  · rw [headB, if_pos (.inr h7)]
    go_enter Tryz.func80, Tryz.ntmps80
    go_wp2_with fail
    go_ret
    exact ⟨_, rfl, Ob.nil_ _ _ _, Below.refl _ _⟩
  rw [headB, if_neg (by omega), hd]
  have hm0 : 0 ≤ m := by omega
  have hm7 : m ≤ 7 := by omega
  clear h0 h7
  by_cases h24 : n < 24
  · have e1 : hlow n = n := by unfold hlow; rw [if_pos h24]
    have e2 : hsz n = 0 := by unfold hsz; rw [if_pos h24]
    rw [e1, e2, show be n 0 = [] from rfl]
    have H1 := Lib.hid (head_one m hm0 hm7 n (by omega))
    have H2 := Lib.hid (or_head m hm0 hm7 n (by omega))
    clear e1 e2
    generalize hX : ([UInt8.ofNat (32 * m.toNat + n)] : List UInt8) = X at *
    have HX : Hid (X.length = 1) := by rw [← hX]; rfl
    clear hX
    go_enter Tryz.func80, Tryz.ntmps80
    go_wp2_with fail
    rw [H2.out]
    go_ret
    exact ⟨_, rfl, Ob.lit w X _ H1.out (Nat.le_refl _) 1 HX.out (by decide), (Below.refl _ _).alloc (Nat.le_refl _) _⟩
  · have HS : Hid (24 ≤ n) := (by omega : _ ≤ _)
    obtain ⟨R, hR⟩ : ∃ q, q = hd m.toNat n := ⟨_, rfl⟩
    have e0 : UInt8.ofNat (32 * m.toNat + hlow n) :: be n (hsz n) = R := by rw [hR, hd]
    rw [e0]
    have HR := Lib.hid hR
    clear hR e0
    have hx0 : (0 : Int) ≤ (n : Int) := by omega
    go_enter Tryz.func80, Tryz.ntmps80
    go_wp2_with fail
    go_loopw [6, 7] (fun c s wr => ∃ C S : Nat, HdSt n C S ∧ c = .int .u8 (C : Int) ∧ s = .int .i64 (S : Int) ∧ wr = w) (fun _ s _ => 8 - (intOf s).toNat)
    case atStart => exact ⟨24, 1, .inl ⟨rfl, rfl⟩, rfl, rfl, rfl⟩
    case round =>
      obtain ⟨C, S, hst, rfl, rfl, rfl⟩ := hrel
      obtain ⟨b1, b2, b3, b4⟩ := hst.bd
      have HST := Lib.hid hst
      clear hst
      by_cases h8 : S < 8
      · have h8i : decide ((S : Int) < 8) = true := by simp; omega
        by_cases hdd : n < 2 ^ (8 * S)
        · have hq : (n : Int) / 2 ^ (8 * S) = 0 := by
            have : n / 2 ^ (8 * S) = 0 := Nat.div_eq_of_lt hdd
            exact_mod_cast this
          obtain ⟨E1, E2⟩ := HST.out.end_ HS.out (.inr hdd)
          have eR : [UInt8.ofNat (32 * m.toNat + C)] ++ be n S = R := by rw [HR.out, hd, E1, E2]; rfl
          have HE := Lib.hid eR
          have H1 := Lib.hid (head_one m hm0 hm7 C (by omega))
          have H2 := Lib.hid (or_head m hm0 hm7 C (by omega))
          have c2 := fun W => put_any (n : Int) (S : Int) W hx0 (by omega)
          rw [show psz (S : Int) = S by unfold psz; omega, Int.toNat_natCast] at c2
          have C2 := Lib.hid c2
          have HL := Lib.hid (be_length n S)
          clear E1 E2 eR c2
          go_wp2_with fail
          rw [H2.out]
          refine (C2.out _).mono ?_
          rintro e w1 ⟨rfl, hr, hb⟩
          have hr2 := hr.rd HL.out hr.lt
          rw [show (wr.alloc (.cells #[Value.int IntKind.u8 (32 * m + (C : Int))] 5)).heap.size = wr.heap.size + 1 by simp] at hr2
          have HR2 := Lib.hid hr2
          have HB := Lib.hid hb
          clear hr hr2 hb
          generalize be n S = L at *
          have HX : Hid (([UInt8.ofNat (32 * m.toNat + C)] : List UInt8).length = 1) := rfl
          generalize ([UInt8.ofNat (32 * m.toNat + C)] : List UInt8) = X at *
          go_wp2_with (first
            | (at_builtin; go_loud (refine wpList_appB rfl (.tmp 40) (.tmp 43) 22 rfl wr.heap.size 5 Tryz.underlying22 info_u8 _ _ rfl ((Ob.lit wr X _ H1.out (Nat.le_refl _) 1 HX.out (by decide)).below HB.out) _ _ _ _ _ rfl HR2.out (by rw [HX.out]; omega) (Nat.le_trans (le_alloc _ _) HB.out.size) ?_; intro v1 w2 ho1 hb1; have O1 := Lib.hid ho1; have B1 := Lib.hid hb1; clear ho1 hb1))
            | fail)
          go_ret
          exact ⟨_, rfl, by rw [← HE.out]; exact O1.out, (((Below.refl _ _).alloc (Nat.le_refl _) _).trans (HB.out.mono (le_alloc _ _))).trans B1.out⟩
        · have hq : ¬ (n : Int) / 2 ^ (8 * S) = 0 := by
            have : 0 < n / 2 ^ (8 * S) := Nat.div_pos (by omega) (Nat.pow_pos (by decide))
            intro h
            have h2 : n / 2 ^ (8 * S) = 0 := by exact_mod_cast h
            omega
          go_wp2_with fail
          go_roundw
          case rel => exact ⟨C + 1, S * 2, HST.out.next h8 (by omega), by go_num, by go_num, trivial⟩
          case measure => simp [intOf]; omega
      · have h8i : decide ((S : Int) < 8) = false := by simp; omega
        obtain ⟨E1, E2⟩ := HST.out.end_ HS.out (.inl (by omega))
        have eR : [UInt8.ofNat (32 * m.toNat + C)] ++ be n S = R := by rw [HR.out, hd, E1, E2]; rfl
        have HE := Lib.hid eR
        have H1 := Lib.hid (head_one m hm0 hm7 C (by omega))
        have H2 := Lib.hid (or_head m hm0 hm7 C (by omega))
        have c2 := fun W => put_any (n : Int) (S : Int) W hx0 (by omega)
        rw [show psz (S : Int) = S by unfold psz; omega, Int.toNat_natCast] at c2
        have C2 := Lib.hid c2
        have HL := Lib.hid (be_length n S)
        clear E1 E2 eR c2
        go_wp2_with fail
        rw [H2.out]
        refine (C2.out _).mono ?_
        rintro e w1 ⟨rfl, hr, hb⟩
        have hr2 := hr.rd HL.out hr.lt
        rw [show (wr.alloc (.cells #[Value.int IntKind.u8 (32 * m + (C : Int))] 5)).heap.size = wr.heap.size + 1 by simp] at hr2
        have HR2 := Lib.hid hr2
        have HB := Lib.hid hb
        clear hr hr2 hb
        generalize be n S = L at *
        have HX : Hid (([UInt8.ofNat (32 * m.toNat + C)] : List UInt8).length = 1) := rfl
        generalize ([UInt8.ofNat (32 * m.toNat + C)] : List UInt8) = X at *
        go_wp2_with (first
          | (at_builtin; go_loud (refine wpList_appB rfl (.tmp 40) (.tmp 43) 22 rfl wr.heap.size 5 Tryz.underlying22 info_u8 _ _ rfl ((Ob.lit wr X _ H1.out (Nat.le_refl _) 1 HX.out (by decide)).below HB.out) _ _ _ _ _ rfl HR2.out (by rw [HX.out]; omega) (Nat.le_trans (le_alloc _ _) HB.out.size) ?_; intro v1 w2 ho1 hb1; have O1 := Lib.hid ho1; have B1 := Lib.hid hb1; clear ho1 hb1))
          | fail)
        go_ret
        exact ⟨_, rfl, by rw [← HE.out]; exact O1.out, (((Below.refl _ _).alloc (Nat.le_refl _) _).trans (HB.out.mono (le_alloc _ _))).trans B1.out⟩
theorem chead_any (m : Int) (n : Nat) (w : World) (hm : (Lit.int .i64 m).wf = true) (hn : n < 18446744073709551616) :
    Calls Tryz.prog 80 #[.int .i64 m, .int .u64 (n : Int)] w (Gives (headB m n) w) := by
  refine (khead_any m n w hm hn).mono ?_
  rintro e w' ⟨v, rfl, ho, hb⟩
  obtain ⟨A, c, rfl, hc, _, hr⟩ := ho.rd
  exact ⟨A, _, c, rfl, ho.rd_.1 ▸ hr, hc, hb⟩
end Go.Proofs.YtanbjifdcplmnaaGreatDoor
/- What Get returns: the number of the last eight bytes. -/
namespace Go.Proofs.YtanbjifdcplmnaaGreatDoor
open Go.RowKit

set_option maxRecDepth 100000 in
set_option maxHeartbeats 1000000 in
theorem get_any (A : Option Addr) (n c : Nat) (l : List UInt8) (w : World) (B : Nat) (h : Rd w B A n l) (hn : n ≤ 9223372036854775807) (hc : n ≤ c) (hc2 : c ≤ 9223372036854775807) :
    Calls Tryz.prog 113 #[.slice A n c] w fun e w' => e = .returned (.int .u64 (beNat (l.drop (n - 8)) : Int)) ∧ w = w' := by
  obtain ⟨A', c', hsl, hr⟩ := cut_l (P := Tryz.prog) 22 5 rfl size_u8 c h (max ((n : Int) - 8) 0) (n - 8) (by omega) (by omega) hc
  have hl8 : n - (n - 8) ≤ 8 := by omega
  generalize hm : n - (n - 8) = m at *
  generalize l.drop (n - 8) = L at *
  have HR := Lib.hid hr.2.2
  clear h hc hr
  go_enter Tryz.func113, Tryz.ntmps113
  go_wp2
  go_loop [4, 14] (fun v i => ∃ k : Nat, k ≤ m ∧ i = .int .i64 k ∧ v = .int .u64 (beNat (L.take k) : Int)) (fun _ i => m - (intOf i).toNat)
  case atStart => exact ⟨0, Nat.zero_le _, rfl, by simp [beNat]⟩
  case round =>
    obtain ⟨k, hk, rfl, rfl⟩ := hrel
    by_cases hlt : k < m
    · obtain ⟨b, o, rfl, hb, hcell⟩ := HR.out.2 (by omega)
      obtain ⟨x, hx⟩ : ∃ x, x = L.getD k 0 := ⟨_, rfl⟩
      have hcx : w.cell? ⟨b, o + k, none⟩ = some (.int .u8 (x.toNat : Int)) := by rw [hx]; exact hcell k hlt
      have HC := Lib.hid hcell
      have Hx := Lib.hid hx
      clear hx hcell
      have hx1 : (x.toNat : Int) < 256 := by have := x.toNat_lt; omega
      have hx0 : (0 : Int) ≤ (x.toNat : Int) := by omega
      go_wp2_with fail
      go_round
      case rel =>
        have hl := HR.out.1
        refine ⟨k + 1, by omega, by go_num, ?_⟩
        rw [take_more L k (by omega), ← Hx.out, beNat_snoc, shl_or _ _ hx0 hx1]
        go_num
      case measure => simp [intOf]; omega
    · obtain rfl : k = m := by omega
      have hl := HR.out.1
      have e : L.take k = L := List.take_of_length_le (by omega)
      have HE := Lib.hid e
      clear e hl
      go_wp2
      go_ret
      exact ⟨by rw [HE.out]; rfl, rfl⟩
end Go.Proofs.YtanbjifdcplmnaaGreatDoor
