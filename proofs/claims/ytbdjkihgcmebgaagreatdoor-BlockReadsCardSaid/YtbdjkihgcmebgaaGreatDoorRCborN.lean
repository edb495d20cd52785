/- The plain mathematics of layer 3: what is written is read as it was; what is read is written as it was; beginnings are short. No program's number stands here. -/
import Derived.Test.YtbdjkihgcmebgaaGreatDoorRCborM
namespace Go.Proofs.YtbdjkihgcmebgaaGreatDoor

/-- A right item, by its kind. -/
theorem own_kind {k : Int} {n : Nat} {d : List UInt8} {l : List Itm} (h : own k n d l = true) :
    (k = 0 ∧ d = [] ∧ l = []) ∨ (k = 2 ∧ n = 0 ∧ l = []) ∨ (k = 3 ∧ n = 0 ∧ l = [] ∧ plain d = true) ∨ (k = 4 ∧ n = 0 ∧ d = []) ∨ (k = 5 ∧ n = 0 ∧ d = []) := by
  unfold own at h
  split at h
  next hk => simp at h; exact .inl ⟨hk, h.1, h.2⟩
  next hk =>
  split at h
  next h2 => simp at h; exact .inr (.inl ⟨h2, h.1, h.2⟩)
  next h2 =>
  split at h
  next h3 => simp at h; exact .inr (.inr (.inl ⟨h3, h.1, h.2.1, h.2.2⟩))
  next h3 =>
  split at h
  next h4 =>
    simp at h
    rcases h4 with h4 | h4
    · exact .inr (.inr (.inr (.inl ⟨h4, h.1, h.2⟩)))
    · exact .inr (.inr (.inr (.inr ⟨h4, h.1, h.2⟩)))
  next h4 => cases h

theorem hd_cons (m n : Nat) (r : List UInt8) : hd m n ++ r = UInt8.ofNat (32 * m + hlow n) :: (be n (hsz n) ++ r) := rfl
theorem first_arr (m n : Nat) (hm : m ≤ 4) : arrB (UInt8.ofNat (32 * m + hlow n)) = decide (m = 4) := by
  obtain ⟨h1, h2⟩ := hd_first m n hm
  have h27 := hlow_le n
  have h9 : (UInt8.ofNat (32 * m + hlow n) == 0x9f) = false := by
    rw [beq_eq_false_iff_ne]
    intro e
    rw [e] at h2
    have : (0x9f : UInt8).toNat % 32 = 31 := rfl
    omega
  unfold arrB
  rw [h9, h1, h2]
  by_cases h4 : m = 4 <;> simp [h4, h27]
theorem first_ne (m n : Nat) (hm : m ≤ 4) : UInt8.ofNat (32 * m + hlow n) ≠ 0x9f ∧ UInt8.ofNat (32 * m + hlow n) ≠ 0xff := by
  obtain ⟨h1, h2⟩ := hd_first m n hm
  have h27 := hlow_le n
  constructor
  · intro e; rw [e] at h2; have : (0x9f : UInt8).toNat % 32 = 31 := rfl; omega
  · intro e; rw [e] at h2; have : (0xff : UInt8).toNat % 32 = 31 := rfl; omega

/-- What itemD does at a head. -/
theorem itemD_hd (sub : Nat → List UInt8 → Except Int (Itm × Nat × List UInt8)) (deep : Bool) (p m n : Nat) (r : List UInt8) (hm : m = 0 ∨ m = 2 ∨ m = 3 ∨ m = 4) (hn : n < 18446744073709551616) (hp : p < 4096) (h4 : m = 4 → deep = false) :
    itemD sub deep p (hd m n ++ r) = if m = 0 then .ok (.mk 0 n [] [], p + 1, r) else if m = 4 then (match many sub n (p + 1) r with | .error e => .error e | .ok (xs, p2, l2) => .ok (.mk 4 0 [] xs, p2, l2)) else textD m n (p + 1) r := by
  have hno : ¬ (p = 4096 ∨ (decide (m = 4) = true ∧ deep = true)) := by
    rintro (h | ⟨h, h'⟩)
    · omega
    · rw [h4 (by simpa using h)] at h'; cases h'
  rw [hd_cons, itemD, first_arr m n (by omega), if_neg hno, if_neg (first_ne m n (by omega)).1, ← hd_cons, headD_hd m n r hm hn]
  rfl

mutual
theorem wr_ne : ∀ x : Itm, ∃ c r, wri x = c :: r ∧ c ≠ 0xff
  | .mk k n d l => by
    rw [wri]
    split
    · exact ⟨_, _, rfl, (first_ne 0 n (by decide)).2⟩
    split
    next h => exact ⟨_, _, rfl, (first_ne k.toNat d.length (by omega)).2⟩
    split
    · exact ⟨_, _, rfl, (first_ne 4 l.length (by decide)).2⟩
    · exact ⟨_, _, rfl, by decide⟩
end
theorem wrs_len : ∀ l : List Itm, l.length ≤ (wrs l).length
  | [] => Nat.le_refl _
  | x :: r => by
    obtain ⟨c, t, h, _⟩ := wr_ne x
    have := wrs_len r
    rw [wrs, List.length_append, h]
    simp
    omega

/-! ### There -/
mutual
theorem dec_wr : ∀ (x : Itm) (d p : Nat) (m : List UInt8), right x = true → Siz x → dep x ≤ d → p + par x ≤ 4096 → dec d p (wri x ++ m) = .ok (x, p + par x, m)
  | .mk k n dt l, d, p, m, hr, hs, hd', hp => by
    rw [right, Bool.and_eq_true] at hr
    rw [Siz] at hs
    rw [dep] at hd'
    rw [par] at hp
    obtain ⟨hn, hdl, hll, hss⟩ := hs
    rcases own_kind hr.1 with ⟨rfl, rfl, rfl⟩ | ⟨rfl, rfl, rfl⟩ | ⟨rfl, rfl, rfl, hpl⟩ | ⟨rfl, rfl, rfl⟩ | ⟨rfl, rfl, rfl⟩
    · have e : wri (.mk 0 n [] []) = hd 0 n := by rw [wri, if_pos rfl]
      rw [e]
      cases d with
      | zero => rw [dec, itemD_hd _ _ _ _ _ _ (.inl rfl) hn (by omega) (by omega)]; rfl
      | succ d => rw [dec, itemD_hd _ _ _ _ _ _ (.inl rfl) hn (by omega) (by omega)]; rfl
    · have e : wri (.mk 2 0 dt []) = hd 2 dt.length ++ dt := by rw [wri, if_neg (by decide), if_pos (.inl rfl)]; rfl
      rw [e, List.append_assoc]
      have ht : textD 2 dt.length (p + 1) (dt ++ m) = .ok (.mk 2 0 dt [], p + 1, m) := by
        rw [textD, if_neg (by omega), if_neg (by simp), List.take_left' rfl, List.drop_left' rfl]; rfl
      cases d with
      | zero => rw [dec, itemD_hd _ _ _ _ _ _ (.inr (.inl rfl)) hdl (by omega) (by omega), if_neg (by decide), if_neg (by decide), ht]; rfl
      | succ d => rw [dec, itemD_hd _ _ _ _ _ _ (.inr (.inl rfl)) hdl (by omega) (by omega), if_neg (by decide), if_neg (by decide), ht]; rfl
    · have e : wri (.mk 3 0 dt []) = hd 3 dt.length ++ dt := by rw [wri, if_neg (by decide), if_pos (.inr rfl)]; rfl
      rw [e, List.append_assoc]
      have ht : textD 3 dt.length (p + 1) (dt ++ m) = .ok (.mk 3 0 dt [], p + 1, m) := by
        rw [textD, List.take_left' rfl, if_neg (by rw [hpl]; simp), if_neg (by simp), List.drop_left' rfl]; rfl
      cases d with
      | zero => rw [dec, itemD_hd _ _ _ _ _ _ (.inr (.inr (.inl rfl))) hdl (by omega) (by omega), if_neg (by decide), if_neg (by decide), ht]; rfl
      | succ d => rw [dec, itemD_hd _ _ _ _ _ _ (.inr (.inr (.inl rfl))) hdl (by omega) (by omega), if_neg (by decide), if_neg (by decide), ht]; rfl
    · have e : wri (.mk 4 0 [] l) = hd 4 l.length ++ wrs l := by rw [wri, if_neg (by decide), if_neg (by decide), if_pos rfl]
      rw [e, List.append_assoc]
      cases d with
      | zero => simp at hd'
      | succ d =>
        rw [dec, itemD_hd _ _ _ _ _ _ (.inr (.inr (.inr rfl))) hll (by omega) (fun _ => rfl), if_neg (by decide), if_pos rfl, many_wrs l d (p + 1) m hr.2 hss (by simpa using hd') (by omega)]
        simp only [par]
        congr 3
        omega
    · have e : wri (.mk 5 0 [] l) = 0x9f :: (wrs l ++ [0xff]) := by rw [wri, if_neg (by decide), if_neg (by decide), if_neg (by decide)]
      rw [e, List.cons_append, List.append_assoc, List.singleton_append]
      cases d with
      | zero => simp at hd'
      | succ d =>
        have hf := wrs_len l
        rw [dec, itemD, if_neg (by simp; omega), if_pos rfl, endl_wrs l d (p + 1) _ m hr.2 hss (by simpa using hd') (by omega) (by simp; omega)]
        simp only [par]
        congr 3
        omega
theorem many_wrs : ∀ (l : List Itm) (d p : Nat) (m : List UInt8), rights l = true → Sizs l → deps l ≤ d → p + pars l ≤ 4096 → many (dec d) l.length p (wrs l ++ m) = .ok (l, p + pars l, m)
  | [], d, p, m, _, _, _, _ => by simp [many, wrs, pars]
  | x :: r, d, p, m, hr, hs, hd', hp => by
    rw [rights, Bool.and_eq_true] at hr
    rw [Sizs] at hs
    rw [deps] at hd'
    rw [pars] at hp
    rw [List.length_cons, wrs, List.append_assoc, many, dec_wr x d p _ hr.1 hs.1 (by omega) (by omega)]
    simp only
    rw [many_wrs r d (p + par x) m hr.2 hs.2 (by omega) (by omega)]
    simp only [pars]
    congr 3
    omega
theorem endl_wrs : ∀ (l : List Itm) (d p f : Nat) (m : List UInt8), rights l = true → Sizs l → deps l ≤ d → p + pars l ≤ 4096 → l.length < f → endl (dec d) f p (wrs l ++ (0xff :: m)) = .ok (l, p + pars l, m)
  | [], d, p, f, m, _, _, _, _, hf => by
    cases f with
    | zero => omega
    | succ f => simp [endl, wrs, pars]
  | x :: r, d, p, f, m, hr, hs, hd', hp, hf => by
    rw [rights, Bool.and_eq_true] at hr
    rw [Sizs] at hs
    rw [deps] at hd'
    rw [pars] at hp
    rw [List.length_cons] at hf
    obtain ⟨c, t, hw, hne⟩ := wr_ne x
    cases f with
    | zero => omega
    | succ f =>
      have h1 := dec_wr x d p (wrs r ++ 0xff :: m) hr.1 hs.1 (by omega) (by omega)
      rw [hw, List.cons_append] at h1
      rw [wrs, List.append_assoc, hw, List.cons_append, endl, if_neg hne, h1]
      simp only
      rw [endl_wrs r d (p + par x) f m hr.2 hs.2 (by omega) (by omega) (by omega)]
      simp only [pars]
      congr 3
      omega
end
/-! ### Back -/
/-- What a reader of items keeps. -/
def SubOk (d : Nat) (sub : Nat → List UInt8 → Except Int (Itm × Nat × List UInt8)) : Prop :=
  ∀ p l x p' r, p ≤ 4096 → sub p l = .ok (x, p', r) → l = wri x ++ r ∧ right x = true ∧ Siz x ∧ dep x ≤ d ∧ p' = p + par x ∧ p' ≤ 4096
theorem par_pos : ∀ x : Itm, 1 ≤ par x
  | .mk _ _ _ _ => by rw [par]; omega
theorem pars_len : ∀ l : List Itm, l.length ≤ pars l
  | [] => Nat.le_refl _
  | x :: r => by have := par_pos x; have := pars_len r; rw [pars, List.length_cons]; omega
theorem many_ok {d : Nat} {sub : Nat → List UInt8 → Except Int (Itm × Nat × List UInt8)} (hs : SubOk d sub) : ∀ (n p : Nat) (l : List UInt8) (xs : List Itm) (p' : Nat) (r : List UInt8), p ≤ 4096 → many sub n p l = .ok (xs, p', r) →
    l = wrs xs ++ r ∧ xs.length = n ∧ rights xs = true ∧ Sizs xs ∧ deps xs ≤ d ∧ p' = p + pars xs ∧ p' ≤ 4096
  | 0, p, l, xs, p', r, hp, h => by
    rw [many] at h
    cases h
    exact ⟨rfl, rfl, rfl, trivial, Nat.zero_le _, rfl, hp⟩
  | n + 1, p, l, xs, p', r, hp, h => by
    rw [many] at h
    split at h
    · cases h
    next x p1 l1 h1 =>
    split at h
    · cases h
    next ys p2 l2 h2 =>
    cases h
    obtain ⟨rfl, a2, a3, a4, rfl, a6⟩ := hs _ _ _ _ _ hp h1
    obtain ⟨rfl, b1, b2, b3, b4, rfl, b6⟩ := many_ok hs n _ _ _ _ _ a6 h2
    refine ⟨?_, ?_, ?_, ⟨a3, b3⟩, ?_, ?_, b6⟩
    · rw [wrs, List.append_assoc]
    · rw [List.length_cons, b1]
    · rw [rights, a2, b2]; rfl
    · rw [deps]; omega
    · rw [pars]; omega
theorem endl_ok {d : Nat} {sub : Nat → List UInt8 → Except Int (Itm × Nat × List UInt8)} (hs : SubOk d sub) : ∀ (f p : Nat) (l : List UInt8) (xs : List Itm) (p' : Nat) (r : List UInt8), p ≤ 4096 → endl sub f p l = .ok (xs, p', r) →
    l = wrs xs ++ 0xff :: r ∧ rights xs = true ∧ Sizs xs ∧ deps xs ≤ d ∧ p' = p + pars xs ∧ p' ≤ 4096
  | 0, p, l, xs, p', r, _, h => by rw [endl] at h; cases h
  | f + 1, p, [], xs, p', r, _, h => by rw [endl] at h; cases h
  | f + 1, p, c :: t, xs, p', r, hp, h => by
    rw [endl] at h
    split at h
    next hc =>
      cases h
      subst hc
      exact ⟨rfl, rfl, trivial, Nat.zero_le _, rfl, hp⟩
    next hc =>
    split at h
    · cases h
    next x p1 l1 h1 =>
    split at h
    · cases h
    next ys p2 l2 h2 =>
    cases h
    obtain ⟨e, a2, a3, a4, rfl, a6⟩ := hs _ _ _ _ _ hp h1
    obtain ⟨rfl, b2, b3, b4, rfl, b6⟩ := endl_ok hs f _ _ _ _ _ a6 h2
    refine ⟨?_, ?_, ⟨a3, b3⟩, ?_, ?_, b6⟩
    · rw [e, wrs, List.append_assoc]
    · rw [rights, a2, b2]; rfl
    · rw [deps]; omega
    · rw [pars]; omega
theorem textD_ok {m n p p' : Nat} {r r' : List UInt8} {x : Itm} (hm : m = 2 ∨ m = 3) (hn : n < 18446744073709551616) (h : textD m n p r = .ok (x, p', r')) :
    hd m n ++ r = wri x ++ r' ∧ right x = true ∧ Siz x ∧ dep x = 0 ∧ par x = 1 ∧ p' = p := by
  rw [textD] at h
  split at h
  · cases h
  next h1 =>
  split at h
  · cases h
  next h2 =>
  cases h
  have hl : (r.take n).length = n := by rw [List.length_take]; omega
  have hr : r = r.take n ++ r.drop n := (List.take_append_drop n r).symm
  generalize hd' : r.take n = dt at *
  generalize r.drop n = u at *
  subst hr
  rcases hm with rfl | rfl
  · refine ⟨?_, ?_, ⟨by decide, by omega, by decide, trivial⟩, rfl, rfl, rfl⟩
    · rw [wri, if_neg (by decide), if_pos (.inl rfl), hl, List.append_assoc]; rfl
    · simp [right, rights, own]
  · have hp : plain dt = true := by
      rcases hb : plain dt with _ | _
      · exact absurd ⟨rfl, hb⟩ h1
      · rfl
    refine ⟨?_, ?_, ⟨by decide, by omega, by decide, trivial⟩, rfl, rfl, rfl⟩
    · rw [wri, if_neg (by decide), if_pos (.inr rfl), hl, List.append_assoc]; rfl
    · simp [right, rights, own, hp]
theorem itemD_ok {d : Nat} {sub : Nat → List UInt8 → Except Int (Itm × Nat × List UInt8)} {deep : Bool} (hs : SubOk d sub) : SubOk (if deep then 0 else d + 1) (itemD sub deep) := by
  intro p l x p' r hp h
  cases l with
  | nil => rw [itemD] at h; cases h
  | cons c t =>
  rw [itemD] at h
  split at h
  · cases h
  next h0 =>
  have hp1 : p + 1 ≤ 4096 := by
    rcases Nat.lt_or_ge p 4096 with h7 | h7
    · exact h7
    · exact absurd (.inl (by omega)) h0
  split at h
  next hc =>
    subst hc
    split at h
    · cases h
    next xs p2 l2 h2 =>
    cases h
    obtain ⟨rfl, b2, b3, b4, rfl, b6⟩ := endl_ok hs _ _ _ _ _ _ hp1 h2
    have hd0 : deep = false := by
      rcases deep with _ | _
      · rfl
      · exact absurd (.inr ⟨rfl, rfl⟩) h0
    have hl := pars_len xs
    refine ⟨?_, ?_, ⟨by decide, by decide, ?_, b3⟩, ?_, ?_, ?_⟩
    · rw [wri, if_neg (by decide), if_neg (by decide), if_neg (by decide), List.cons_append, List.append_assoc]; rfl
    · rw [right, b2]; rfl
    · omega
    · subst hd0; rw [dep]; simp; omega
    · rw [par]; omega
    · exact b6
  next hc =>
  split at h
  · cases h
  next m n r1 h1 =>
  obtain ⟨e, hn, hm⟩ := headD_ok h1
  rw [e]
  split at h
  next hm0 =>
    subst hm0
    cases h
    refine ⟨?_, ?_, ⟨hn, by decide, by decide, trivial⟩, ?_, rfl, by omega⟩
    · rw [wri, if_pos rfl]
    · rfl
    · show 0 ≤ _; omega
  next hm0 =>
  split at h
  next hm4 =>
    subst hm4
    split at h
    · cases h
    next xs p2 l2 h2 =>
    cases h
    obtain ⟨rfl, b1, b2, b3, b4, rfl, b6⟩ := many_ok hs _ _ _ _ _ _ hp1 h2
    subst b1
    have hd0 : deep = false := by
      rcases deep with _ | _
      · rfl
      · refine absurd (.inr ⟨?_, rfl⟩) h0
        rw [hd_cons] at e
        cases e
        rw [first_arr 4 _ (by decide)]; rfl
    refine ⟨?_, ?_, ⟨by decide, by decide, hn, b3⟩, ?_, ?_, ?_⟩
    · rw [wri, if_neg (by decide), if_neg (by decide), if_pos rfl, List.append_assoc]
    · rw [right, b2]; rfl
    · subst hd0; rw [dep]; simp; omega
    · rw [par]; omega
    · exact b6
  next hm4 =>
    obtain ⟨a1, a2, a3, a4, a5, rfl⟩ := textD_ok (by omega) hn h
    exact ⟨a1, a2, a3, by omega, by omega, by omega⟩
theorem dec_ok : ∀ d : Nat, SubOk d (dec d)
  | 0 => itemD_ok (deep := true) (d := 0) (fun _ _ _ _ _ _ h => by cases h)
  | d + 1 => itemD_ok (deep := false) (dec_ok d)

/-! ### Beginnings -/
theorem take_app {l r : List UInt8} {k : Nat} (h : l.length ≤ k) : (l ++ r).take k = l ++ r.take (k - l.length) := by
  rw [List.take_append, List.take_of_length_le h]
theorem take_app' {l r : List UInt8} {k : Nat} (h : k ≤ l.length) : (l ++ r).take k = l.take k := by
  rw [List.take_append, show k - l.length = 0 by omega, List.take_zero, List.append_nil]
theorem itemD_short (sub : Nat → List UInt8 → Except Int (Itm × Nat × List UInt8)) (deep : Bool) (p m n cut : Nat) (hm : m = 0 ∨ m = 2 ∨ m = 3 ∨ m = 4) (hp : p < 4096) (h4 : m = 4 → deep = false) (hc : cut < (hd m n).length) :
    itemD sub deep p ((hd m n).take cut) = .error 30 := by
  have hs := headD_short m n hm cut hc
  cases cut with
  | zero => rfl
  | succ j =>
    have e : (hd m n).take (j + 1) = UInt8.ofNat (32 * m + hlow n) :: (be n (hsz n)).take j := rfl
    rw [e] at hs ⊢
    have hno : ¬ (p = 4096 ∨ (decide (m = 4) = true ∧ deep = true)) := by
      rintro (h | ⟨h, h'⟩)
      · omega
      · rw [h4 (by simpa using h)] at h'; cases h'
    rw [itemD, first_arr m n (by omega), if_neg hno, if_neg (first_ne m n (by omega)).1, hs]
theorem plain_take (d : List UInt8) (k : Nat) (h : plain d = true) : plain (d.take k) = true := by
  unfold plain at *
  rw [List.all_eq_true] at *
  exact fun c hc => h c (List.mem_of_mem_take hc)
theorem textD_short (m n p : Nat) (d : List UInt8) (h : d.length < n) (hp : m = 3 → plain d = true) : textD m n p d = .error 30 := by
  rw [textD, List.take_of_length_le (by omega), if_neg (by rintro ⟨h1, h2⟩; rw [hp h1] at h2; cases h2), if_pos h]
mutual
theorem dec_short : ∀ (x : Itm) (d p cut : Nat), right x = true → Siz x → dep x ≤ d → p + par x ≤ 4096 → cut < (wri x).length → dec d p ((wri x).take cut) = .error 30
  | .mk k n dt l, d, p, cut, hr, hs, hd', hp, hc => by
    rw [right, Bool.and_eq_true] at hr
    rw [Siz] at hs
    rw [dep] at hd'
    rw [par] at hp
    obtain ⟨hn, hdl, hll, hss⟩ := hs
    have hdec : ∀ P : (Nat → List UInt8 → Except Int (Itm × Nat × List UInt8)) → Prop, (∀ sub deep, (deps l + (if k = 4 ∨ k = 5 then 1 else 0) = 0 → True) → (k = 4 ∨ k = 5 → deep = false) → P (itemD sub deep)) → P (dec d) := by
      intro P hP
      cases d with
      | zero =>
        rw [dec]
        refine hP _ _ (fun _ => trivial) (fun hk => ?_)
        rw [if_pos hk] at hd'
        omega
      | succ d => rw [dec]; exact hP _ _ (fun _ => trivial) (fun _ => rfl)
    rcases own_kind hr.1 with ⟨rfl, rfl, rfl⟩ | ⟨rfl, rfl, rfl⟩ | ⟨rfl, rfl, rfl, hpl⟩ | ⟨rfl, rfl, rfl⟩ | ⟨rfl, rfl, rfl⟩
    · have e : wri (.mk 0 n [] []) = hd 0 n := by rw [wri, if_pos rfl]
      rw [e] at hc ⊢
      exact hdec (fun D => D p ((hd 0 n).take cut) = .error 30) (fun sub deep _ _ => itemD_short sub deep p 0 n cut (.inl rfl) (by omega) (by omega) hc)
    · have e : wri (.mk 2 0 dt []) = hd 2 dt.length ++ dt := by rw [wri, if_neg (by decide), if_pos (.inl rfl)]; rfl
      rw [e] at hc ⊢
      refine hdec (fun D => D p ((hd 2 dt.length ++ dt).take cut) = .error 30) (fun sub deep _ _ => ?_)
      rcases Nat.lt_or_ge cut (hd 2 dt.length).length with h | h
      · rw [take_app' (by omega)]
        exact itemD_short sub deep p 2 _ cut (.inr (.inl rfl)) (by omega) (by omega) h
      · rw [List.length_append] at hc
        rw [take_app h, itemD_hd _ _ _ _ _ _ (.inr (.inl rfl)) hdl (by omega) (by omega), if_neg (by decide), if_neg (by decide), textD_short _ _ _ _ (by rw [List.length_take]; omega) (by omega)]
    · have e : wri (.mk 3 0 dt []) = hd 3 dt.length ++ dt := by rw [wri, if_neg (by decide), if_pos (.inr rfl)]; rfl
      rw [e] at hc ⊢
      refine hdec (fun D => D p ((hd 3 dt.length ++ dt).take cut) = .error 30) (fun sub deep _ _ => ?_)
      rcases Nat.lt_or_ge cut (hd 3 dt.length).length with h | h
      · rw [take_app' (by omega)]
        exact itemD_short sub deep p 3 _ cut (.inr (.inr (.inl rfl))) (by omega) (by omega) h
      · rw [List.length_append] at hc
        rw [take_app h, itemD_hd _ _ _ _ _ _ (.inr (.inr (.inl rfl))) hdl (by omega) (by omega), if_neg (by decide), if_neg (by decide), textD_short _ _ _ _ (by rw [List.length_take]; omega) (fun _ => plain_take _ _ hpl)]
    · have e : wri (.mk 4 0 [] l) = hd 4 l.length ++ wrs l := by rw [wri, if_neg (by decide), if_neg (by decide), if_pos rfl]
      rw [e] at hc ⊢
      rcases Nat.lt_or_ge cut (hd 4 l.length).length with h | h
      · rw [take_app' (by omega)]
        exact hdec (fun D => D p ((hd 4 l.length).take cut) = .error 30) (fun sub deep _ h4 => itemD_short sub deep p 4 _ cut (.inr (.inr (.inr rfl))) (by omega) (fun _ => h4 (.inl rfl)) h)
      · rw [List.length_append] at hc
        cases d with
        | zero => simp at hd'
        | succ d =>
          rw [take_app h, dec, itemD_hd _ _ _ _ _ _ (.inr (.inr (.inr rfl))) hll (by omega) (fun _ => rfl), if_neg (by decide), if_pos rfl,
            many_short l d (p + 1) _ hr.2 hss (by simpa using hd') (by omega) (by omega)]
    · have e : wri (.mk 5 0 [] l) = 0x9f :: (wrs l ++ [0xff]) := by rw [wri, if_neg (by decide), if_neg (by decide), if_neg (by decide)]
      rw [e] at hc ⊢
      cases cut with
      | zero => exact hdec (fun D => D p [] = .error 30) (fun sub deep _ _ => rfl)
      | succ j =>
        cases d with
        | zero => simp at hd'
        | succ d =>
          rw [List.take_succ_cons, dec, itemD, if_neg (by simp; omega), if_pos rfl, endl_short l d (p + 1) _ j hr.2 hss (by simpa using hd') (by omega) (by simp at hc; omega)]
theorem many_short : ∀ (l : List Itm) (d p cut : Nat), rights l = true → Sizs l → deps l ≤ d → p + pars l ≤ 4096 → cut < (wrs l).length → many (dec d) l.length p ((wrs l).take cut) = .error 30
  | [], d, p, cut, _, _, _, _, hc => absurd hc (Nat.not_lt_zero _)
  | x :: r, d, p, cut, hr, hs, hd', hp, hc => by
    rw [rights, Bool.and_eq_true] at hr
    rw [Sizs] at hs
    rw [deps] at hd'
    rw [pars] at hp
    rw [wrs] at hc ⊢
    rw [List.length_cons, many]
    rcases Nat.lt_or_ge cut (wri x).length with h | h
    · rw [take_app' (by omega), dec_short x d p cut hr.1 hs.1 (by omega) (by omega) h]
    · rw [List.length_append] at hc
      rw [take_app h, dec_wr x d p _ hr.1 hs.1 (by omega) (by omega)]
      simp only
      rw [many_short r d (p + par x) _ hr.2 hs.2 (by omega) (by omega) (by omega)]
theorem endl_short : ∀ (l : List Itm) (d p f cut : Nat), rights l = true → Sizs l → deps l ≤ d → p + pars l ≤ 4096 → cut ≤ (wrs l).length → endl (dec d) f p ((wrs l ++ [0xff]).take cut) = .error 30
  | _, d, p, 0, cut, _, _, _, _, hc => by rw [endl]
  | l, d, p, f + 1, 0, _, _, _, _, hc => by rw [List.take_zero, endl]
  | [], d, p, f + 1, cut + 1, _, _, _, _, hc => by simp [wrs] at hc
  | x :: r, d, p, f + 1, cut + 1, hr, hs, hd', hp, hc => by
    rw [rights, Bool.and_eq_true] at hr
    rw [Sizs] at hs
    rw [deps] at hd'
    rw [pars] at hp
    rw [wrs] at hc ⊢
    obtain ⟨c, t, hw, hne⟩ := wr_ne x
    rcases Nat.lt_or_ge (cut + 1) (wri x).length with h | h
    · have h1 := dec_short x d p (cut + 1) hr.1 hs.1 (by omega) (by omega) h
      rw [hw, List.take_succ_cons] at h1
      rw [List.append_assoc, take_app' (by omega), hw, List.take_succ_cons, endl, if_neg hne, h1]
    · rw [List.length_append] at hc
      have h1 := dec_wr x d p ((wrs r ++ [0xff]).take (cut + 1 - (wri x).length)) hr.1 hs.1 (by omega) (by omega)
      have h2 : endl (dec d) f (p + par x) ((wrs r ++ [0xff]).take (cut + 1 - (wri x).length)) = .error 30 := endl_short r d (p + par x) f _ hr.2 hs.2 (by omega) (by omega) (by omega)
      rw [List.append_assoc, take_app h, hw, List.cons_append, endl, if_neg hne, ← List.cons_append, ← hw, h1]
      simp only
      rw [h2]
end
end Go.Proofs.YtbdjkihgcmebgaaGreatDoor
