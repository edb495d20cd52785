/- Maps of structs keyed by structs, said by a function of the plain key; what a range over one has met. No program's number stands here. -/
import Derived.Maps.RangeWalk
import Derived.Maps.Views
import Derived.KernelRfl
namespace Go.Proofs.Ytkflekaibfkicaa
open Go.RowKit Go.Maps

section
variable {α β : Type} [DecidableEq α] {P : Program} {K : TypeId} {mk : α → Value} {enc : α → β → DataW Unit} {D : DataW Unit} {T : α → Option β}

/-- The datum D holds at each key what T says. -/
structure DatIs (P : Program) (K : TypeId) (mk : α → Value) (enc : α → β → DataW Unit) (D : DataW Unit) (T : α → Option β) : Prop where
  isMap : IsMap D
  at_ : ∀ k kl, keyOf P K (mk k) = some kl → has D kl = (T k).isSome ∧ ∀ v, T k = some v → ∀ zd, D.atKey kl zd = enc k v
  key : ∀ kl, has D kl = true → ∃ k, keyOf P K (mk k) = some kl
  dom : ∀ k, (T k).isSome = true → ∃ kl, keyOf P K (mk k) = some kl

/-- T with v at k. -/
def putT (T : α → Option β) (k : α) (v : β) : α → Option β := fun k' => if k' = k then some v else T k'
/-- T without k. -/
def delT (T : α → Option β) (k : α) : α → Option β := fun k' => if k' = k then none else T k'

omit [DecidableEq α] in
theorem DatIs.empty : DatIs P K mk enc (.map []) (fun _ => (none : Option β)) :=
  ⟨isMap_empty, fun _ _ _ => ⟨rfl, fun _ h => by cases h⟩, fun _ h => by simp [has] at h, fun _ h => by cases h⟩
theorem DatIs.put (h : DatIs P K mk enc D T) (Y : Keyed P K) (hmk : ∀ a b, mk a = mk b → a = b) {k : α} {kl : Lit} (hk : keyOf P K (mk k) = some kl) (v : β) : DatIs P K mk enc (D.put kl (enc k v)) (putT T k v) := by
  have hkl := Y.key hk
  refine ⟨h.isMap.put _ _, fun k' kl' hk' => ?_, fun kl' hh => ?_, fun k' hh => ?_⟩
  · unfold putT
    by_cases e : k' = k
    · subst e
      obtain rfl : kl = kl' := by rw [hk] at hk'; injection hk'
      rw [if_pos rfl]
      exact ⟨has_put_same h.isMap hkl _, fun v' e zd => by injection e with e; subst e; exact atKey_put_same h.isMap hkl _ _⟩
    · rw [if_neg e]
      have hne : kl' ≠ kl := fun e2 => e (hmk _ _ (Y.inj hk' (e2 ▸ hk)))
      exact ⟨by rw [has_put_other hne]; exact (h.at_ k' kl' hk').1, fun v' e zd => by rw [atKey_put_other hne]; exact (h.at_ k' kl' hk').2 v' e zd⟩
  · by_cases e : kl' = kl
    · subst e; exact ⟨k, hk⟩
    · rw [has_put_other e] at hh
      exact h.key kl' hh
  · unfold putT at hh
    by_cases e : k' = k
    · subst e; exact ⟨kl, hk⟩
    · rw [if_neg e] at hh; exact h.dom k' hh
theorem DatIs.del (h : DatIs P K mk enc D T) (Y : Keyed P K) (hmk : ∀ a b, mk a = mk b → a = b) {k : α} {kl : Lit} (hk : keyOf P K (mk k) = some kl) : DatIs P K mk enc (D.del kl) (delT T k) := by
  refine ⟨h.isMap.del _, fun k' kl' hk' => ?_, fun kl' hh => ?_, fun k' hh => ?_⟩
  · unfold delT
    by_cases e : k' = k
    · subst e
      obtain rfl : kl = kl' := by rw [hk] at hk'; injection hk'
      rw [if_pos rfl]
      exact ⟨has_del_same, fun v' e => by cases e⟩
    · rw [if_neg e]
      have hne : kl' ≠ kl := fun e2 => e (hmk _ _ (Y.inj hk' (e2 ▸ hk)))
      exact ⟨by rw [has_del_other hne]; exact (h.at_ k' kl' hk').1, fun v' e zd => by rw [atKey_del_other hne]; exact (h.at_ k' kl' hk').2 v' e zd⟩
  · by_cases e : kl' = kl
    · subst e; rw [has_del_same] at hh; cases hh
    · rw [has_del_other e] at hh
      exact h.key kl' hh
  · unfold delT at hh
    by_cases e : k' = k
    · rw [if_pos e] at hh; cases hh
    · rw [if_neg e] at hh; exact h.dom k' hh

/-- What a range has met (ks), and what is left. -/
structure RgIs (P : Program) (K : TypeId) (mk : α → Value) (T : α → Option β) (left : Lit → Bool) (ks : List α) : Prop where
  nodup : ks.Nodup
  met : ∀ k, k ∈ ks → (T k).isSome = true
  left_ : ∀ k kl, keyOf P K (mk k) = some kl → (left kl = true ↔ (T k).isSome = true ∧ k ∉ ks)
  key : ∀ kl, left kl = true → ∃ k, keyOf P K (mk k) = some kl
omit [DecidableEq α] in
theorem RgIs.start (h : DatIs P K mk enc D T) : RgIs P K mk T (has D) [] :=
  ⟨List.nodup_nil, fun _ h => by simp at h, fun k kl hk => by rw [(h.at_ k kl hk).1]; simp, h.key⟩
variable {left : Lit → Bool} {ks : List α}
theorem RgIs.step (h : RgIs P K mk T left ks) (Y : Keyed P K) (hmk : ∀ a b, mk a = mk b → a = b) {k : α} {kl : Lit} (hk : keyOf P K (mk k) = some kl) (hl : left kl = true) :
    RgIs P K mk T (fun z => left z && !z.sameKey kl) (ks ++ [k]) ∧ (T k).isSome = true ∧ k ∉ ks := by
  obtain ⟨h1, h2⟩ := (h.left_ k kl hk).1 hl
  refine ⟨⟨?_, fun k' hk' => ?_, fun k' kl' hk' => ?_, fun kl' hh => ?_⟩, h1, h2⟩
  · rw [List.nodup_append]
    exact ⟨h.nodup, by simp, fun a ha b hb => by simp at hb; subst hb; exact fun e => h2 (e ▸ ha)⟩
  · rcases List.mem_append.1 hk' with h3 | h3
    · exact h.met k' h3
    · simp at h3; subst h3; exact h1
  · have hkl := Y.key hk
    by_cases e : k' = k
    · subst e
      obtain rfl : kl = kl' := by rw [hk] at hk'; injection hk'
      rw [WideAt.sameKey_self hkl]
      simp
    · have hne : kl' ≠ kl := fun e2 => e (hmk _ _ (Y.inj hk' (e2 ▸ hk)))
      rw [sameKey_ne hne]
      simp only [Bool.not_false, Bool.and_true, List.mem_append, List.mem_singleton, e, or_false]
      exact h.left_ k' kl' hk'
  · simp only [Bool.and_eq_true] at hh
    exact h.key kl' hh.1
omit [DecidableEq α] in
theorem RgIs.done (h : RgIs P K mk T left ks) (hD : ∀ k, (T k).isSome = true → ∃ kl, keyOf P K (mk k) = some kl) (hl : ∀ kl, left kl = false) (k : α) : k ∈ ks ↔ (T k).isSome = true := by
  refine ⟨h.met k, fun hs => ?_⟩
  obtain ⟨kl, hk⟩ := hD k hs
  rcases Classical.em (k ∈ ks) with h3 | h3
  · exact h3
  · have := (h.left_ k kl hk).2 ⟨hs, h3⟩
    rw [hl] at this
    cases this

/-- Numbers that rise. -/
theorem rise_of_sort (ks : List Int) (hn : ks.Nodup) : (ks.mergeSort fun x y => decide (x ≤ y)).Pairwise (· < ·) ∧ ∀ k, k ∈ (ks.mergeSort fun x y => decide (x ≤ y)) ↔ k ∈ ks := by
  have hp := List.mergeSort_perm ks (fun x y => decide (x ≤ y))
  have hs := List.pairwise_mergeSort (le := fun x y => decide (x ≤ y)) (fun a b c h1 h2 => by simp at *; omega) (fun a b => by simp; omega) ks
  have hd : (ks.mergeSort fun x y => decide (x ≤ y)).Nodup := hp.nodup_iff.2 hn
  refine ⟨?_, fun k => hp.mem_iff⟩
  have h2 : (ks.mergeSort fun x y => decide (x ≤ y)).Pairwise (fun a b => decide (a ≤ b) = true ∧ a ≠ b) := hs.and hd
  exact h2.imp (fun h => by simp at h; omega)
/-- There is just one rising list of a set. -/
theorem rise_uniq : ∀ {a b : List Int}, a.Pairwise (· < ·) → b.Pairwise (· < ·) → (∀ k, k ∈ a ↔ k ∈ b) → a = b
  | [], [], _, _, _ => rfl
  | [], y :: b, _, _, h => by have := (h y).2 (by simp); simp at this
  | x :: a, [], _, _, h => by have := (h x).1 (by simp); simp at this
  | x :: a, y :: b, ha, hb, h => by
    obtain ⟨ha1, ha2⟩ := List.pairwise_cons.1 ha
    obtain ⟨hb1, hb2⟩ := List.pairwise_cons.1 hb
    have e : x = y := by
      rcases List.mem_cons.1 ((h x).1 (by simp)) with e | e
      · exact e
      · rcases List.mem_cons.1 ((h y).2 (by simp)) with e2 | e2
        · exact e2.symm
        · have := hb1 x e; have := ha1 y e2; omega
    subst e
    rw [rise_uniq ha2 hb2 fun k => ?_]
    constructor
    · intro hk
      rcases List.mem_cons.1 ((h k).1 (by simp [hk])) with e | e
      · have := ha1 k hk; omega
      · exact e
    · intro hk
      rcases List.mem_cons.1 ((h k).2 (by simp [hk])) with e | e
      · have := hb1 k hk; omega
      · exact e
end
end Go.Proofs.Ytkflekaibfkicaa
