/- Pairs by rising keys, and the function that they say. No program's number stands here. -/
import Derived.Test.YtkflekaibfkicaaBagA
namespace Go.Proofs.Ytkflekaibfkicaa
open Go.RowKit Go.Maps

/-- The pairs l, by rising keys, say T. -/
structure TIs (T : Int → Option ByteArray) (l : List (Int × ByteArray)) : Prop where
  rise : (l.map (·.1)).Pairwise (· < ·)
  at_ : ∀ k v, T k = some v ↔ (k, v) ∈ l
theorem TIs.nil : TIs (fun _ => none) [] := ⟨List.Pairwise.nil, fun k v => by simp⟩
section
variable {T : Int → Option ByteArray} {l A M B : List (Int × ByteArray)} {k : Int} {v : ByteArray}
theorem TIs.put (h : TIs T l) (hl : l = A ++ (M ++ B)) (hA : ∀ p ∈ A, p.1 < k) (hB : ∀ p ∈ B, k < p.1) (hM : ∀ p ∈ M, p.1 = k) : TIs (putT T k v) (A ++ (k, v) :: B) := by
  subst hl
  refine ⟨?_, fun k' v' => ?_⟩
  · have := h.rise
    rw [List.map_append, List.map_append, List.pairwise_append, List.pairwise_append] at this
    obtain ⟨h1, ⟨-, h2, -⟩, h3⟩ := this
    rw [List.map_append, List.map_cons, List.pairwise_append, List.pairwise_cons]
    refine ⟨h1, ⟨fun x hx => ?_, h2⟩, fun x hx y hy => ?_⟩
    · obtain ⟨p, hp, rfl⟩ := List.mem_map.1 hx
      exact hB p hp
    · rcases List.mem_cons.1 hy with rfl | hy
      · obtain ⟨p, hp, rfl⟩ := List.mem_map.1 hx
        exact hA p hp
      · exact h3 x hx y (List.mem_append.2 (.inr hy))
  · unfold putT
    by_cases e : k' = k
    · subst e
      rw [if_pos rfl]
      constructor
      · intro hv
        injection hv with hv
        subst hv
        simp
      · intro hm
        rcases List.mem_append.1 hm with hm | hm
        · exact absurd (hA _ hm) (by simp)
        · rcases List.mem_cons.1 hm with hm | hm
          · injection hm with _ hm
            rw [hm]
          · exact absurd (hB _ hm) (by simp)
    · rw [if_neg e, h.at_ k' v', List.mem_append, List.mem_append, List.mem_append, List.mem_cons]
      constructor
      · rintro (hm | hm | hm)
        · exact .inl hm
        · exact absurd (hM _ hm) e
        · exact .inr (.inr hm)
      · rintro (hm | hm | hm)
        · exact .inl hm
        · injection hm with hm _
          exact absurd hm e
        · exact .inr (.inr hm)
theorem TIs.del (h : TIs T l) (hl : l = A ++ (M ++ B)) (hA : ∀ p ∈ A, p.1 < k) (hB : ∀ p ∈ B, k < p.1) (hM : ∀ p ∈ M, p.1 = k) : TIs (delT T k) (A ++ B) := by
  subst hl
  refine ⟨?_, fun k' v' => ?_⟩
  · have := h.rise
    rw [List.map_append, List.map_append, List.pairwise_append, List.pairwise_append] at this
    obtain ⟨h1, ⟨-, h2, -⟩, h3⟩ := this
    rw [List.map_append, List.pairwise_append]
    exact ⟨h1, h2, fun x hx y hy => h3 x hx y (List.mem_append.2 (.inr hy))⟩
  · unfold delT
    by_cases e : k' = k
    · subst e
      rw [if_pos rfl]
      constructor
      · intro hv; cases hv
      · intro hm
        rcases List.mem_append.1 hm with hm | hm
        · exact absurd (hA _ hm) (by simp)
        · exact absurd (hB _ hm) (by simp)
    · rw [if_neg e, h.at_ k' v', List.mem_append, List.mem_append, List.mem_append]
      constructor
      · rintro (hm | hm | hm)
        · exact .inl hm
        · exact absurd (hM _ hm) e
        · exact .inr hm
      · rintro (hm | hm)
        · exact .inl hm
        · exact .inr (.inr hm)
/-- Where a key stands, or would. -/
theorem TIs.cut {i : Nat} {ok : Bool} (h : TIs T l) (hi : i ≤ l.length) (hlow : ∀ j x, j < i → (l.map (·.1))[j]? = some x → x < k) (hyes : ok = true → (l.map (·.1))[i]? = some k) (hno : ok = false → ∀ x, (l.map (·.1))[i]? = some x → k < x) :
    (∀ p ∈ l.take i, p.1 < k) ∧ (ok = false → T k = none ∧ ∀ p ∈ l.drop i, k < p.1) ∧ (ok = true → i < l.length ∧ ∃ v, T k = some v ∧ l[i]? = some (k, v) ∧ l = l.take i ++ ([(k, v)] ++ l.drop (i + 1)) ∧ ∀ p ∈ l.drop (i + 1), k < p.1) := by
  have hA : ∀ p ∈ l.take i, p.1 < k := fun p hp => by
    obtain ⟨j, hj, rfl⟩ := List.mem_iff_getElem.1 hp
    rw [List.length_take] at hj
    refine hlow j _ (by omega) ?_
    rw [List.getElem?_map, List.getElem_take, List.getElem?_eq_getElem (by omega)]
    rfl
  have hup : ∀ j, i < j → ∀ (hi : i < l.length) (hj : j < l.length), l[i].1 < l[j].1 := fun j hij hi hj => by
    have := List.pairwise_iff_getElem.1 h.rise i j (by simpa using hi) (by simpa using hj) hij
    simpa using this
  refine ⟨hA, fun e => ?_, fun e => ?_⟩
  · have hB : ∀ p ∈ l.drop i, k < p.1 := fun p hp => by
      obtain ⟨j, hj, rfl⟩ := List.mem_iff_getElem.1 hp
      rw [List.length_drop] at hj
      rw [List.getElem_drop]
      have h0 : k < (l[i]'(by omega)).1 := hno e _ (by rw [List.getElem?_map, List.getElem?_eq_getElem (by omega)]; rfl)
      by_cases hj0 : j = 0
      · subst hj0; exact h0
      · exact Int.lt_trans h0 (hup (i + j) (by omega) (by omega) (by omega))
    refine ⟨?_, hB⟩
    cases hT : T k with
    | none => rfl
    | some v =>
      have hm := (h.at_ k v).1 hT
      rw [← List.take_append_drop i l] at hm
      rcases List.mem_append.1 hm with hm | hm
      · exact absurd (hA _ hm) (by simp)
      · exact absurd (hB _ hm) (by simp)
  · have h1 := hyes e
    rw [List.getElem?_map] at h1
    obtain ⟨⟨k', v⟩, hv, hk⟩ := Option.map_eq_some_iff.1 h1
    subst hk
    have hil : i < l.length := by
      rcases Nat.lt_or_ge i l.length with h | h
      · exact h
      · rw [List.getElem?_eq_none h] at hv; cases hv
    rw [List.getElem?_eq_getElem hil] at hv
    injection hv with hv
    refine ⟨hil, v, (h.at_ _ _).2 (by rw [← hv]; exact List.getElem_mem hil), by rw [List.getElem?_eq_getElem hil, hv], ?_, fun p hp => ?_⟩
    · conv => lhs; rw [← List.take_append_drop i l, List.drop_eq_getElem_cons hil, hv]
      rfl
    · obtain ⟨j, hj, rfl⟩ := List.mem_iff_getElem.1 hp
      rw [List.length_drop] at hj
      rw [List.getElem_drop]
      have := hup (i + 1 + j) (by omega) hil (by omega)
      rw [hv] at this
      exact this
/-- Rising keys with the same members are the same. -/
theorem rise_ext : ∀ {a b : List Int}, a.Pairwise (· < ·) → b.Pairwise (· < ·) → (∀ x, x ∈ a ↔ x ∈ b) → a = b
  | [], [], _, _, _ => rfl
  | [], y :: b, _, _, h => absurd ((h y).2 (by simp)) (by simp)
  | x :: a, [], _, _, h => absurd ((h x).1 (by simp)) (by simp)
  | x :: a, y :: b, ha, hb, h => by
    rw [List.pairwise_cons] at ha hb
    have hxy : x = y := by
      rcases List.mem_cons.1 ((h x).1 (by simp)) with e | e
      · exact e
      · rcases List.mem_cons.1 ((h y).2 (by simp)) with e2 | e2
        · exact e2.symm
        · have h1 := hb.1 x e
          have h2 := ha.1 y e2
          omega
    subst hxy
    congr 1
    refine rise_ext ha.2 hb.2 fun z => ⟨fun hz => ?_, fun hz => ?_⟩
    · rcases List.mem_cons.1 ((h z).1 (by simp [hz])) with e | e
      · exact absurd (ha.1 z hz) (by omega)
      · exact e
    · rcases List.mem_cons.1 ((h z).2 (by simp [hz])) with e | e
      · exact absurd (hb.1 z hz) (by omega)
      · exact e
theorem TIs.keys (h : TIs T l) {ks : List Int} (h1 : ks.Pairwise (· < ·)) (h2 : ∀ k, k ∈ ks ↔ (T k).isSome = true) : ks = l.map (·.1) :=
  rise_ext h1 h.rise fun x => by
    rw [h2 x, Option.isSome_iff_exists, List.mem_map]
    constructor
    · rintro ⟨v, hv⟩
      exact ⟨_, (h.at_ x v).1 hv, rfl⟩
    · rintro ⟨⟨k, v⟩, hm, rfl⟩
      exact ⟨v, (h.at_ k v).2 hm⟩
end
end Go.Proofs.Ytkflekaibfkicaa
