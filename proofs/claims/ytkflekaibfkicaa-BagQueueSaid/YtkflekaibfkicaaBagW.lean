/- A row of ints of one's own that is cut at its head and appended to. -/
import Derived.Test.YtkflekaibfkicaaBagU
import Derived.ArgAppend
namespace Go.Proofs.Ytkflekaibfkicaa
open Go.RowKit Go.Conc

theorem cell_of {w : World} {r : Nat} {cur : Array Value} {t : TypeId} {f : Nat × Nat} (hh : w.heap[r]? = some (.cells cur t f)) (k : Nat) : w.cell? ⟨r, k, none⟩ = cur[k]? := by simp [World.cell?, hh]
/-- v is nil and xs empty, or a part of block r, from base on, that holds xs. -/
def Oo (w : World) (base r : Nat) (v : Value) (xs : List Int) : Prop :=
  (v = .slice none 0 0 ∧ xs = []) ∨ ∃ o c cur, v = .slice (some ⟨r, o, none⟩) xs.length c ∧ base ≤ r ∧ w.heap[r]? = some (.cells cur 3 (0, 0)) ∧ o + c ≤ cur.size ∧ xs.length ≤ c ∧ ∀ j x, xs[j]? = some x → cur[o + j]? = some (.int .i64 x)
section
variable {w w' : World} {base B r g : Nat} {v : Value} {xs : List Int}
theorem Oo.form (h : Oo w base r v xs) : ∃ A c, v = .slice A xs.length c ∧ xs.length ≤ c ∧ Rz w A xs.length xs := by
  rcases h with ⟨rfl, rfl⟩ | ⟨o, c, cur, rfl, hb, hh, hs, hl, hx⟩
  · exact ⟨none, 0, rfl, Nat.le_refl _, rfl, fun h => by simp at h⟩
  · exact ⟨_, c, rfl, hl, rfl, fun _ => ⟨r, o, rfl, fun j x hj => by rw [cell_of hh]; exact hx j x hj⟩⟩
theorem Oo.kp {t : Bool} (h : Oo w base r v xs) (hk : Kp t B g w w') (hne : v = .slice none 0 0 ∨ r ≠ g) : Oo w' base r v xs := by
  rcases h with h | ⟨o, c, cur, rfl, hb, hh, rest⟩
  · exact .inl h
  · rcases hne with hne | hne
    · cases hne
    · exact .inr ⟨o, c, cur, rfl, hb, hk.block r _ _ _ hne hh, rest⟩
theorem Oo.below (h : Oo w base r v xs) (hb : Below w.heap.size w w') : Oo w' base r v xs := by
  rcases h with h | ⟨o, c, cur, rfl, hb', hh, rest⟩
  · exact .inl h
  · exact .inr ⟨o, c, cur, rfl, hb', by rw [hb.block r (Array.getElem?_eq_some_iff.1 hh).1]; exact hh, rest⟩
/-- v[1:]. -/
theorem Oo.cut {x : Int} (h : Oo w base r v (x :: xs)) : ∃ v', (∀ W : World, (Instr.slice 27 v (some (.int .i64 1)) none none).run Try.prog W = .ok v' W) ∧ Oo w base r v' xs ∧ v' ≠ .slice none 0 0 := by
  rcases h with ⟨_, h⟩ | ⟨o, c, cur, rfl, hb, hh, hs, hl, hx⟩
  · cases h
  have hz : ∀ W : World, (sizeOf 3).run Try.prog W = .ok 1 W := fun W => by kernel_rfl
  have ht := Try.underlying27
  rw [List.length_cons] at hl ⊢
  by_cases hc : c = 1
  · subst hc
    have e : xs = [] := List.eq_nil_of_length_eq_zero (by omega)
    subst e
    refine ⟨.slice (some ⟨r, o, none⟩) 0 0, fun W => ?_, .inr ⟨o, 0, cur, rfl, hb, hh, by omega, Nat.le_refl _, fun j x hj => by simp at hj⟩, by simp⟩
    go_simp
  · refine ⟨.slice (some ⟨r, o + 1, none⟩) xs.length (c - 1), fun W => ?_, .inr ⟨o + 1, c - 1, cur, rfl, hb, hh, by omega, by omega, fun j y hj => ?_⟩, by simp⟩
    · go_simp
      intro h; omega
    · have := hx (j + 1) y (by rw [List.getElem?_cons_succ]; exact hj)
      have e : o + 1 + j = o + (j + 1) := by omega
      rw [e]
      exact this
end
/-- append of one number onto it. -/
theorem wpList_appo {w : World} {ops : Array Oper} {rest : List Oper} {o : Oper} {a : Act} {Q : Exit → Act → World → Prop} (hgd : o.guard = none) (s x : Operand)
    (ho : o.op = .call { callee := .builtin .append, args := #[s, x], argTypes := #[27, 27] })
    {base r : Nat} {v : Value} {xs : List Int} (hs : a.eval s = v) (h : Oo w base r v xs) (b c : Nat) (z : Int) (hx : a.eval x = .slice (some ⟨b, 0, none⟩) 1 c) (hu : w.cell? ⟨b, 0, none⟩ = some (.int .i64 z))
    (hlen : xs.length ≤ 1000000) (hbase : base ≤ w.heap.size)
    (hK : ∀ v' w' r', Oo w' base r' v' (xs ++ [z]) → v' ≠ .slice none 0 0 → ((Below w.heap.size w w' ∧ w.heap.size ≤ r' ∧ r' < w'.heap.size) ∨ (r' = r ∧ v ≠ .slice none 0 0 ∧ Kp false base r w w')) → wpList Try.prog ops Q rest (a.put o.dst v') w') : wpList Try.prog ops Q (o :: rest) a w := by
  obtain ⟨i, hi, hi0, hi1, hi2⟩ := info_parts info_int
  have hnews : ∀ j u, [Value.int .i64 z][j]? = some u → w.cell? ((⟨b, 0, none⟩ : Addr).add j) = some u := fun j u hj => by
    match j, hj with
    | 0, hj => simp at hj; subst hj; exact hu
    | j + 1, hj => simp at hj
  have h1c : ∀ u ∈ [Value.int .i64 z], u.oneCell' = true := fun u hu => by simp at hu; subst hu; rfl
  have grown : ∀ v' w', w'.ownsRow w.heap.size 3 1 v' (xs.length + 1) (xs.map (Value.int .i64) ++ [Value.int .i64 z]) → w.grownBy w' none → wpList Try.prog ops Q rest (a.put o.dst v') w' := fun v' w' h2 h3 => by
    rcases h2.2 with ⟨-, h0⟩ | ⟨r', cap, cur, rfl, hb', hh, hn, hm, hsz, htk⟩
    · omega
    · refine hK _ _ r' (.inr ⟨0, cap, cur, by rw [List.length_append, List.length_singleton], Nat.le_trans hbase hb', hh, by omega, by rw [List.length_append, List.length_singleton]; omega, fun j y hj => ?_⟩) (by simp) (.inl ⟨⟨h3.os, h3.tape, h3.output, h3.size, fun k hk => h3.block k hk (by simp)⟩, hb', (Array.getElem?_eq_some_iff.1 hh).1⟩)
      have hjl : j < (xs ++ [z]).length := by
        rcases Nat.lt_or_ge j (xs ++ [z]).length with h | h
        · exact h
        · rw [List.getElem?_eq_none h] at hj; cases hj
      rw [List.length_append, List.length_singleton] at hjl
      have : (cur.toList.take ((xs.length + 1) * 1))[j]? = (xs.map (Value.int .i64) ++ [Value.int .i64 z])[j]? := by rw [htk]
      rw [List.getElem?_take_of_lt (by omega)] at this
      rw [Nat.zero_add, ← Array.getElem?_toList, this, ← List.map_singleton, ← List.map_append, List.getElem?_map, hj]
      rfl
  rcases h with ⟨rfl, rfl⟩ | ⟨of, cp, cur, rfl, hb, hh, hsz, hl, hxs⟩
  · exact wpList_append_grows w hgd s x 27 ho 3 i (.int .i64 0) 1 8 Try.underlying27 hi hi0 hi1 hi2 rfl (by decide) none 0 0 [] hs (fun _ => ⟨rfl, rfl⟩) rfl (fun b hb => by cases hb) ⟨b, 0, none⟩ 1 c [.int .i64 z] hx rfl hnews h1c (by decide) (by decide) (by decide) (fun v' w' h2 h3 => grown v' w' (by simpa using h2) h3)
  · have holds : ∀ j u, (xs.map (Value.int .i64))[j]? = some u → w.cell? ⟨r, of + j, none⟩ = some u := fun j u hj => by
      rw [List.getElem?_map] at hj
      cases hxj : xs[j]? with
      | none => rw [hxj] at hj; cases hj
      | some y =>
        rw [hxj] at hj
        obtain rfl : Value.int .i64 y = u := Option.some.inj hj
        rw [cell_of hh]
        exact hxs j y hxj
    refine wpList_append_arg w hgd s x 27 ho 3 i (.int .i64 0) 1 8 Try.underlying27 hi hi0 hi1 hi2 rfl (by decide) r of xs.length cp (xs.map (Value.int .i64)) hs (by simp) holds ⟨b, 0, none⟩ 1 c [.int .i64 z] hx rfl hnews h1c (fun hr j hj => ?_) (by unfold maxLen; omega) (by omega) (fun hr => ?_) (fun _ v' w' h2 h3 => grown v' w' h2 h3)
    · simp at hj
      subst hj
      have : of + xs.length < cur.size := by omega
      refine ⟨by rw [cell_of hh, Nat.mul_one, Nat.add_zero, Array.getElem?_eq_getElem this]; rfl, by simp [World.frozen?, hh]⟩
    · have hlt : of + xs.length < cur.size := by omega
      have hc : w.cell? ⟨r, of + xs.length, none⟩ = some cur[of + xs.length] := by rw [cell_of hh, Array.getElem?_eq_getElem hlt]
      have hnew : (w.setCells r (of + xs.length * 1) [.int .i64 z]).heap[r]? = some (.cells (cur.setIfInBounds (of + xs.length) (.int .i64 z)) 3 (0, 0)) := by
        simp [World.setCells, World.setCell, Array.getElem?_modify, hh]
      refine hK _ _ r (.inr ⟨of, cp, _, by rw [List.length_append, List.length_singleton], hb, hnew, by simpa using hsz, by rw [List.length_append, List.length_singleton]; exact hr, fun j y hj => ?_⟩) (by simp) (.inr ⟨rfl, by simp, ?_⟩)
      · by_cases hj2 : j < xs.length
        · rw [List.getElem?_append_left hj2] at hj
          rw [Array.getElem?_setIfInBounds_ne (by omega)]
          exact hxs j y hj
        · have hjl : j < (xs ++ [z]).length := by
            rcases Nat.lt_or_ge j (xs ++ [z]).length with h | h
            · exact h
            · rw [List.getElem?_eq_none h] at hj; cases hj
          rw [List.length_append, List.length_singleton] at hjl
          obtain rfl : j = xs.length := by omega
          simp at hj
          subst hj
          simp [hlt]
      · show Kp false base r w (w.setCell ⟨r, of + xs.length * 1, none⟩ (.int .i64 z))
        rw [Nat.mul_one]
        exact Kp.setCell hb _ _ hc
end Go.Proofs.Ytkflekaibfkicaa
