/- Slices of one-cell things as sources; append of one onto a row of one's own, in a region that draws. No program's number stands here. -/
import Derived.Test.YtkflekaibfkicaaBagK
import Derived.Test.YtkflekaibfkicaaRfA
import Derived.Laws.OwnMore
namespace Go.Proofs.Ytkflekaibfkicaa
open Go.RowKit

/-- v reads as xs. -/
def Src (w : World) (v : Value) (xs : List Value) : Prop :=
  (v = .slice none 0 0 ∧ xs = []) ∨ ∃ b o c, v = .slice (some ⟨b, o, none⟩) xs.length c ∧ xs.length ≤ c ∧ b < w.heap.size ∧ ∀ j x, xs[j]? = some x → w.cell? ⟨b, o + j, none⟩ = some x
section
variable {P : Program} {w w' : World} {base : Nat} {e t : TypeId} {v : Value} {xs news : List Value}
theorem Src.below (h : Src w v xs) (hb : Below w.heap.size w w') : Src w' v xs := by
  rcases h with h | ⟨b, o, c, rfl, hl, hbl, hx⟩
  · exact .inl h
  · exact .inr ⟨b, o, c, rfl, hl, Nat.lt_of_lt_of_le hbl hb.size, fun j x hj => (hb.cell (p := ⟨b, o + j, none⟩) hbl).trans (hx j x hj)⟩
theorem Ov.src (h : Ov w base e v xs) : Src w v xs := by
  rcases h.2 with ⟨hv, h0⟩ | ⟨b, cap, cur, hv, hbg, hg, hn, hm, hsz, htk⟩
  · exact .inl ⟨hv, List.eq_nil_of_length_eq_zero h0⟩
  · refine .inr ⟨b, 0, cap, hv, hn, (Array.getElem?_eq_some_iff.1 hg).1, fun j u hj => ?_⟩
    have hc := World.ownsRow.cells h (g := b) (by rw [hv]; rfl) j u hj
    rw [Nat.zero_add, ← addr0]
    exact hc
/-- v[:i]. -/
theorem Src.take (ht : P.underlying t = some (.slice e)) (hz : ∀ W : World, (sizeOf e).run P W = .ok 1 W) (h : Src w v xs) (i : Nat) (hi : i ≤ xs.length) : ∃ v', (∀ W : World, (Instr.slice t v none (some (.int .i64 (i : Int))) none).run P W = .ok v' W) ∧ Src w v' (xs.take i) := by
  rcases h with ⟨rfl, rfl⟩ | ⟨b, o, c, rfl, hl, hb, hx⟩
  · have h0 : i = 0 := by simpa using hi
    subst h0
    exact ⟨.slice none 0 0, fun W => by go_simp, .inl ⟨rfl, rfl⟩⟩
  · have hlen : (xs.take i).length = i := by rw [List.length_take]; omega
    refine ⟨.slice (some ⟨b, o, none⟩) i c, fun W => ?_, .inr ⟨b, o, c, by rw [hlen], by omega, hb, fun j x hj => hx j x ?_⟩⟩
    · by_cases hc0 : c = 0
      · have h1 : i = 0 := by omega
        have h2 : xs.length = 0 := by omega
        rw [h2]
        subst h1 hc0
        go_simp
      · generalize xs.length = n at *
        go_simp
        intro h
        omega
    · rcases Nat.lt_or_ge j i with h | h
      · rwa [List.getElem?_take_of_lt h] at hj
      · rw [List.getElem?_eq_none (by omega)] at hj; cases hj
/-- v[i:]. -/
theorem Src.drop (ht : P.underlying t = some (.slice e)) (hz : ∀ W : World, (sizeOf e).run P W = .ok 1 W) (h : Src w v xs) (i : Nat) (hi : i ≤ xs.length) (z : Int) (hzi : z = (i : Int)) : ∃ v', (∀ W : World, (Instr.slice t v (some (.int .i64 z)) none none).run P W = .ok v' W) ∧ Src w v' (xs.drop i) := by
  subst hzi
  rcases h with ⟨rfl, rfl⟩ | ⟨b, o, c, rfl, hl, hb, hx⟩
  · have h0 : i = 0 := by simpa using hi
    subst h0
    exact ⟨.slice none 0 0, fun W => by go_simp, .inl ⟨rfl, rfl⟩⟩
  · have hlen : (xs.drop i).length = xs.length - i := by rw [List.length_drop]
    by_cases hck : c = i
    · refine ⟨.slice (some ⟨b, o, none⟩) (xs.length - i) 0, fun W => ?_, .inr ⟨b, o, 0, by rw [hlen], by omega, hb, fun j x hj => by rw [List.getElem?_eq_none (by omega)] at hj; cases hj⟩⟩
      have h2 : xs.length = i := by omega
      rw [h2]
      subst hck
      go_simp
    · refine ⟨.slice (some ⟨b, o + i, none⟩) (xs.length - i) (c - i), fun W => ?_, .inr ⟨b, o + i, c - i, by rw [hlen], by omega, hb, fun j x hj => ?_⟩⟩
      · generalize xs.length = n at *
        go_simp
        try (intro h; omega)
      · rw [Nat.add_assoc]
        exact hx _ _ (by rwa [List.getElem?_drop] at hj)
theorem run_append_src (ty : TypeId) (z : Value) (bytes : Nat) (ht : P.underlying t = some (.slice e)) (hinfo : (P.info? e).map (fun i => (i.zero, i.size, i.bytes)) = some (some z, 1, bytes)) (hz1 : z.cells.size = 1) (hby : bytes ≤ 16)
    (hown : Ov w base e v xs) {u : Value} (hs : Src w u news) (h1 : ∀ y ∈ news, y.oneCell' = true) (hlen : xs.length + news.length ≤ 4000000) (hbase : base ≤ w.heap.size) :
    ∃ v' w', (Builtin.append_ #[t, t] ty #[v, u]).run P w = .ok v' w' ∧ Ov w' base e v' (xs ++ news) ∧ w.grownBy w' v.ownBlock ∧ (v'.ownBlock = v.ownBlock ∨ v'.ownBlock = some w.heap.size) := by
  obtain ⟨i, hi, hi0, hi1, hi2⟩ := info_parts hinfo
  rcases hs with ⟨rfl, rfl⟩ | ⟨b, o, c, rfl, hl, hb, hx⟩
  · exact ⟨v, w, run_append_owned_none w base t ty e i 1 ht hi v _ xs hown, by simpa using hown, World.grownBy.refl w _, .inl rfl⟩
  · have hm : (xs.length + news.length) * bytes ≤ 4000000 * 16 := Nat.mul_le_mul hlen hby
    obtain ⟨v', w', hr, h2, h3, -, h5⟩ := run_append_own_at (P := P) w base t ty e i z 1 bytes ht hi hi0 hi1 hi2 hz1 (by decide) v xs.length xs hown ⟨b, o, none⟩ news.length c news (by simp) (fun j y hj => by rw [addr_add]; exact hx j y hj) h1 (by unfold maxLen; omega) (by omega) hbase
    exact ⟨v', w', hr, by unfold Ov; rw [List.length_append]; exact h2, h3, h5⟩
theorem step_appV {ops : Array Oper} {o : Oper} {a : Act} {K : Act → World → Prop} {Q : Exit → Act → World → Prop} {E : Prop} (hgd : o.guard = none) (s x : Operand) (t : TypeId)
    (ho : o.op = .call { callee := .builtin .append, args := #[s, x], argTypes := #[t, t] })
    (base : Nat) (e : TypeId) (z : Value) (bytes : Nat) (ht : P.underlying t = some (.slice e)) (hinfo : (P.info? e).map (fun i => (i.zero, i.size, i.bytes)) = some (some z, 1, bytes)) (hz1 : z.cells.size = 1) (hby : bytes ≤ 16)
    (v : Value) (xs : List Value) (hs : a.eval s = v) (hown : Ov w base e v xs) (u : Value) (news : List Value) (hx : a.eval x = u) (hsrc : Src w u news) (h1 : ∀ y ∈ news, y.oneCell' = true)
    (hlen : xs.length + news.length ≤ 4000000) (hbase : base ≤ w.heap.size)
    (h : ∀ v' w', Ov w' base e v' (xs ++ news) → w.grownBy w' v.ownBlock → (v'.ownBlock = v.ownBlock ∨ v'.ownBlock = some w.heap.size) → K (a.put o.dst v') w') :
    if Region.wanted o (yielded ops a.tmps) = true then Oper.wp P o a w K Q else E := by
  have hw : Region.wanted o (yielded ops a.tmps) = true := by simp [Region.wanted, hgd]
  rw [if_pos hw]
  obtain ⟨v', w', hr, h2, h3, h4⟩ := run_append_src (P := P) o.type z bytes ht hinfo hz1 hby hown hsrc h1 hlen hbase
  unfold Oper.wp execOp
  simp only [ho, resolve, invoke, builtin, Sem.run_bind, Sem.run_pure, Result.andThen_ok, List.map_toArray, List.map_cons, List.map_nil, hs, hx, hr]
  exact h v' w' h2 h3 h4
theorem Ov.lit0 (w : World) (hb : base ≤ w.heap.size) : Ov (w.alloc (.cells #[] e)) base e (.slice (some ⟨w.heap.size, 0, none⟩) 0 0) [] := World.ownsRow_lit (base := base) (e := e) (size := 1) w #[] 0 hb (by decide) rfl
/-- What is not the row is as it was, below the base too. -/
theorem Ov.grownB (h : Ov w base e v xs) {w0 : World} (hb : Below base w0 w) (hs : base ≤ w.heap.size) (hg : w.grownBy w' v.ownBlock) : Below base w0 w' := hb.grown hg hs fun _ e => (h.lt e).1
theorem Ov.stored {b n cap i : Nat} (h : Ov w base e (.slice (some ⟨b, 0, none⟩) n cap) xs) (u : Value) : Ov (w.setCell ⟨b, i, none⟩ u) base e (.slice (some ⟨b, 0, none⟩) n cap) (xs.set i u) := by
  have hn : n = xs.length := by
    rcases h.2 with ⟨hv, _⟩ | ⟨_, _, _, hv, _⟩
    · cases hv
    · injection hv
  subst hn
  have := World.ownsRow.stored h i u
  unfold Ov
  rw [List.length_set]
  exact this.1
end
end Go.Proofs.Ytkflekaibfkicaa
