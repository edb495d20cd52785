/- Rows of one-cell values of the call's own, and append of one thing onto them. -/
import Derived.Test.YtkflekaibfkicaaBagJ
namespace Go.Proofs.Ytkflekaibfkicaa
open Go.RowKit Go.Conc

theorem info_int : (Try.prog.info? 3).map (fun i => (i.zero, i.size, i.bytes)) = some (some (.int .i64 0), 1, 8) := by kernel_rfl
theorem info_str : (Try.prog.info? 9).map (fun i => (i.zero, i.size, i.bytes)) = some (some (.string ⟨#[]⟩), 1, 16) := by kernel_rfl

/-- A row of the call's own that holds xs. -/
def Ov (w : World) (base : Nat) (e : TypeId) (v : Value) (xs : List Value) : Prop := w.ownsRow base e 1 v xs.length xs
section
variable {t : Bool} {w w' : World} {B g base : Nat} {e : TypeId} {v : Value} {xs : List Value}
theorem Ov.grown {row : Option Nat} (h : Ov w base e v xs) (hg : w.grownBy w' row) (hne : v.ownBlock = none ∨ v.ownBlock ≠ row) : Ov w' base e v xs := World.ownsRow.kept h hg hne
theorem Ov.alloc (h : Ov w base e v xs) (o : Obj) : Ov (w.alloc o) base e v xs := World.ownsRow.alloc h o
theorem Ov.kp (h : Ov w base e v xs) (hk : Kp t B g w w') (hne : ∀ b, v.ownBlock = some b → b ≠ g) : Ov w' base e v xs := by
  refine ⟨h.1, ?_⟩
  rcases h.2 with hn | ⟨b, cap, cur, rfl, hb, hgg, rest⟩
  · exact .inl hn
  · exact .inr ⟨b, cap, cur, rfl, hb, hk.block b _ _ _ (hne b rfl) hgg, rest⟩
theorem Ov.below (h : Ov w base e v xs) (hb : Below w.heap.size w w') : Ov w' base e v xs := h.grown (row := none) ⟨hb.os, hb.tape, hb.output, hb.size, fun k hk _ => hb.block k hk⟩ (by cases v.ownBlock <;> simp)
theorem Ov.lt (h : Ov w base e v xs) {b : Nat} (hb : v.ownBlock = some b) : base ≤ b ∧ b < w.heap.size := World.ownsRow.lt h b hb
/-- Its form. -/
theorem Ov.form (h : Ov w base e v xs) : ∃ A cap, v = .slice A xs.length cap ∧ xs.length ≤ cap ∧ (0 < xs.length → ∃ b, A = some ⟨b, 0, none⟩ ∧ base ≤ b ∧ b < w.heap.size ∧ ∀ j u, xs[j]? = some u → w.cell? ⟨b, j, none⟩ = some u) := by
  rcases h.2 with ⟨hv, h0⟩ | ⟨b, cap, cur, hv, hbg, hg, hn, hm, -⟩
  · exact ⟨none, 0, by rw [hv, h0], by omega, fun h1 => by omega⟩
  · refine ⟨some ⟨b, 0, none⟩, cap, hv, hn, fun _ => ⟨b, rfl, hbg, (World.ownsRow.lt h b (by rw [hv]; rfl)).2, fun j u hj => ?_⟩⟩
    have hc := World.ownsRow.cells h (g := b) (by rw [hv]; rfl) j u hj
    unfold Addr.add at hc
    by_cases h0 : j = 0
    · subst h0; simpa using hc
    · rw [if_neg h0] at hc; simpa using hc
theorem Kp.grown {row : Option Nat} {a : World} (h : Kp t B g a w) (hg : w.grownBy w' row) (hB : B ≤ a.heap.size) (hr : ∀ j, row = some j → a.heap.size ≤ j) : Kp t B g a w' := by
  have e : ∀ k, k < a.heap.size → w'.heap[k]? = w.heap[k]? := fun k hk => hg.block k (Nat.lt_of_lt_of_le hk h.size) (fun e => by have := hr k e.symm; omega)
  exact ⟨⟨hg.os.trans h.below.os, hg.tape.trans h.below.tape, hg.output.trans h.below.output, Nat.le_trans h.size hg.size, fun k hk => (e k (by omega)).trans (h.below.block k hk)⟩, fun k cs t f hkg hc => by rw [e k (Array.getElem?_eq_some_iff.1 hc).1]; exact h.block k cs t f hkg hc, fun k o hc ho => by rw [e k (Array.getElem?_eq_some_iff.1 hc).1]; exact h.knd k o hc ho⟩
theorem ChAt.grown {row : Option Nat} {c cap : Nat} {vs : List Value} (h : ChAt w c cap vs) (hg : w.grownBy w' row) (hr : row ≠ some c) : ChAt w' c cap vs := by
  have hl := h.lt
  obtain ⟨s, r, h⟩ := h
  exact ⟨s, r, by rw [hg.block c hl hr.symm]; exact h⟩
theorem ChAt.set1 {c c' cap cap' : Nat} {vs vs' : List Value} (h : ChAt w c cap vs) (hs : Set1 w w' c' cap' vs') (hne : c ≠ c') : ChAt w' c cap vs := by
  obtain ⟨s, r, h⟩ := h
  exact ⟨s, r, by rw [hs.ne c hne]; exact h⟩
end
/-- append of one thing. -/
theorem wpList_app1 {P : Program} {w : World} {ops : Array Oper} {rest : List Oper} {o : Oper} {a : Act} {Q : Exit → Act → World → Prop} (hgd : o.guard = none) (s x : Operand) (t : TypeId)
    (ho : o.op = .call { callee := .builtin .append, args := #[s, x], argTypes := #[t, t] })
    (base : Nat) (e : TypeId) (z : Value) (bytes : Nat) (ht : P.underlying t = some (.slice e)) (hinfo : (P.info? e).map (fun i => (i.zero, i.size, i.bytes)) = some (some z, 1, bytes)) (hz1 : z.cells.size = 1) (hby : bytes ≤ 16)
    (v : Value) (xs : List Value) (hs : a.eval s = v) (hown : Ov w base e v xs) (b c : Nat) (u : Value) (hx : a.eval x = .slice (some ⟨b, 0, none⟩) 1 c) (hu : w.cell? ⟨b, 0, none⟩ = some u) (h1 : u.oneCell' = true)
    (hlen : xs.length ≤ 1000000) (hbase : base ≤ w.heap.size)
    (h : ∀ v' w', Ov w' base e v' (xs ++ [u]) → w.grownBy w' v.ownBlock → (v'.ownBlock = v.ownBlock ∨ v'.ownBlock = some w.heap.size) → wpList P ops Q rest (a.put o.dst v') w') : wpList P ops Q (o :: rest) a w := by
  obtain ⟨i, hi, hi0, hi1, hi2⟩ := info_parts hinfo
  have hm : (xs.length + 1) * bytes ≤ 1000001 * 16 := Nat.mul_le_mul (by omega) hby
  refine Go.wpList_append_own_at w hgd s x t ho base e i z 1 bytes ht hi hi0 hi1 hi2 hz1 (by decide) v xs.length xs hs hown ⟨b, 0, none⟩ 1 c [u] hx rfl (fun j u' hj => ?_) (fun u' hu' => ?_) (by unfold maxLen; omega) (by omega) hbase fun v' w' h2 h3 _ h5 => h v' w' (by unfold Ov; rw [List.length_append, List.length_singleton]; exact h2) h3 h5
  · match j, hj with
    | 0, hj =>
      simp at hj
      subst hj
      exact hu
    | j + 1, hj => simp at hj
  · simp at hu'; subst hu'; exact h1
/-- make of a row of one's own with room for n. -/
theorem wpList_mk0 {P : Program} (w : World) {ops : Array Oper} {rest : List Oper} {o : Oper} {a : Act} {Q : Exit → Act → World → Prop}
    (hg : o.guard = none) (l c : Operand) (t : TypeId) (hop : o.op = Op.makeSlice t l c)
    (base : Nat) (e : TypeId) (z : Value) (bytes : Nat) (h1 : P.underlying t = some (.slice e)) (hinfo : (P.info? e).map (fun i => (i.zero, i.size, i.bytes)) = some (some z, 1, bytes)) (hby : bytes ≤ 16)
    (C : Int) (n : Nat) (hl : a.eval l = .int .i64 0) (hc : a.eval c = .int .i64 C) (hC : C = (n : Int)) (hn : n ≤ 1000000) (b4 : base ≤ w.heap.size)
    (hK : ∀ w', Ov w' base e (.slice (some ⟨w.heap.size, 0, none⟩) 0 n) [] → w.grownBy w' none → wpList P ops Q rest (a.put o.dst (.slice (some ⟨w.heap.size, 0, none⟩) 0 n)) w') :
    wpList P ops Q (o :: rest) a w := by
  obtain ⟨i, hi, hi0, hi1, hi2⟩ := info_parts hinfo
  have hm : bytes * n ≤ 16 * 1000000 := Nat.mul_le_mul hby hn
  exact Go.wpList_make_own w hg l c t hop base e i z 1 h1 hi hi0 hi1 .i64 .i64 C n hl hc hC (by rw [hi2]; omega) (by unfold maxLen; omega) b4 hK
end Go.Proofs.Ytkflekaibfkicaa
