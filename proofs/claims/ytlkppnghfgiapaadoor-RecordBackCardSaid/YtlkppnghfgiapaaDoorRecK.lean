/- Layer 14's reference: Scan. (Made by gen/RecK.py.) -/
import Derived.Test.YtlkppnghfgiapaaDoorRecJ
import Derived.Maps.AppendAt
namespace Go.Proofs.YtlkppnghfgiapaaDoor
open Go.RowKit

abbrev QR := Rcd × Option Addr × Nat × Nat
def flatQ (qs : List QR) : List Value := qs.flatMap fun q => [.int .i64 q.1.typ, .slice q.2.1 q.2.2.1 q.2.2.2]
theorem flatQ_snoc (qs : List QR) (q : QR) : flatQ (qs ++ [q]) = flatQ qs ++ [.int .i64 q.1.typ, .slice q.2.1 q.2.2.1 q.2.2.2] := by simp [flatQ]
theorem flatQ_at : ∀ (qs : List QR) (i : Nat) (q : QR), qs[i]? = some q → (flatQ qs)[i * 2]? = some (.int .i64 q.1.typ) ∧ (flatQ qs)[i * 2 + 1]? = some (.slice q.2.1 q.2.2.1 q.2.2.2)
  | [], i, q, h => by simp at h
  | x :: qs, 0, q, h => by
    simp at h
    subst h
    simp [flatQ]
  | x :: qs, i + 1, q, h => by
    have := flatQ_at qs i q (by simpa using h)
    rw [show (i + 1) * 2 = i * 2 + 1 + 1 by omega]
    simpa [flatQ] using this
theorem info_rec14 : (Tryd.prog.info? 25).map (fun i => (i.zero, i.size, i.bytes)) = some (some (.agg #[.int .i64 0, .slice none 0 0]), 2, 32) := by kernel_rfl
/-- A row of records of the call's own, whose bytes are its own. -/
def ScS (w : World) (base : Nat) (v : Value) (qs : List QR) : Prop := w.ownsRow base 25 2 v qs.length (flatQ qs) ∧ ∀ q ∈ qs, Ob w base 5 (.slice q.2.1 q.2.2.1 q.2.2.2) q.1.dat ∧ q.1.dat.length ≤ 8192
theorem ScS.below {w w' : World} {base : Nat} {v : Value} {qs : List QR} (h : ScS w base v qs) (hb : Below w.heap.size w w') : ScS w' base v qs :=
  ⟨World.ownsRow.kept h.1 (row := none) ⟨hb.os, hb.tape, hb.output, hb.size, fun k hk _ => hb.block k hk⟩ (by cases v.ownBlock <;> simp), fun q hq => ⟨(h.2 q hq).1.below hb, (h.2 q hq).2⟩⟩
/-- It reads as its records. -/
theorem ScS.rw {w : World} {base : Nat} {v : Value} {qs : List QR} (h : ScS w base v qs) : ∃ A c, v = .slice A qs.length c ∧ qs.length ≤ c ∧ RwC w w.heap.size A qs.length (qs.map (·.1)) := by
  rcases h.1.2 with ⟨hv, h0⟩ | ⟨g, cap, cur, hv, hbg, hg, hn, hm, -⟩
  · exact ⟨none, 0, by rw [hv, h0], by omega, by rw [List.length_map], fun h1 => by omega⟩
  · refine ⟨some ⟨g, 0, none⟩, cap, hv, hn, by rw [List.length_map], fun _ => ⟨g, 0, rfl, (Array.getElem?_eq_some_iff.1 hg).1, fun i r hi => ?_⟩⟩
    rw [List.getElem?_map] at hi
    obtain ⟨q, hq, rfl⟩ := Option.map_eq_some_iff.1 hi
    obtain ⟨h1, h2⟩ := flatQ_at qs i q hq
    have c1 := World.ownsRow.cells h.1 (g := g) (by rw [hv]; rfl) _ _ h1
    have c2 := World.ownsRow.cells h.1 (g := g) (by rw [hv]; rfl) _ _ h2
    rw [add_mk14] at c1 c2
    have hq' := h.2 q (List.mem_of_getElem? hq)
    have ho := hq'.1.rd_
    refine ⟨q.2.1, q.2.2.1, q.2.2.2, c1, by rw [← Nat.add_assoc] at c2; exact c2, ho.2.2.1, ?_, ho.2.1⟩
    rw [← ho.1]
    exact Nat.le_trans hq'.2 (by decide)

/-- append of one record. -/
theorem wpList_appR {w : World} {ops : Array Oper} {rest : List Oper} {o : Oper} {a : Act} {Q : Exit → Act → World → Prop} (hgd : o.guard = none) (s x : Operand)
    (ho : o.op = .call { callee := .builtin .append, args := #[s, x], argTypes := #[39, 39] })
    (base : Nat) (v : Value) (qs : List QR) (hs : a.eval s = v) (hown : ScS w base v qs) (b c : Nat) (q : QR) (hx : a.eval x = .slice (some ⟨b, 0, none⟩) 1 c) (hu0 : w.cell? ⟨b, 0, none⟩ = some (.int .i64 q.1.typ)) (hu1 : w.cell? ⟨b, 1, none⟩ = some (.slice q.2.1 q.2.2.1 q.2.2.2))
    (hlen : qs.length + 1 ≤ 4398046511104) (hbase : base ≤ w.heap.size) (hq : Ob w base 5 (.slice q.2.1 q.2.2.1 q.2.2.2) q.1.dat ∧ q.1.dat.length ≤ 8192)
    (h : ∀ v' w', ScS w' base v' (qs ++ [q]) → Below base w w' → wpList Tryd.prog ops Q rest (a.put o.dst v') w') : wpList Tryd.prog ops Q (o :: rest) a w := by
  obtain ⟨i, hi, hi0, hi1, hi2⟩ := info_parts info_rec14
  refine Go.wpList_append_own_at w hgd s x 39 ho base 25 i (.agg #[.int .i64 0, .slice none 0 0]) 2 32 Tryd.underlying39 hi hi0 hi1 hi2 rfl (by decide) v qs.length (flatQ qs) hs hown.1 ⟨b, 0, none⟩ 1 c [.int .i64 q.1.typ, .slice q.2.1 q.2.2.1 q.2.2.2] hx rfl (fun j u' hj => ?_) (fun u' hu' => ?_) (by unfold maxLen; omega) (by omega) hbase fun v' w' h2 h3 _ h5 => h v' w' ⟨?_, ?_⟩ ?_
  · rw [add_mk14]
    match j, hj with
    | 0, hj =>
      simp at hj
      subst hj
      exact hu0
    | 1, hj =>
      simp at hj
      subst hj
      exact hu1
    | j + 2, hj => simp at hj
  · simp at hu'
    rcases hu' with rfl | rfl <;> rfl
  · rw [flatQ_snoc, List.length_append, List.length_singleton]
    exact h2
  · have hk : ∀ y : QR, Ob w base 5 (.slice y.2.1 y.2.2.1 y.2.2.2) y.1.dat → Ob w' base 5 (.slice y.2.1 y.2.2.1 y.2.2.2) y.1.dat := fun y hy => by
      refine hy.kept h3 ?_
      rcases hown.1.2 with ⟨hv, -⟩ | ⟨g, cap, cur, hv, -, hg, -⟩
      · rw [hv]
        show _ ∨ _ ≠ (none : Option Nat)
        cases (Value.slice y.2.1 y.2.2.1 y.2.2.2).ownBlock with
        | none => exact .inl rfl
        | some g' => exact .inr (by simp)
      · exact .inr (by rw [hv]; exact hy.not_at14 hg (by decide))
    intro y hy
    rcases List.mem_append.1 hy with hy | hy
    · exact ⟨hk y (hown.2 y hy).1, (hown.2 y hy).2⟩
    · obtain rfl := List.mem_singleton.1 hy
      exact ⟨hk _ hq.1, hq.2⟩
  · exact ⟨h3.os, h3.tape, h3.output, h3.size, fun k hk => h3.block k (by omega) (fun e => by have := (World.ownsRow.lt hown.1 k e.symm).1; omega)⟩
end Go.Proofs.YtlkppnghfgiapaaDoor
