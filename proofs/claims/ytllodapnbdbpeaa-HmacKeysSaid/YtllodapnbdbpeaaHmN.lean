/- append of a row of noughts that is never laid (append of make): onto an own slice of bytes. No program's functions. -/
import Derived.Test.YtllodapnbdbpeaaHmD
namespace Go.Proofs.Ytllodapnbdbpeaa
open Go.RowKit

theorem zeroCells_u8 (m : Nat) : Builtin.zeroCells (#[.int .u8 0] : Array Value) m = ((List.replicate m (0 : UInt8)).map bv).toArray := by
  apply Array.ext
  · simp [Builtin.zeroCells]
  · intro i h1 h2
    simp [Builtin.zeroCells, bv, Nat.mod_one]

section
variable {P : Program} (w : World)
theorem run_mk (base : Nat) (t ty e ti : TypeId) (ht : P.underlying t = some (.slice e)) (hti : P.underlying ti = some (.int .i64)) (hinfo : (P.info? e).map (fun i => (i.zero, i.size, i.bytes)) = some (some (.int .u8 0), 1, 1))
    (v : Value) (l : List UInt8) (hown : Ob w base e v l) (m : Nat) (hbound : l.length + m ≤ 140737488355328) (hbase : base ≤ w.heap.size) :
    ∃ v' w', (Builtin.append_ #[t, ti] ty #[v, .int .i64 m]).run P w = .ok v' w' ∧ Ob w' base e v' (l ++ List.replicate m 0) ∧ w.grownBy w' v.ownBlock := by
  obtain ⟨i, hi, hzz⟩ := Option.map_eq_some_iff.1 hinfo
  simp only [Prod.mk.injEq] at hzz
  obtain ⟨hz, hs, hb⟩ := hzz
  have hwm : IntKind.i64.wrap (m : Int) = (m : Int) := by rw [IntKind.wrap_i64]; omega
  have hneg : ¬ (m : Int) < 0 := by omega
  have hzc : (Value.int IntKind.u8 0).cells = #[.int .u8 0] := rfl
  have h48 : ¬ (281474976710656 : Int) < (m : Int) := by omega
  have h63 : l.length + m ≤ maxLen := by unfold maxLen; omega
  have hlen : ((l ++ List.replicate m (0 : UInt8)).map bv).length = (l ++ List.replicate m (0 : UInt8)).length * 1 := by simp
  have hL : (l ++ List.replicate m (0 : UInt8)).length = l.length + m := by simp
  -- what the growing arm leaves
  have grown : ∀ (old : Nat) (row : Option Nat),
      (w.drew.alloc (.cells ((l.map bv).toArray ++ Builtin.zeroCells #[.int .u8 0] m ++ Builtin.zeroCells #[.int .u8 0] (grownCap w (l.length + m) old e - (l.length + m))) e)).ownsRow base e 1
        (.slice (some ⟨w.heap.size, 0, none⟩) (l.length + m) (grownCap w (l.length + m) old e)) (l.length + m) ((l ++ List.replicate m (0 : UInt8)).map bv) ∧
      w.grownBy (w.drew.alloc (.cells ((l.map bv).toArray ++ Builtin.zeroCells #[.int .u8 0] m ++ Builtin.zeroCells #[.int .u8 0] (grownCap w (l.length + m) old e - (l.length + m))) e)) row := by
    intro old row
    have hge := grownCap_ge w (l.length + m) old e
    have hcm : grownCap w (l.length + m) old e ≤ maxLen := grownCap_le_maxLen w (l.length + m) old e h63
    refine ⟨⟨by simp, .inr ⟨w.heap.size, _, _, rfl, hbase, heap_alloc_new w.drew _, hge, hcm, ?_, ?_⟩⟩, ⟨rfl, rfl, rfl, by simp, fun k hk _ => (World.grownBy_alloc w.drew _ none).block k hk (by simp)⟩⟩
    · simp only [Array.size_append, List.size_toArray, size_zeroCells, List.length_map]
      simp
      omega
    · rw [zeroCells_u8 m]
      simp only [Array.toList_append, List.append_assoc]
      rw [← List.append_assoc, ← List.map_append, Nat.mul_one]
      refine List.take_left' (by simp)
  rcases hown.2 with ⟨rfl, h0⟩ | ⟨g, cap, cur, rfl, hbg, hg, hnc, hcm, hcs, htake⟩
  · have hl : l = [] := List.eq_nil_of_length_eq_zero h0
    subst hl
    by_cases hm : m = 0
    · subst hm
      have hw0 : IntKind.i64.wrap 0 = 0 := hwm
      refine ⟨.slice none 0 0, w, ?_, Ob.nil_ w base e, World.grownBy.refl w _⟩
      simp [Builtin.append_, run_underlying ht, run_underlying hti, sizeOf, typeInfo, hi, hb, asInt, asIntOf, hw0]
    · have hm0 : 0 < m := by omega
      have h48' : ¬ (281474976710656 < Builtin.nextslicecap m 0) := by rw [nextslicecap_zero hm0]; omega
      have h63' : ¬ (9223372036854775807 < (m : Int)) := by omega
      have hgr := grown 0 (Value.ownBlock (.slice none 0 0))
      simp only [List.length_nil, Nat.zero_add, List.map_nil, List.nil_append, Array.empty_append] at hgr
      refine ⟨_, _, ?_, by unfold Ob; rw [hL]; simpa using hgr.1, hgr.2⟩
      simp [Builtin.append_, run_underlying ht, run_underlying hti, sizeOf, typeInfo, zeroValue, hi, hz, hs, hb, asInt, asIntOf, hwm, hneg, hzc, hm, h63', h48', h48, Question.forced, run_firstCells_none, newRow, grownCap]
  · by_cases hroom : l.length + m ≤ cap
    · by_cases hm : m = 0
      · subst hm
        have hw0 : IntKind.i64.wrap 0 = 0 := hwm
        refine ⟨_, w, ?_, by simpa using hown, World.grownBy.refl w _⟩
        simp [Builtin.append_, run_underlying ht, run_underlying hti, sizeOf, typeInfo, hi, hb, asInt, asIntOf, hw0, hnc, storeCells]
      · obtain ⟨Z, hZ, hZl, hZc⟩ : ∃ Z : List Value, Z = (List.replicate m (0 : UInt8)).map bv ∧ Z.length = m ∧ ∀ u ∈ Z, u.oneCell' = true := ⟨_, rfl, by simp, bv_one _⟩
        have hz1 := zeroCells_u8 m
        rw [← hZ] at hz1
        have hst := run_storeCells_at P g l.length e Z 0 cur w hg (by omega) hZc
        simp only [Nat.add_zero] at hst
        refine ⟨.slice (some ⟨g, 0, none⟩) (l.length + m) cap, w.setRow g (cur.toList.take l.length ++ Z ++ cur.toList.drop (l.length + Z.length)).toArray, ?_, ?_, ⟨rfl, rfl, rfl, by simp, fun k _ hk => setRow_other w g k _ (fun e => hk (by simp [Value.ownBlock, e]))⟩⟩
        · simp [Builtin.append_, run_underlying ht, run_underlying hti, sizeOf, typeInfo, zeroValue, hi, hz, hs, hb, asInt, asIntOf, hwm, hneg, hzc, hm, hroom, h48, Addr.add_lit, hz1, hst]
        · unfold Ob
          rw [hL, List.map_append, ← hZ]
          refine ⟨by simp [hZl], .inr ⟨g, cap, _, rfl, hbg, setRow_heap w g cur _ e _ hg, hroom, hcm, ?_, ?_⟩⟩
          · simp only [List.size_toArray, List.length_append, List.length_take, List.length_drop, Array.length_toList]; omega
          · rw [Nat.mul_one] at htake
            rw [htake, Nat.mul_one]
            exact List.take_left' (by simp [hZl])
    · have hg0 : cap < l.length + m := by omega
      have hm : m ≠ 0 := by omega
      have hnr : ¬ (l.length + m ≤ cap) := hroom
      have h48' : ¬ (281474976710656 < Builtin.nextslicecap (l.length + m) cap) := by have := growslice_fits (bytes := 1) hg0 (by omega); omega
      have h63' : ¬ (9223372036854775807 < ((l.length : Int) + (m : Int))) := by omega
      have hfo := run_firstCells_some (P := P) w.drew 1 l.length ⟨g, 0, none⟩ l.length cap (l.map bv) (by simp) (by simpa using (World.ownsRow.cells hown (g := g) rfl))
      have hgr := grown cap (Value.ownBlock (.slice (some ⟨g, 0, none⟩) l.length cap))
      refine ⟨_, _, ?_, by unfold Ob; rw [hL]; exact hgr.1, hgr.2⟩
      simp [Builtin.append_, run_underlying ht, run_underlying hti, sizeOf, typeInfo, zeroValue, hi, hz, hs, hb, asInt, asIntOf, hwm, hneg, hzc, hm, hnr, h63', h48', h48, Question.forced, hfo, newRow, grownCap]

/-- As a law for 'go_wp2_with (at_builtin; refine wpList_mk ..)': append(x, make([]byte, m)...). -/
theorem wpList_mk {w : World} {ops : Array Oper} {rest : List Oper} {o : Oper} {a : Act} {Q : Exit → Act → World → Prop} (hgd : o.guard = none) (s x : Operand) (t ti : TypeId)
    (ho : o.op = .call { callee := .builtin .append, args := #[s, x], argTypes := #[t, ti] })
    (base : Nat) (e : TypeId) (ht : P.underlying t = some (.slice e)) (hti : P.underlying ti = some (.int .i64)) (hinfo : (P.info? e).map (fun i => (i.zero, i.size, i.bytes)) = some (some (.int .u8 0), 1, 1))
    (v : Value) (l : List UInt8) (hs : a.eval s = v) (hown : Ob w base e v l) (m : Nat) (hx : a.eval x = .int .i64 m)
    (hbound : l.length + m ≤ 140737488355328) (hbase : base ≤ w.heap.size)
    (h : ∀ v' w', Ob w' base e v' (l ++ List.replicate m 0) → Below base w w' → wpList P ops Q rest (a.put o.dst v') w') : wpList P ops Q (o :: rest) a w := by
  refine wpList_plain hgd fun K hK => ?_
  obtain ⟨v', w', hrun, h2, h3⟩ := run_mk (P := P) w base t o.type e ti ht hti hinfo v l hown m hbound hbase
  unfold Oper.wp execOp
  simp only [ho, resolve, invoke, builtin, Sem.run_bind, Sem.run_pure, Result.andThen_ok, List.map_toArray, List.map_cons, List.map_nil, hs, hx, hrun]
  exact hK _ _ (h v' w' h2 ⟨h3.os, h3.tape, h3.output, h3.size, fun k hk => h3.block k (by omega) (fun e => by have := (World.ownsRow.lt hown k e.symm).1; omega)⟩)
end
end Go.Proofs.Ytllodapnbdbpeaa
