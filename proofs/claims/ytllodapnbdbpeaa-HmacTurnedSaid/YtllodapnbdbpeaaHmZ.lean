/- Arrays of bytes compared. No program. -/
import Derived.Test.YtllodapnbdbpeaaShaL
import Derived.Laws.CopyOwn
import Derived.ChangeKeysEq
namespace Go.Proofs.Ytllodapnbdbpeaa
open Go.RowKit

section
variable {P : Program} (w : World)
theorem u8_beq (x y : UInt8) : ((x.toNat : Int) == (y.toNat : Int)) = (x == y) := by
  by_cases h : x = y
  · subst h; simp
  · have : ¬ ((x.toNat : Int) = (y.toNat : Int)) := fun e => h (UInt8.toNat_inj.1 (by omega))
    rw [beq_eq_false_iff_ne.2 this, beq_eq_false_iff_ne.2 h]
theorem eqItems_bytes (d : Nat) (e : TypeId) (he : P.underlying e = some (.int .u8)) (l l' : List UInt8) : ∀ is : List Nat, (∀ i ∈ is, i < l.length ∧ i < l'.length) →
    (Op.eqItems (d + 1) e 1 (l.map bv).toArray (l'.map bv).toArray is).run P w = .ok (is.all fun i => l.getD i 0 == l'.getD i 0) w
  | [], _ => by simp [Op.eqItems]
  | i :: is, h => by
    obtain ⟨h1, h2⟩ := h i (by simp)
    have ih := eqItems_bytes d e he l l' is (fun j hj => h j (by simp [hj]))
    have p1 : (part e (l.map bv).toArray (i * 1)).run P w = .ok (.int .u8 ((l.getD i 0).toNat : Int)) w := by
      simp [part, isAgg, run_underlying he, h1, bv, List.getD]
    have p2 : (part e (l'.map bv).toArray (i * 1)).run P w = .ok (.int .u8 ((l'.getD i 0).toNat : Int)) w := by
      simp [part, isAgg, run_underlying he, h2, bv, List.getD]
    simp only [Op.eqItems, Sem.run_bind, p1, p2, Result.andThen_ok, run_equalIn_int w d e .u8 .u8 _ _ he, u8_beq, List.all_cons]
    cases hb : (l.getD i 0 == l'.getD i 0)
    · simp
    · simpa using ih
theorem all_range (l l' : List UInt8) (n : Nat) (h : l.length = n) (h' : l'.length = n) : ((List.range n).all fun i => l.getD i 0 == l'.getD i 0) = (l == l') := by
  by_cases e : l = l'
  · subst e; simp
  · rw [beq_eq_false_iff_ne.2 e, List.all_eq_false]
    refine Classical.byContradiction fun hn => e ?_
    apply List.ext_getElem (by omega)
    intro i h1 h2
    refine Classical.byContradiction fun hne => hn ⟨i, by simp; omega, ?_⟩
    simp [List.getD, h1, h2, hne]
/-- Two arrays of bytes compared whole. -/
theorem run_eqlB (d : Nat) {t e : TypeId} {n : Nat} {i : TypeInfo} (hu : P.underlying t = some (.array n e)) (hi : P.info? e = some i) (hc : P.cellsOf e = 1) (he : P.underlying e = some (.int .u8)) (l l' : List UInt8) (h : l.length = n) (h' : l'.length = n) :
    (Op.equalIn (d + 2) t (.agg (l.map bv).toArray) (.agg (l'.map bv).toArray)).run P w = .ok (l == l') w := by
  rw [run_equalIn_array w (d + 1) _ _ hu hi, hc, eqItems_bytes w d e he l l' _ (fun i hi => by have := List.mem_range.1 hi; omega), all_range l l' n h h']
/-- The array that a slice of at least that many bytes reads as: what is loaded behind a conversion of a slice to an array. -/
theorem run_ldB {t e : TypeId} {n : Nat} {B : Nat} {A : Option Addr} {l : List UInt8} (hu : P.underlying t = some (.array n e)) (hi : (P.info? t).map (·.size) = some n) (hn : 0 < n) (h : Rd w B A n l) :
    ∃ ad, A = some ad ∧ (loadVar t ad).run P w = .ok (.agg (l.map bv).toArray) w := by
  obtain ⟨b, o, rfl, _, hc⟩ := h.2 hn
  refine ⟨_, rfl, ?_⟩
  have hl : (loadCells ⟨b, o, none⟩ (l.map bv).length).run P w = .ok (l.map bv).toArray w :=
    run_loadCells_list (P := P) w ⟨b, o, none⟩ (l.map bv) (fun j v hv => by
      have hadd : (⟨b, o, none⟩ : Addr).add j = ⟨b, o + j, none⟩ := by unfold Addr.add; split <;> simp_all
      have hj : j < l.length := by
        rcases Nat.lt_or_ge j l.length with h1 | h1
        · exact h1
        · rw [List.getElem?_eq_none (by simpa using h1)] at hv; cases hv
      rw [hadd, hc j (by rw [← h.1]; exact hj), ← hv]
      simp [List.getD, hj, bv])
  cases hq : P.info? t with
  | none => simp [hq] at hi
  | some i =>
    have hs : i.size = n := by simpa [hq] using hi
    have hagg : (isAgg t).run P w = .ok true w := by
      unfold isAgg
      rw [Sem.run_bind, run_underlying hu w]
      simp
    rw [List.length_map, h.1] at hl
    simp [loadVar, Sem.run_bind, hagg, sizeOf, typeInfo, hq, hs, hl]
end
end Go.Proofs.Ytllodapnbdbpeaa
