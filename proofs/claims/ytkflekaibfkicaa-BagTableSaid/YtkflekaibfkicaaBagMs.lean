/- Tables from ByteArray to Int: keys and entries as data. (Made by gen/bagt.py.) -/
import Derived.Test.YtkflekaibfkicaaBagA
import Derived.Test.YtkflekaibfkicaaBagK
import Derived.DeepKeys4
namespace Go.Proofs.Ytkflekaibfkicaa
open Go.RowKit Go.Maps

theorem sbytes_inj {a b : ByteArray} (h : a.data.toList = b.data.toList) : a = b := by
  cases a with | mk a => cases b with | mk b => exact congrArg ByteArray.mk (Array.toList_inj.1 h)
/-- A place, an entry. -/
abbrev smk (k : ByteArray) : Value := .agg #[.string k, .bool false]
abbrev sen (k : ByteArray) (v : Int) : Value := .agg #[.string k, .int .i64 v]
def senc (k : ByteArray) (v : Int) : DataW Unit := .agg [.lit (Lit.string k.data.toList), .lit (Lit.int .i64 v)]
/-- How an entry reads. -/
def srd : Value → Option (DataW Unit × List MemPlace)
  | .agg cs => (match cs.toList with | [.string k, .int .i64 v] => some (senc k v, []) | _ => none)
  | _ => none
theorem srd_mk (k : ByteArray) (v : Int) : srd (sen k v) = some (senc k v, []) := rfl
theorem srd_inv {x : Value} {y : DataW Unit × List MemPlace} (h : srd x = some y) : ∃ k v, x = sen k v ∧ y = (senc k v, []) := by
  unfold srd at h
  split at h
  · rename_i cs
    split at h
    · rename_i k v hl
      injection h with h
      exact ⟨k, v, by show Value.agg cs = Value.agg #[.string k, .int .i64 v]; rw [← Array.toArray_toList (xs := cs), hl], h.symm⟩
    · cases h
  · cases h
theorem senc_inj {k k' : ByteArray} {v v' : Int} (h : senc k v = senc k' v') : k = k' ∧ v = v' := by
  unfold senc at h
  injection h with h
  injection h with h1 h2
  injection h2 with h2 _
  injection h1 with h1
  injection h2 with h2
  have e1 : k = k' := by first | exact sbytes_inj (by injection h1) | (injection h1)
  have e2 : v = v' := by first | exact sbytes_inj (by injection h2) | (injection h2)
  exact ⟨e1, e2⟩
theorem smk_inj (a b : ByteArray) (h : smk a = smk b) : a = b := by
  unfold smk at h
  simpa using h
theorem slaid : laidOutB Try.prog = true := by kernel_rfl
theorem srow : 80 < Try.prog.types.size := of_decide_eq_true (by kernel_rfl)
theorem slaw : Keyed Try.prog 80 := Keyed.of_law (deep_law_laid slaid (m := 2) (by omega) srow (by kernel_rfl) (by rw [Try.underlying80]))
theorem skey (k : ByteArray) (h : k.size ≤ maxLen) : ∃ kl, keyOf Try.prog 80 (smk k) = some kl := by
  unfold keyOf
  rw [Try.underlying80]
  have h1 : Try.prog.keyType 80 = true := by kernel_rfl
  have h2 : Try.prog.cellsOf 80 = 2 := by kernel_rfl
  have h3 : Try.prog.cellsOf 9 = 1 := by kernel_rfl
  have h4 : Try.prog.cellsOf 4 = 1 := by kernel_rfl
  have h5 : ∀ d, Try.prog.keyLits (d + 2) 80 [.string k, .bool false] = some [Lit.string k.data.toList, .bool false] := fun d => by
    have e1 : Try.prog.keyLits (d + 1) 9 [.string k] = some [Lit.string k.data.toList] := by
      unfold Program.keyLits
      rw [Try.underlying9]
      simp [h]
    have e2 : Try.prog.keyLits (d + 1) 4 [.bool false] = some [.bool false] := by
      unfold Program.keyLits
      rw [Try.underlying4]
    unfold Program.keyLits
    rw [Try.underlying80]
    simp [h2, h3, h4, e1, e2]
  have h6 : Try.prog.types.size = (Try.prog.types.size - 1) + 1 := by have : 0 < Try.prog.types.size := of_decide_eq_true (by kernel_rfl); omega
  have h7 := h5 (Try.prog.types.size - 1)
  have h8 : Try.prog.types.size - 1 + 2 = Try.prog.types.size + 1 := by omega
  rw [h8] at h7
  have h9 : Value.formed Try.prog 80 (smk k) = true := by simp [Value.formed, Try.underlying80, h2]
  refine ⟨.string (keyBytes [Lit.string k.data.toList, .bool false]), ?_⟩
  show (if (Try.prog.keyType 80 && (smk k).formed Try.prog 80) = true then (Try.prog.keyLits (Try.prog.types.size + 1) 80 [.string k, .bool false]).map _ else none) = _
  rw [h1, h9, h7]
  rfl
theorem szero (w : World) : (zeroValue 83).run Try.prog w = .ok (sen ⟨#[]⟩ 0) w := by kernel_rfl
end Go.Proofs.Ytkflekaibfkicaa
