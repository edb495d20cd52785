/- Tables from Int to ByteArray: keys and entries as data. (Made by gen/bagt.py.) -/
import Derived.Test.YtkflekaibfkicaaBagA
import Derived.Test.YtkflekaibfkicaaBagK
import Derived.DeepKeys4
namespace Go.Proofs.Ytkflekaibfkicaa
open Go.RowKit Go.Maps

theorem nbytes_inj {a b : ByteArray} (h : a.data.toList = b.data.toList) : a = b := by
  cases a with | mk a => cases b with | mk b => exact congrArg ByteArray.mk (Array.toList_inj.1 h)
/-- A place, an entry. -/
abbrev nmk (k : Int) : Value := .agg #[.int .i64 k, .bool false]
abbrev nen (k : Int) (v : ByteArray) : Value := .agg #[.int .i64 k, .string v]
def nenc (k : Int) (v : ByteArray) : DataW Unit := .agg [.lit (Lit.int .i64 k), .lit (Lit.string v.data.toList)]
/-- How an entry reads. -/
def nrd : Value → Option (DataW Unit × List MemPlace)
  | .agg cs => (match cs.toList with | [.int .i64 k, .string v] => some (nenc k v, []) | _ => none)
  | _ => none
theorem nrd_mk (k : Int) (v : ByteArray) : nrd (nen k v) = some (nenc k v, []) := rfl
theorem nrd_inv {x : Value} {y : DataW Unit × List MemPlace} (h : nrd x = some y) : ∃ k v, x = nen k v ∧ y = (nenc k v, []) := by
  unfold nrd at h
  split at h
  · rename_i cs
    split at h
    · rename_i k v hl
      injection h with h
      exact ⟨k, v, by show Value.agg cs = Value.agg #[.int .i64 k, .string v]; rw [← Array.toArray_toList (xs := cs), hl], h.symm⟩
    · cases h
  · cases h
theorem nenc_inj {k k' : Int} {v v' : ByteArray} (h : nenc k v = nenc k' v') : k = k' ∧ v = v' := by
  unfold nenc at h
  injection h with h
  injection h with h1 h2
  injection h2 with h2 _
  injection h1 with h1
  injection h2 with h2
  have e1 : k = k' := by first | exact nbytes_inj (by injection h1) | (injection h1)
  have e2 : v = v' := by first | exact nbytes_inj (by injection h2) | (injection h2)
  exact ⟨e1, e2⟩
theorem nmk_inj (a b : Int) (h : nmk a = nmk b) : a = b := by
  unfold nmk at h
  simpa using h
theorem nlaid : laidOutB Try.prog = true := by kernel_rfl
theorem nrow : 65 < Try.prog.types.size := of_decide_eq_true (by kernel_rfl)
theorem nlaw : Keyed Try.prog 65 := Keyed.of_law (deep_law_laid nlaid (m := 2) (by omega) nrow (by kernel_rfl) (by rw [Try.underlying65]))
theorem nkey (k : Int) (h : (Lit.int .i64 k).wf = true) : ∃ kl, keyOf Try.prog 65 (nmk k) = some kl := by
  unfold keyOf
  rw [Try.underlying65]
  have h1 : Try.prog.keyType 65 = true := by kernel_rfl
  have h2 : Try.prog.cellsOf 65 = 2 := by kernel_rfl
  have h3 : Try.prog.cellsOf 3 = 1 := by kernel_rfl
  have h4 : Try.prog.cellsOf 4 = 1 := by kernel_rfl
  have h5 : ∀ d, Try.prog.keyLits (d + 2) 65 [.int .i64 k, .bool false] = some [Lit.int .i64 k, .bool false] := fun d => by
    have e1 : Try.prog.keyLits (d + 1) 3 [.int .i64 k] = some [Lit.int .i64 k] := by
      unfold Program.keyLits
      rw [Try.underlying3]
      simp [h]
    have e2 : Try.prog.keyLits (d + 1) 4 [.bool false] = some [.bool false] := by
      unfold Program.keyLits
      rw [Try.underlying4]
    unfold Program.keyLits
    rw [Try.underlying65]
    simp [h2, h3, h4, e1, e2]
  have h6 : Try.prog.types.size = (Try.prog.types.size - 1) + 1 := by have : 0 < Try.prog.types.size := of_decide_eq_true (by kernel_rfl); omega
  have h7 := h5 (Try.prog.types.size - 1)
  have h8 : Try.prog.types.size - 1 + 2 = Try.prog.types.size + 1 := by omega
  rw [h8] at h7
  have h9 : Value.formed Try.prog 65 (nmk k) = true := by simp [Value.formed, Try.underlying65, h2]
  refine ⟨.string (keyBytes [Lit.int .i64 k, .bool false]), ?_⟩
  show (if (Try.prog.keyType 65 && (nmk k).formed Try.prog 65) = true then (Try.prog.keyLits (Try.prog.types.size + 1) 65 [.int .i64 k, .bool false]).map _ else none) = _
  rw [h1, h9, h7]
  rfl
theorem nzero (w : World) : (zeroValue 68).run Try.prog w = .ok (nen 0 ⟨#[]⟩) w := by kernel_rfl
end Go.Proofs.Ytkflekaibfkicaa
