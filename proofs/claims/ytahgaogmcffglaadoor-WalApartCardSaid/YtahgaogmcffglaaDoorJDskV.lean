/- The statement's own disk: Crash. -/
import Derived.Test.YtahgaogmcffglaaDoorJDskY
namespace Go.Proofs.YtahgaogmcffglaaDoor
open Go.RowKit

theorem tornW_snoc {w : Nat × List UInt8} {k : Int} : ∀ (ws : List (Nat × List UInt8)) (ks : List Int) (S : List (List UInt8)), ws.length = ks.length → tornW S (ws ++ [w]) (ks ++ [k]) = (tornW S ws ks).set w.1 (torn k ((tornW S ws ks)[w.1]?.getD []) w.2)
  | [], [], _, _ => rfl
  | [], _ :: _, _, h => by simp at h
  | _ :: _, [], _, h => by simp at h
  | x :: ws, y :: ks, S, h => by
    rw [List.cons_append, List.cons_append, tornW, tornW_snoc ws ks _ (by simpa using h), tornW]
theorem tornW_take : ∀ (ws : List (Nat × List UInt8)) (ks : List Int) (S : List (List UInt8)) (m : Nat), ws.length ≤ m ∨ ks.length ≤ m → tornW S (ws.take m) (ks.take m) = tornW S ws ks
  | [], ks, S, m, _ => by rw [List.take_nil]; unfold tornW; rfl
  | w :: ws, [], S, m, _ => by rw [List.take_nil, tornW_nil, tornW_nil]
  | w :: ws, k :: ks, S, 0, h => by simp at h
  | w :: ws, k :: ks, S, m + 1, h => by
    rw [List.take_succ_cons, List.take_succ_cons, tornW, tornW, tornW_take ws ks _ m (by simpa using h)]
theorem part_2 {old new : List UInt8} : part old new 0 32 = torn 2 old new := by
  unfold part torn
  rw [if_neg (by decide), if_pos rfl]
  simp
theorem part_3 {old new : List UInt8} (h1 : old.length = 64) (h2 : new.length = 64) : part old new 32 64 = torn 3 old new := by
  unfold part torn
  rw [if_neg (by decide), if_neg (by decide), if_pos rfl]
  have e1 : old.drop 64 = [] := List.drop_eq_nil_of_le (by omega)
  have e2 : (new.drop 32).take (64 - 32) = new.drop 32 := List.take_of_length_le (by simp; omega)
  rw [e1, e2, List.append_nil]
def Dk.crash (D : Dk) (ks : List Int) : Dk := ⟨tornW D.secs D.waits ks, [], true, false, D.left⟩

end Go.Proofs.YtahgaogmcffglaaDoor
