/- The statement's own disk: Read. -/
import Derived.Test.YtahgaogmcffglaaDoorJDskY
namespace Go.Proofs.YtahgaogmcffglaaDoor
open Go.RowKit

theorem flat_at : ∀ {S : List (List UInt8)} {i j : Nat} (_ : ∀ s ∈ S, s.length = 64) (hi : i < S.length) (_ : j < 64), S.flatten[i * 64 + j]? = (S[i])[j]?
  | [], _, _, _, hi, _ => absurd hi (Nat.not_lt_zero _)
  | s :: S, 0, j, h, _, hj => by
    have hs := h s (by simp)
    rw [List.flatten_cons, Nat.zero_mul, Nat.zero_add, List.getElem?_append_left (by omega)]
    rfl
  | s :: S, i + 1, j, h, hi, hj => by
    have hs := h s (by simp)
    rw [List.flatten_cons, List.getElem?_append_right (by omega), show (i + 1) * 64 + j - s.length = i * 64 + j by omega, flat_at (fun y hy => h y (by simp [hy])) (by simpa using hi) hj]
    rfl
theorem cut_mid13 {ga M P Q : Nat} (h1 : P ≤ Q) (h2 : Q ≤ M) (h3 : Q - P = 64) (h4 : P < M) (W : World) : (Instr.slice 33 (.slice (some ⟨ga, 0, none⟩) M M) (some (.int .i64 (P : Int))) (some (.int .i64 (Q : Int))) none).run Tryd.prog W = .ok (.slice (some ⟨ga, P, none⟩) 64 (M - P)) W := by
  have hz := size_u8
  have ht := Tryd.underlying33
  have i1 : (0 : Int) ≤ (Q : Int) := by omega
  have i2 : (Q : Int) ≤ (M : Int) := by omega
  have i3 : (0 : Int) ≤ (P : Int) := by omega
  have i4 : (P : Int) ≤ (Q : Int) := by omega
  have e4 : ¬ M = P := by omega
  go_simp
/-- What Read answers. -/
def ReadR (D : Dk) (at_ : Int) (w : World) (e : Ending) (w' : World) : Prop := Below w.heap.size w w' ∧
  ((D.dead = true ∧ e = .returned (.tuple #[.slice none 0 0, .int .i64 131])) ∨ (D.dead = false ∧ (at_ < 0 ∨ (D.secs.length : Int) ≤ at_) ∧ e = .returned (.tuple #[.slice none 0 0, .int .i64 130])) ∨
   (D.dead = false ∧ 0 ≤ at_ ∧ at_ < (D.secs.length : Int) ∧ ∃ v l, (layW D.secs D.waits)[at_.toNat]? = some l ∧ e = .returned (.tuple #[v, .int .i64 0]) ∧ Ob w' w.heap.size 5 v l))

end Go.Proofs.YtahgaogmcffglaaDoor
