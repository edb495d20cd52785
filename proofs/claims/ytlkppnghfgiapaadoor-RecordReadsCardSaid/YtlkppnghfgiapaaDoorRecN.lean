/- Records, plain: what layer 14's heads ask. No program's number stands here. -/
import Derived.Test.YtlkppnghfgiapaaDoorRecM
namespace Go.Proofs.YtlkppnghfgiapaaDoor
open Go.RowKit

theorem heads14_len : (frameR 9 ⟨1, [5]⟩).length = 8 := frameR_len _ _
theorem heads14_four : (frameR 9 ⟨1, [5]⟩).take 4 = [0, 1, 1, 5] := by
  show (bodyR ⟨1, [5]⟩ ++ sumR 9 ⟨1, [5]⟩).take 4 = _
  rw [List.take_append_of_le_length (by rw [bodyR_len]; decide)]
  decide
theorem heads14_tail : scanR 9 [0, 0, 0] = ([], 0) := by
  rw [scanR_step, if_neg]
  unfold nextR
  rw [if_neg (by decide), if_pos (.inl (by decide))]
  decide
theorem heads14_scan : scanR 9 (frameR 9 ⟨1, [5]⟩ ++ [0, 0, 0]) = ([⟨1, [5]⟩], 8) := by
  have h := scan_frames 9 [0, 0, 0] [⟨1, [5]⟩] (by intro r hr; rw [List.mem_singleton.1 hr]; decide)
  rw [heads14_tail, show framesR 9 [⟨1, [5]⟩] = frameR 9 ⟨1, [5]⟩ by simp [framesR]] at h
  rw [h, heads14_len]
  rfl
theorem heads14_salt : frameR 8 ⟨1, [5]⟩ ≠ frameR 9 ⟨1, [5]⟩ := by
  intro h
  have h2 : sumR 8 ⟨1, [5]⟩ = sumR 9 ⟨1, [5]⟩ := List.append_cancel_left h
  revert h2
  decide +kernel
theorem heads14_other : scanR 8 (frameR 9 ⟨1, [5]⟩) = ([], 0) := by
  rw [scanR_step, if_neg]
  intro h
  obtain ⟨r, e, -, -, hf⟩ := next_ok h
  have hl : lenR (frameR 9 ⟨1, [5]⟩) = 1 := bodyR_two ⟨1, [5]⟩ _ (by decide)
  have ht : takenR (frameR 9 ⟨1, [5]⟩) = ⟨1, [5]⟩ := by
    unfold takenR
    rw [hl]
    show (⟨((bodyR ⟨1, [5]⟩ ++ sumR 9 ⟨1, [5]⟩).getD 2 0).toNat, ((bodyR ⟨1, [5]⟩ ++ sumR 9 ⟨1, [5]⟩).drop 3).take 1⟩ : Rcd) = _
    rw [bodyR_at2, bodyR_drop]
    rfl
  unfold nextR at h
  rw [hl, ht, heads14_len] at h
  rw [if_neg (by decide), if_neg (by rw [show (frameR 9 ⟨1, [5]⟩).getD 2 0 = 1 from bodyR_at2 _ _]; decide), if_neg (by decide), if_neg] at h
  · revert h; decide
  · rw [List.take_of_length_le (by rw [heads14_len]; decide)]
    exact heads14_salt
end Go.Proofs.YtlkppnghfgiapaaDoor
