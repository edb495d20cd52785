/- The closed facts that EidTells's row asks of the program. (Made by cf.py.) -/
import Derived.Test.YtlecbblmaadpiaaGreatDoorRows
import Derived.Test.YtlecbblmaadpiaaGreatDoorChecked
import Derived.JoinedCond
import Derived.Deep.DeepHandedRow
import Derived.KernelRfl
namespace Go.Proofs.YtlecbblmaadpiaaGreatDoor
set_option maxRecDepth 100000 in
set_option maxHeartbeats 8000000 in
theorem eidTells_closed : joinedFacts Tryz.pinned.checked.prog 3 Tryz.f3 (OpenSpec.ofChange Rows.eidTellsSpec).bare Rows.eidTellsRow = true := by
  unfold joinedFacts
  repeat' (with_reducible refine Bool.and_eq_true_iff.2 ⟨?_, ?_⟩)
  all_goals (as_aux_lemma => kernel_rfl)
end Go.Proofs.YtlecbblmaadpiaaGreatDoor
