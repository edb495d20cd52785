import Derived.Test.YteckeagobafoiaaGreatDoorRows
import Derived.Test.YteckeagobafoiaaGreatDoorChecked
import Derived.JoinedCond
import Derived.Deep.DeepHandedRow
import Derived.KernelRfl
namespace Go.Proofs.YteckeagobafoiaaGreatDoor
set_option maxRecDepth 100000
set_option maxHeartbeats 16000000
theorem bibTwo_closed:joinedFacts Tryz.pinned.checked.prog 3 Tryz.f3 (OpenSpec.ofChange Rows.bibTwoSpec).bare Rows.bibTwoRow=true:=by
 unfold joinedFacts
 repeat' (with_reducible refine Bool.and_eq_true_iff.2 ⟨?_,?_⟩)
 all_goals (as_aux_lemma=>kernel_rfl)
theorem bibBack_closed:joinedFacts Tryz.pinned.checked.prog 7 Tryz.f7 (OpenSpec.ofChange Rows.bibBackSpec).bare Rows.bibBackRow=true:=by
 unfold joinedFacts
 repeat' (with_reducible refine Bool.and_eq_true_iff.2 ⟨?_,?_⟩)
 all_goals (as_aux_lemma=>kernel_rfl)
end Go.Proofs.YteckeagobafoiaaGreatDoor
