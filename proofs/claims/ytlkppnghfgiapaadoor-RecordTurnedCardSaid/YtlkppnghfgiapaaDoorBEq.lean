/- What bytes.Equal returns. -/
import Derived.Test.YtlkppnghfgiapaaDoorBase
namespace Go.Proofs.YtlkppnghfgiapaaDoor
open Go.RowKit

set_option maxRecDepth 100000 in
set_option maxHeartbeats 1000000 in
theorem bequal_any (A A' : Option Addr) (n c n' c' B : Nat) (l l' : List UInt8) (w : World) (h : Rd w B A n l) (h' : Rd w B A' n' l') :
    Calls Tryd.prog 33 #[.slice A n c, .slice A' n' c'] w fun e w' => e = .returned (.bool (l == l')) ∧ w = w' := by
  have r1 := run_str (P := Tryd.prog) (c := c) h 23 5 9 Tryd.underlying23 Tryd.underlying5 Tryd.underlying9
  have r2 := run_str (P := Tryd.prog) (c := c') h' 23 5 9 Tryd.underlying23 Tryd.underlying5 Tryd.underlying9
  have e1 : (⟨l.toArray⟩ : ByteArray).toList = l := by rw [Lib.toList_data]
  have e2 : (⟨l'.toArray⟩ : ByteArray).toList = l' := by rw [Lib.toList_data]
  have HE := Lib.hid (And.intro e1 e2)
  generalize (⟨l.toArray⟩ : ByteArray) = s at *
  generalize (⟨l'.toArray⟩ : ByteArray) = s' at *
  clear h h' e1 e2
  go_enter Tryd.func33, Tryd.ntmps33
  go_wp2_with fail
  go_ret
  refine ⟨?_, rfl⟩
  have h : (s.toList == s'.toList) = (l == l') := by rw [HE.out.1, HE.out.2]
  rw [← h]
  rfl

end Go.Proofs.YtlkppnghfgiapaaDoor
