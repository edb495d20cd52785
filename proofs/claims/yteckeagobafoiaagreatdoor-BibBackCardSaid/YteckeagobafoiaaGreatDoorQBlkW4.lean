import Derived.Test.YteckeagobafoiaaGreatDoorQKMake
import Derived.Test.YteckeagobafoiaaGreatDoorQRfG
import Derived.Test.YteckeagobafoiaaGreatDoorQShaT
import Derived.Laws.MakeOwn
import Derived.Deep.RegionHeld3
namespace Go.Proofs.YteckeagobafoiaaGreatDoor
open Go.RowKit
theorem RdIs.app {W:World} {B b:Nat}:∀ {l m:List Itm} {o:Nat},RdIs W B b o l→RdIs W B b (o+l.length*4) m→RdIs W B b o (l++m)
 | [],m,o,_,h=>by simpa using h
 | x::r,m,o,h,h2=>by
  rw [List.cons_append]
  rw [RdIs] at h ⊢
  refine ⟨h.1,RdIs.app h.2 ?_⟩
  rw [List.length_cons,show o+(r.length+1)*4=o+4+r.length*4 by omega] at h2
  exact h2
end Go.Proofs.YteckeagobafoiaaGreatDoor
