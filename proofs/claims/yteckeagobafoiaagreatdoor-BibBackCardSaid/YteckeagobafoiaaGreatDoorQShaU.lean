import Derived.Test.YteckeagobafoiaaGreatDoorQShaT
import Derived.Deep.QuietTactic
namespace Go.Proofs.YteckeagobafoiaaGreatDoor
open Go.RowKit
theorem Ow.eight {w:World} {base g cap:Nat} {t:TypeId} {S:St} (h:Ow w base t (.slice (some ⟨g,0,none⟩) 8 cap) S.list) :
  w.cell? ⟨g,0,none⟩=some (.int .u32 (S.a.toNat:Int))∧w.cell? ⟨g,1,none⟩=some (.int .u32 (S.b.toNat:Int))∧w.cell? ⟨g,2,none⟩=some (.int .u32 (S.c.toNat:Int))∧w.cell? ⟨g,3,none⟩=some (.int .u32 (S.d.toNat:Int)) ∧
  w.cell? ⟨g,4,none⟩=some (.int .u32 (S.e.toNat:Int))∧w.cell? ⟨g,5,none⟩=some (.int .u32 (S.f.toNat:Int))∧w.cell? ⟨g,6,none⟩=some (.int .u32 (S.g.toNat:Int))∧w.cell? ⟨g,7,none⟩=some (.int .u32 (S.h.toNat:Int)) :=
 ⟨h.cell rfl (by decide),h.cell rfl (by decide),h.cell rfl (by decide),h.cell rfl (by decide),h.cell rfl (by decide),h.cell rfl (by decide),h.cell rfl (by decide),h.cell rfl (by decide)⟩
end Go.Proofs.YteckeagobafoiaaGreatDoor
