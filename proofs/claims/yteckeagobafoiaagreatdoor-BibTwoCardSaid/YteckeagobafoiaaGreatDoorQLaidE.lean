import Derived.Test.YteckeagobafoiaaGreatDoorCards
import Derived.Test.YteckeagobafoiaaGreatDoorTie
import Derived.WalkKit
import Derived.LaidLaws
import Derived.LaidHandle
namespace Go.Proofs.YteckeagobafoiaaGreatDoor
open Go.RowKit
def LaidE (w:World):Prop:=w.cell? ⟨2,0,none⟩=some (.iface 233 (.agg #[.pointer (some ⟨8,78,none⟩)]))
theorem laid_g : Tryz.prog.globalNamed "errors.errorType" = some 2 := by kernel_rfl
theorem laid_rt : (Tryz.prog.cutTypes.find? (·.1 == "internal/reflectlite.rtype")).map (·.2) = some 233 := by kernel_rfl
theorem laid_row:((List.range Tryz.prog.types.size).filter fun t=>Tryz.prog.rowNamed t [101,114,114,111,114])=[78]:=by kernel_rfl
theorem laid_handle:typeHandle Tryz.prog 78=.pointer (some ⟨8,78,none⟩):=by kernel_rfl
theorem laidE_of {W : World} (h : laidMetH Tryz.prog [("errors.errorType", Rows.laid_errors_errorType)] W) : LaidE W := by
 have h' : laidMet Tryz.prog [] W ∧ handlesMet Tryz.prog [("errors.errorType", Rows.laid_errors_errorType)] W := h
 obtain ⟨name,u,ty,e1,e2,e3,e4,e5⟩:=h'.2 _ (List.mem_singleton.2 rfl)
 have en:name=[101,114,114,111,114]:=(Option.some.inj e1).symm
 subst en
 obtain rfl:=Option.some.inj (laid_rt.symm.trans e2)
 have hm:ty∈(List.range Tryz.prog.types.size).filter fun t=>Tryz.prog.rowNamed t [101,114,114,111,114]:=List.mem_filter.2 ⟨List.mem_range.2 e3,e4⟩
 rw [laid_row] at hm
 obtain rfl:=List.mem_singleton.1 hm
 rw [laid_handle] at e5
 have:=World.var?_cell laid_g e5 0
 simpa [LaidE] using this
theorem LaidE.below {B:Nat} {w w':World} (h:LaidE w) (hb:Below B w w') (hB:2<B):LaidE w':=(hb.cell (p:=⟨2,0,none⟩) hB).trans h
theorem LaidE.lt {w:World} (h:LaidE w):2<w.heap.size:=World.block_lt_of_cell? w _ h
noncomputable def laidWorld (os:Os):World :=
 { World.holding Tryz.prog os ⟨#[],#[],[]⟩ with heap:=(World.holding Tryz.prog os ⟨#[],#[],[]⟩).heap.modify 2 fun
   | .cells _ t frozen=>.cells #[.iface 233 (.agg #[.pointer (some ⟨8,78,none⟩)])] t frozen
   | o=>o }
end Go.Proofs.YteckeagobafoiaaGreatDoor
