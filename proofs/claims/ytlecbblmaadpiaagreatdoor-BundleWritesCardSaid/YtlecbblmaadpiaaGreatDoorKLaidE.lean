import Derived.Test.YtlecbblmaadpiaaGreatDoorCards
import Derived.Test.YtlecbblmaadpiaaGreatDoorTie
import Derived.WalkKit
import Derived.LaidLaws
import Derived.LaidHandle
namespace Go.Proofs.YtlecbblmaadpiaaGreatDoor
open Go.RowKit
def LaidE (w:World):Prop:=w.cell? ⟨4,0,none⟩=some (.iface 236 (.agg #[.pointer (some ⟨11,95,none⟩)]))
theorem laid_g : Tryz.prog.globalNamed "errors.errorType" = some 4 := by kernel_rfl
theorem laid_rt : (Tryz.prog.cutTypes.find? (·.1 == "internal/reflectlite.rtype")).map (·.2) = some 236 := by kernel_rfl
theorem laid_row:((List.range Tryz.prog.types.size).filter fun t=>Tryz.prog.rowNamed t [101,114,114,111,114])=[95]:=by kernel_rfl
theorem laid_handle:typeHandle Tryz.prog 95=.pointer (some ⟨11,95,none⟩):=by kernel_rfl
theorem laidE_of {W : World} (h : laidMetH Tryz.prog [("errors.errorType", Rows.laid_errors_errorType)] W) : LaidE W := by
 have h' : laidMet Tryz.prog [] W ∧ handlesMet Tryz.prog [("errors.errorType", Rows.laid_errors_errorType)] W := h
 obtain ⟨name,u,ty,e1,e2,e3,e4,e5⟩:=h'.2 _ (List.mem_singleton.2 rfl)
 have en:name=[101,114,114,111,114]:=(Option.some.inj e1).symm
 subst en
 obtain rfl:=Option.some.inj (laid_rt.symm.trans e2)
 have hm:ty∈(List.range Tryz.prog.types.size).filter fun t=>Tryz.prog.rowNamed t [101,114,114,111,114]:=List.mem_filter.2 ⟨List.mem_range.2 e3,e4⟩
 rw [laid_row] at hm
 obtain rfl:=List.mem_singleton.1 hm
 rw [laid_handle] at e5
 have:=World.var?_cell laid_g e5 0
 simpa [LaidE] using this
theorem LaidE.below {B:Nat} {w w':World} (h:LaidE w) (hb:Below B w w') (hB:4<B):LaidE w':=(hb.cell (p:=⟨4,0,none⟩) hB).trans h
theorem LaidE.lt {w:World} (h:LaidE w):4<w.heap.size:=World.block_lt_of_cell? w _ h
noncomputable def laidWorld (os:Os):World :=
 { World.holding Tryz.prog os ⟨#[],#[],[]⟩ with heap:=(World.holding Tryz.prog os ⟨#[],#[],[]⟩).heap.modify 4 fun
   | .cells _ t frozen=>.cells #[.iface 236 (.agg #[.pointer (some ⟨11,95,none⟩)])] t frozen
   | o=>o }
end Go.Proofs.YtlecbblmaadpiaaGreatDoor
