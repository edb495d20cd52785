/- errors.As at a target whose element is a struct of one number, an error by value: nil gives false; the very type is a hit. After the guide's worked text on errors.As. -/
import Derived.Test.YtanbjifdcplmnaaGreatDoorTAsW
import Derived.Test.YtanbjifdcplmnaaGreatDoorTEidS
import Derived.Test.YtanbjifdcplmnaaGreatDoorTNumG
import Derived.LaidEql
import Derived.Stop.Asserts
import Derived.RowKitTokens
import Derived.Stop.IfaceNil
namespace Go.Proofs.YtanbjifdcplmnaaGreatDoor
open Go.RowKit Go.Extern.Stop Go.Stop Go.Extern

theorem bas_valueOfP (t : Addr) (w : World) : (ReflectliteValue.unpack (.iface 95 (.pointer (some t)))).run Tryz.prog w
    = .ok (.agg #[.pointer (some ⟨6, 95, none⟩), .pointer (some ⟨w.heap.size, 0, none⟩), .int .u64 150]) (w.alloc (.cells #[.pointer (some t)] 95)) := by kernel_rfl
theorem bas_typeP (a : Addr) (w : World) : (ReflectliteValue.methodAny (ReflectliteValue.valueError "reflectlite.Value.Type" 0) (fun t _ _ _ => ReflectliteType.toType t) #[.agg #[.pointer (some ⟨6, 95, none⟩), .pointer (some a), .int .u64 150]]).run Tryz.prog w
    = .ok (.iface 155 (.agg #[.pointer (some ⟨6, 95, none⟩)])) w := by kernel_rfl
theorem bas_methodKind (n : Nat) (h : Value) (w : World) : (Go.method (n + 8) 155 (.agg #[h]) "Kind").run Tryz.prog w = .ok (155, h) w := by kernel_rfl
theorem bas_kindP (w : World) : ((ReflectliteType.abiMethod fun t => (fun a : Nat => Value.int IntKind.u8 (a : Int)) <$> Rtype.kind t) #[.pointer (some ⟨6, 95, none⟩)]).run Tryz.prog w = .ok (.int .u8 22) w := by kernel_rfl
theorem bas_kindT (w : World) : ((ReflectliteType.abiMethod fun t => (fun a : Nat => Value.int IntKind.u8 (a : Int)) <$> Rtype.kind t) #[.pointer (some ⟨6, 89, none⟩)]).run Tryz.prog w = .ok (.int .u8 25) w := by kernel_rfl
theorem bas_partsP (a : Addr) (w : World) : (ReflectliteValue.parts (.agg #[.pointer (some ⟨6, 95, none⟩), .pointer (some a), .int .u64 150])).run Tryz.prog w = .ok (some (95, a, 150)) w := by kernel_rfl
theorem bas_isNilP (a p : Addr) (W : World) (ha : W.cell? a = some (.pointer (some p))) :
    (ReflectliteValue.method (ReflectliteValue.valueError "reflectlite.Value.IsNil" 0) ReflectliteValue.isNil #[.agg #[.pointer (some ⟨6, 95, none⟩), .pointer (some a), .int .u64 150]]).run Tryz.prog W = .ok (.bool false) W := by
  rw [rlm]
  simp only [Sem.run_bind, bas_partsP, Result.andThen]
  simp [ReflectliteValue.isNil, loadVar, isAgg, underlying, Tryz.underlying95, ha, Result.andThen]
theorem bas_methodElem (n : Nat) (h : Value) (w : World) : (Go.method (n + 8) 155 (.agg #[h]) "Elem").run Tryz.prog w = .ok (168, .agg #[h]) w := by kernel_rfl
theorem bas_methodImplements (n : Nat) (h : Value) (w : World) : (Go.method (n + 8) 155 (.agg #[h]) "Implements").run Tryz.prog w = .ok (169, .agg #[h]) w := by kernel_rfl
theorem bas_methodAssignableTo (n : Nat) (h : Value) (w : World) : (Go.method (n + 8) 155 (.agg #[h]) "AssignableTo").run Tryz.prog w = .ok (166, .agg #[h]) w := by kernel_rfl
theorem bas_elemP (w : World) : (ReflectliteType.method ReflectliteType.elem #[.agg #[.pointer (some ⟨6, 95, none⟩)]]).run Tryz.prog w = .ok (.iface 155 (.agg #[.pointer (some ⟨6, 89, none⟩)])) w := by kernel_rfl
theorem bas_implementsT (w : World) : (ReflectliteType.relation "Implements" ReflectliteType.implements_ #[.agg #[.pointer (some ⟨6, 89, none⟩)], .iface 155 (.agg #[.pointer (some ⟨6, 60, none⟩)])]).run Tryz.prog w = .ok (.bool true) w := by kernel_rfl
theorem bas_typeOfT (v : Value) (w : World) : (ReflectliteType.typeOf #[.iface 89 v]).run Tryz.prog w = .ok (.iface 155 (.agg #[.pointer (some ⟨6, 89, none⟩)])) w := by kernel_rfl
theorem bas_assignableT (w : World) : (ReflectliteType.relation "AssignableTo" ReflectliteType.assignableTo #[.agg #[.pointer (some ⟨6, 89, none⟩)], .iface 155 (.agg #[.pointer (some ⟨6, 89, none⟩)])]).run Tryz.prog w = .ok (.bool true) w := by kernel_rfl
theorem bas_valueOfT (z : Int) (s : ByteArray) (w : World) : (ReflectliteValue.unpack (.iface 89 (.agg #[.int .i64 z, .string s]))).run Tryz.prog w
    = .ok (.agg #[.pointer (some ⟨6, 89, none⟩), .pointer (some ⟨w.heap.size, 0, none⟩), .int .u64 153]) (w.alloc (.cells #[.int .i64 z, .string s] 89)) := by kernel_rfl
theorem bas_elemOfP (w : World) : (Rtype.elem? 95).run Tryz.prog w = .ok (some 89) w := by kernel_rfl
theorem bas_mkT (p : Addr) (w : World) : (ReflectliteValue.mk 89 p ReflectliteValue.flagAddr).run Tryz.prog w = .ok (.agg #[.pointer (some ⟨6, 89, none⟩), .pointer (some p), .int .u64 409]) w := by kernel_rfl
theorem bas_elemVP (a p : Addr) (W : World) (ha : W.cell? a = some (.pointer (some p))) :
    (ReflectliteValue.method (ReflectliteValue.valueError "reflectlite.Value.Elem" 0) ReflectliteValue.elem #[.agg #[.pointer (some ⟨6, 95, none⟩), .pointer (some a), .int .u64 150]]).run Tryz.prog W
      = .ok (.agg #[.pointer (some ⟨6, 89, none⟩), .pointer (some p), .int .u64 409]) W := by
  rw [rlm]
  simp only [Sem.run_bind, bas_partsP, Result.andThen]
  simp [ReflectliteValue.elem, loadVar, isAgg, underlying, Tryz.underlying95, ha, Result.andThen, bas_elemOfP, bas_mkT]
theorem bas_partsTa (a : Addr) (w : World) : (ReflectliteValue.parts (.agg #[.pointer (some ⟨6, 89, none⟩), .pointer (some a), .int .u64 409])).run Tryz.prog w = .ok (some (89, a, 409)) w := by kernel_rfl
theorem bas_partsT (a : Addr) (w : World) : (ReflectliteValue.parts (.agg #[.pointer (some ⟨6, 89, none⟩), .pointer (some a), .int .u64 153])).run Tryz.prog w = .ok (some (89, a, 153)) w := by kernel_rfl
theorem bas_directT (w : World) : (Rtype.directlyAssignable 89 89).run Tryz.prog w = .ok true w := by kernel_rfl
theorem bas_sizeT (w : World) : (sizeOf 89).run Tryz.prog w = .ok 2 w := by kernel_rfl
/-- (Value).Set: the fault at 'ta' gets what the Value's own variable 'b' holds. -/
theorem bas_setT (ta b : Addr) (z : Int) (s : ByteArray) (old old1 : Value) (W : World) (hsb : b.spot = none) (hst : ta.spot = none) (hb : W.cell? b = some (.int .i64 z)) (hb1 : W.cell? (b.add 1) = some (.string s))
    (ht : W.cell? ta = some old) (hf : W.frozen? ta = false) (ht1 : W.cell? (ta.add 1) = some old1) (hf1 : W.frozen? (ta.add 1) = false) :
    (ReflectliteValue.set #[.agg #[.pointer (some ⟨6, 89, none⟩), .pointer (some ta), .int .u64 409], .agg #[.pointer (some ⟨6, 89, none⟩), .pointer (some b), .int .u64 153]]).run Tryz.prog W
      = .ok (.tuple #[]) ((W.setCell ta (.int .i64 z)).setCell (ta.add 1) (.string s)) := by
  obtain ⟨bb, bo, bs⟩ := b
  obtain ⟨tb, toff, ts⟩ := ta
  simp only at hsb hst
  subst hsb hst
  rw [rls]
  simp only [Sem.run_bind, bas_partsTa, bas_partsT, Result.andThen]
  simp [ReflectliteValue.flagAddr, loadVar, isAgg, underlying, Tryz.underlying89, Result.andThen, bas_directT, storeVar, Value.cells, storeCells, Addr.add]
  have hl := run_loadCells_list (P := Tryz.prog) W ⟨bb, bo, none⟩ [.int .i64 z, .string s] (fun j v hj => by
    match j with
    | 0 => cases hj; simpa [Addr.add] using hb
    | 1 => cases hj; exact hb1
    | j + 2 => simp at hj)
  simp only [List.length_cons, List.length_nil, Nat.zero_add] at hl
  simp only [Addr.add] at ht1 hf1
  have g1 : (W.setCell ⟨tb, toff, none⟩ (.int .i64 z)).cell? ⟨tb, toff + 1, none⟩ = some old1 := by
    rw [World.cell?_setCell_other _ _ _ _ (by simp)]
    simpa using ht1
  have g2 : (W.setCell ⟨tb, toff, none⟩ (.int .i64 z)).frozen? ⟨tb, toff + 1, none⟩ = false := by
    rw [World.frozen?_setCell]
    simpa using hf1
  rw [hl]
  simp [storeCells, Addr.add]
  rw [run_store Tryz.prog W ⟨tb, toff, none⟩ _ _ (by rfl)]
  simp [ht, hf]
  rw [run_store Tryz.prog _ ⟨tb, toff + 1, none⟩ _ _ (by rfl)]
  simp [g1, g2]
end Go.Proofs.YtanbjifdcplmnaaGreatDoor
/- errors.As at a target whose element is a struct of one number, an error of that very type by value: a hit: '*target' is set. -/
namespace Go.Proofs.YtanbjifdcplmnaaGreatDoor
open Go.RowKit Go.Extern.Stop Go.Stop Go.Extern

set_option maxRecDepth 100000 in
set_option maxHeartbeats 4000000 in
theorem bas_as_hit (z : Int) (s : ByteArray) (tb : Nat) (a : Addr) (old old1 : Value) (w : World) (_hsa : a.spot = none) (ha : w.cell? a = some (.pointer (some ⟨tb, 0, none⟩))) (ht0 : w.cell? ⟨tb, 0, none⟩ = some old) (hf0 : w.frozen? ⟨tb, 0, none⟩ = false) (ht1 : w.cell? ⟨tb, 1, none⟩ = some old1) (hf1 : w.frozen? ⟨tb, 1, none⟩ = false) :
    Calls Tryz.prog 68 #[.iface 89 (.agg #[.int .i64 z, .string s]), .iface 95 (.pointer (some ⟨tb, 0, none⟩)), .agg #[.pointer (some ⟨6, 95, none⟩), .pointer (some a), .int .u64 150], .iface 155 (.agg #[.pointer (some ⟨6, 89, none⟩)])] w
      fun ev w' => ev = .returned (.bool true) ∧ Below tb w w' ∧ w'.cell? ⟨tb, 0, none⟩ = some (.int .i64 z) := by
  have h47 := @run_callFunc_extern Tryz.prog 65 _ (fun args => ReflectliteValue.unpack (args.getD 0 (.tuple #[]))) Tryz.func65 (by kernel_rfl) (by kernel_rfl) (by kernel_rfl) (by kernel_rfl)
  have h52 := @run_callFunc_extern Tryz.prog 94 _ ReflectliteType.typeOf Tryz.func94 (by kernel_rfl) (by kernel_rfl) (by kernel_rfl) (by kernel_rfl)
  have h77 := @run_callFunc_extern Tryz.prog 166 _ (ReflectliteType.relation "AssignableTo" ReflectliteType.assignableTo) Tryz.func166 (by kernel_rfl) (by kernel_rfl) (by kernel_rfl) (by kernel_rfl)
  have h53 := @run_callFunc_extern Tryz.prog 95 _ (ReflectliteValue.method (ReflectliteValue.valueError "reflectlite.Value.Elem" 0) ReflectliteValue.elem) Tryz.func95 (by kernel_rfl) (by kernel_rfl) (by kernel_rfl) (by kernel_rfl)
  have h54 := @run_callFunc_extern Tryz.prog 96 _ ReflectliteValue.set Tryz.func96 (by kernel_rfl) (by kernel_rfl) (by kernel_rfl) (by kernel_rfl)
  have tO := bas_typeOfT
  have mA := bas_methodAssignableTo
  have aT := bas_assignableT
  have vT := bas_valueOfT
  have hal : a.block < w.heap.size := World.block_lt_of_cell? w _ ha
  have htl : tb < w.heap.size := World.block_lt_of_cell? w _ ht0
  have el := bas_elemVP a ⟨tb, 0, none⟩ (w.alloc (.cells #[.pointer (some ⟨6, 95, none⟩), .pointer (some a), .int .u64 150] 119)) ((World.cell?_alloc_lt _ _ a hal).trans ha)
  have st := bas_setT ⟨tb, 0, none⟩ ⟨w.heap.size + 1, 0, none⟩ z s old old1 ((w.alloc (.cells #[.pointer (some ⟨6, 95, none⟩), .pointer (some a), .int .u64 150] 119)).alloc (.cells #[.int .i64 z, .string s] 89)) rfl rfl
    (by rw [World.cell?_alloc_at _ _ _ _ (by simp)]; rfl)
    (by show World.cell? _ ⟨w.heap.size + 1, 1, none⟩ = _; rw [World.cell?_alloc_at _ _ _ _ (by simp)]; rfl)
    (by rw [World.cell?_alloc_lt _ _ ⟨tb, 0, none⟩ (by simp; omega), World.cell?_alloc_lt _ _ ⟨tb, 0, none⟩ htl]; exact ht0)
    (by rw [World.frozen?_alloc_old _ _ ⟨tb, 0, none⟩ (by simp; omega), World.frozen?_alloc_old _ _ ⟨tb, 0, none⟩ (Nat.ne_of_lt htl)]; exact hf0)
    (by show World.cell? _ ⟨tb, 1, none⟩ = _; rw [World.cell?_alloc_lt _ _ ⟨tb, 1, none⟩ (by simp; omega), World.cell?_alloc_lt _ _ ⟨tb, 1, none⟩ htl]; exact ht1)
    (by show World.frozen? _ ⟨tb, 1, none⟩ = _; rw [World.frozen?_alloc_old _ _ ⟨tb, 1, none⟩ (by simp; omega), World.frozen?_alloc_old _ _ ⟨tb, 1, none⟩ (Nat.ne_of_lt htl)]; exact hf1)
  simp only [show (⟨tb, 0, none⟩ : Addr).add 1 = ⟨tb, 1, none⟩ from rfl] at st
  go_enter Tryz.func68, Tryz.ntmps68
  go_wp2
  refine wp_loop_rounds 1 ?_
  rw [rounds_succ]
  go_wp2
  go_ret
  refine ⟨rfl, ((((Below.refl tb w).setCell (p := ⟨tb, 0, none⟩) (Nat.le_refl _) _).setCell (p := ⟨tb, 1, none⟩) (Nat.le_refl _) _).alloc (by simp [World.setCell]; omega) _).alloc (by simp [World.setCell]; omega) _, ?_⟩
  rw [World.cell?_alloc_lt _ _ ⟨tb, 0, none⟩ (by simp [World.setCell]; omega), World.cell?_alloc_lt _ _ ⟨tb, 0, none⟩ (by simp [World.setCell]; omega), World.cell?_setCell_other _ _ _ _ (by simp)]
  exact World.cell?_setCell_same _ _ _ ht0

set_option maxRecDepth 100000 in
set_option maxHeartbeats 4000000 in
theorem bas_hit (z : Int) (s : ByteArray) (tb : Nat) (old old1 : Value) (w : World) (hg : LaidE w) (ht0 : w.cell? ⟨tb, 0, none⟩ = some old) (hf0 : w.frozen? ⟨tb, 0, none⟩ = false) (ht1 : w.cell? ⟨tb, 1, none⟩ = some old1) (hf1 : w.frozen? ⟨tb, 1, none⟩ = false) :
    Calls Tryz.prog 48 #[.iface 89 (.agg #[.int .i64 z, .string s]), .iface 95 (.pointer (some ⟨tb, 0, none⟩))] w
      fun ev w' => ev = .returned (.bool true) ∧ Below tb w w' ∧ w'.cell? ⟨tb, 0, none⟩ = some (.int .i64 z) := by
  have h47 := @run_callFunc_extern Tryz.prog 65 _ (fun args => ReflectliteValue.unpack (args.getD 0 (.tuple #[]))) Tryz.func65 (by kernel_rfl) (by kernel_rfl) (by kernel_rfl) (by kernel_rfl)
  have h48 := @run_callFunc_extern Tryz.prog 66 _ (ReflectliteValue.methodAny (ReflectliteValue.valueError "reflectlite.Value.Type" 0) (fun t _ _ _ => ReflectliteType.toType t)) Tryz.func66 (by kernel_rfl) (by kernel_rfl) (by kernel_rfl) (by kernel_rfl)
  have h49 := @run_callFunc_extern Tryz.prog 67 _ (ReflectliteValue.method (ReflectliteValue.valueError "reflectlite.Value.IsNil" 0) ReflectliteValue.isNil) Tryz.func67 (by kernel_rfl) (by kernel_rfl) (by kernel_rfl) (by kernel_rfl)
  have h69 := @run_callFunc_extern Tryz.prog 155 _ (ReflectliteType.abiMethod fun t => do pure (.int .u8 (← Rtype.kind t))) Tryz.func155 (by kernel_rfl) (by kernel_rfl) (by kernel_rfl) (by kernel_rfl)
  have h79 := @run_callFunc_extern Tryz.prog 168 _ (ReflectliteType.method ReflectliteType.elem) Tryz.func168 (by kernel_rfl) (by kernel_rfl) (by kernel_rfl) (by kernel_rfl)
  have h80 := @run_callFunc_extern Tryz.prog 169 _ (ReflectliteType.relation "Implements" ReflectliteType.implements_) Tryz.func169 (by kernel_rfl) (by kernel_rfl) (by kernel_rfl) (by kernel_rfl)
  have f6 := bas_valueOfP
  have f7 := bas_typeP
  have mK := bas_methodKind
  have mE := bas_methodElem
  have mI := bas_methodImplements
  have kP := bas_kindP
  have kT := bas_kindT
  have eP := bas_elemP
  have iT := bas_implementsT
  have htl : tb < w.heap.size := World.block_lt_of_cell? w _ ht0
  have hlt := hg.lt
  have n8 := bas_isNilP ⟨w.heap.size, 0, none⟩ ⟨tb, 0, none⟩ ((w.alloc (.cells #[.pointer (some ⟨tb, 0, none⟩)] 95)).alloc (.cells #[.pointer (some ⟨6, 95, none⟩), .pointer (some ⟨w.heap.size, 0, none⟩), .int .u64 150] 119)) (by simp)
  have hg2 : ((w.alloc (.cells #[.pointer (some ⟨tb, 0, none⟩)] 95)).alloc (.cells #[.pointer (some ⟨6, 95, none⟩), .pointer (some ⟨w.heap.size, 0, none⟩), .int .u64 150] 119)).cell? ⟨0, 0, none⟩ = some (.iface 155 (.agg #[.pointer (some ⟨6, 60, none⟩)])) := by
    rw [World.cell?_alloc_lt _ _ ⟨0, 0, none⟩ (Nat.lt_of_lt_of_le hlt (by simp)), World.cell?_alloc_lt _ _ ⟨0, 0, none⟩ hlt]; exact hg
  have C := Lib.hid (bas_as_hit z s tb ⟨w.heap.size, 0, none⟩ old old1 ((w.alloc (.cells #[.pointer (some ⟨tb, 0, none⟩)] 95)).alloc (.cells #[.pointer (some ⟨6, 95, none⟩), .pointer (some ⟨w.heap.size, 0, none⟩), .int .u64 150] 119)) rfl (by simp)
    (by rw [World.cell?_alloc_lt _ _ ⟨tb, 0, none⟩ (by simp; omega), World.cell?_alloc_lt _ _ ⟨tb, 0, none⟩ htl]; exact ht0)
    (by rw [World.frozen?_alloc_old _ _ ⟨tb, 0, none⟩ (by simp; omega), World.frozen?_alloc_old _ _ ⟨tb, 0, none⟩ (Nat.ne_of_lt htl)]; exact hf0)
    (by rw [World.cell?_alloc_lt _ _ ⟨tb, 1, none⟩ (by simp; omega), World.cell?_alloc_lt _ _ ⟨tb, 1, none⟩ htl]; exact ht1)
    (by rw [World.frozen?_alloc_old _ _ ⟨tb, 1, none⟩ (by simp; omega), World.frozen?_alloc_old _ _ ⟨tb, 1, none⟩ (Nat.ne_of_lt htl)]; exact hf1))
  have HT := Lib.hid htl
  clear hg hlt htl ht0 hf0 ht1 hf1
  go_enter Tryz.func48, Tryz.ntmps48
  go_wp2_with fail
  refine C.out.mono ?_
  rintro e w1 ⟨rfl, hb1, hc1⟩
  have HB := Lib.hid hb1
  have HC := Lib.hid hc1
  clear hb1 hc1
  go_wp2_with fail
  go_ret
  exact ⟨rfl, (((Below.refl tb w).alloc (Nat.le_of_lt HT.out) _).alloc (Nat.le_trans (Nat.le_of_lt HT.out) (by simp)) _).trans HB.out, HC.out⟩
end Go.Proofs.YtanbjifdcplmnaaGreatDoor
/- What numberOf, check, Check and sumSize of layer 5 return. -/
namespace Go.Proofs.YtanbjifdcplmnaaGreatDoor
open Go.RowKit

set_option maxRecDepth 100000 in
set_option maxHeartbeats 1000000 in
theorem bnumber_any (z : Int) (s : ByteArray) (w : World) (hL : LaidE w) :
    Calls Tryz.prog 24 #[.iface 89 (.agg #[.int .i64 z, .string s])] w fun e w' => e = .returned (.int .i64 z) ∧ Below w.heap.size w w' := by
  have C1 := Lib.hid (bas_hit z s w.heap.size (.int .i64 0) (.string ⟨#[]⟩) (w.alloc (.cells #[.int .i64 0, .string ⟨#[]⟩] 89)) (hL.below ((Below.refl _ _).alloc (Nat.le_refl _) _) hL.lt) (by simp) (by simp) (by simp) (by simp))
  clear hL
  go_enter Tryz.func24, Tryz.ntmps24
  go_wp2_with fail
  refine C1.out.mono ?_
  rintro e w1 ⟨rfl, hb, hc⟩
  have HB := Lib.hid hb
  clear hb
  go_wp2_with fail
  go_ret
  exact ⟨rfl, ((Below.refl _ _).alloc (Nat.le_refl _) _).trans HB.out⟩

set_option maxRecDepth 100000 in
set_option maxHeartbeats 1000000 in
theorem bnumber_nil (w : World) :
    Calls Tryz.prog 24 #[.nilIface] w fun e w' => e = .returned (.int .i64 0) ∧ Below w.heap.size w w' := by
  have C1 := Lib.hid (as_nil (.iface 95 (.pointer (some ⟨w.heap.size, 0, none⟩))) (w.alloc (.cells #[.int .i64 0, .string ⟨#[]⟩] 89)))
  go_enter Tryz.func24, Tryz.ntmps24
  go_wp2_with fail
  refine C1.out.mono ?_
  rintro e w1 ⟨rfl, rfl⟩
  go_wp2_with fail
  go_ret
  exact ⟨rfl, (Below.refl _ _).alloc (Nat.le_refl _) _⟩

/-- Why there is no block, as a value. -/
def bfl (z : Int) (s : ByteArray) : Value := .iface 89 (.agg #[.int .i64 z, .string s])
/-- A call gives nil if ok, else a fault of the number z. -/
def WhyB (ok : Bool) (z : Int) (w : World) (e : Ending) (w' : World) : Prop := Below w.heap.size w w' ∧ ((ok = true ∧ e = .returned .nilIface) ∨ (ok = false ∧ ∃ s, e = .returned (bfl z s)))
def blkV (t n f : Nat) (c : Int) (A : Option Addr) (nd cd : Nat) : Value := .agg #[.int .u64 (t : Int), .int .u64 (n : Int), .int .u64 (f : Int), .int .i64 c, .slice A nd cd]

set_option maxRecDepth 100000 in
set_option maxHeartbeats 2000000 in
theorem bcheck_any (t n f : Nat) (c : Int) (A : Option Addr) (nd cd : Nat) (d : List UInt8) (w : World) (hd : d.length = nd) :
    Calls Tryz.prog 39 #[blkV t n f c A nd cd] w (WhyB (blkOk ⟨t, n, f, c, d⟩) 50 w) := by
  obtain ⟨R, hR⟩ : ∃ R, R = blkOk ⟨t, n, f, c, d⟩ := ⟨_, rfl⟩
  rw [← hR]
  have hR2 : R = (decide (1 ≤ (t : Int) ∧ (t : Int) ≤ 255) && (decide (¬ (n : Int) = 0) && ((decide (¬ (t : Int) = 1) || decide ((n : Int) = 1)) && (decide (0 ≤ c ∧ c ≤ 2) && decide ((nd : Int) ≤ 4096))))) := by
    rw [hR, ← hd, Bool.eq_iff_iff, blkOk_iff]
    simp only [Bool.and_eq_true, Bool.or_eq_true, decide_eq_true_eq]
    omega
  clear hR hd
  unfold blkV
  generalize (t : Int) = T at *
  generalize (n : Int) = N at *
  by_cases h1 : T < 1
  · have hr : R = false := by rw [hR2]; simp; omega
    subst hr
    clear hR2
    go_enter Tryz.func39, Tryz.ntmps39
    go_wp2_with fail
    go_ret
    exact ⟨(Below.refl _ _).alloc (Nat.le_refl _) _, .inr ⟨rfl, _, rfl⟩⟩
  have h1' : 1 ≤ T := by omega
  by_cases h2 : 255 < T
  · have hr : R = false := by rw [hR2]; simp; omega
    subst hr
    clear hR2
    go_enter Tryz.func39, Tryz.ntmps39
    go_wp2_with fail
    go_ret
    exact ⟨(Below.refl _ _).alloc (Nat.le_refl _) _, .inr ⟨rfl, _, rfl⟩⟩
  have h2' : T ≤ 255 := by omega
  by_cases h3 : N = 0
  · have hr : R = false := by rw [hR2]; simp [h3]
    subst hr h3
    clear hR2
    go_enter Tryz.func39, Tryz.ntmps39
    go_wp2_with fail
    go_ret
    exact ⟨(Below.refl _ _).alloc (Nat.le_refl _) _, .inr ⟨rfl, _, rfl⟩⟩
  have h3' : (N == 0) = false := by simpa using h3
  by_cases h4 : T = 1 ∧ N ≠ 1
  · have hr : R = false := by rw [hR2]; simp [h4.1, h4.2]
    obtain ⟨h4, h5⟩ := h4
    have h5' : (N == 1) = false := by simpa using h5
    subst hr h4
    clear hR2
    go_enter Tryz.func39, Tryz.ntmps39
    go_wp2_with fail
    go_ret
    exact ⟨(Below.refl _ _).alloc (Nat.le_refl _) _, .inr ⟨rfl, _, rfl⟩⟩
  have h6 : (decide (¬ T = 1) || decide (N = 1)) = true := by simp; omega
  have h7 : decide (¬ N = 0) = true := by simpa using h3
  have h8 : decide (1 ≤ T ∧ T ≤ 255) = true := by simp; omega
  rw [h6, h7, h8, Bool.true_and, Bool.true_and, Bool.true_and] at hR2
  clear h6 h7 h8
  have key : ∀ (hq : T ≠ 1 ∨ N = 1), Calls Tryz.prog 39 #[.agg #[.int .u64 T, .int .u64 N, .int .u64 (f : Int), .int .i64 c, .slice A nd cd]] w (WhyB R 50 w) := by
    intro hq
    by_cases hT : T = 1
    · obtain rfl : N = 1 := by omega
      subst hT
      clear hq h1 h1' h2 h2' h3 h3' h4
      by_cases h9 : c < 0
      · have hr : R = false := by rw [hR2]; simp; omega
        subst hr
        clear hR2
        go_enter Tryz.func39, Tryz.ntmps39
        go_wp2_with fail
        go_ret
        exact ⟨(Below.refl _ _).alloc (Nat.le_refl _) _, .inr ⟨rfl, _, rfl⟩⟩
      have h9' : 0 ≤ c := by omega
      by_cases h10 : 2 < c
      · have hr : R = false := by rw [hR2]; simp; omega
        subst hr
        clear hR2
        go_enter Tryz.func39, Tryz.ntmps39
        go_wp2_with fail
        go_ret
        exact ⟨(Below.refl _ _).alloc (Nat.le_refl _) _, .inr ⟨rfl, _, rfl⟩⟩
      have h10' : c ≤ 2 := by omega
      by_cases h11 : (4096 : Int) < nd
      · have hr : R = false := by rw [hR2]; simp; omega
        have h11' : 4096 < nd := by omega
        subst hr
        clear hR2
        go_enter Tryz.func39, Tryz.ntmps39
        go_wp2_with fail
        go_ret
        exact ⟨(Below.refl _ _).alloc (Nat.le_refl _) _, .inr ⟨rfl, _, rfl⟩⟩
      have h11' : nd ≤ 4096 := by omega
      have hr : R = true := by rw [hR2]; simp; omega
      subst hr
      clear hR2
      go_enter Tryz.func39, Tryz.ntmps39
      go_wp2_with fail
      go_ret
      exact ⟨(Below.refl _ _).alloc (Nat.le_refl _) _, .inl ⟨rfl, rfl⟩⟩
    · have hT' : (T == 1) = false := by simpa using hT
      clear hq h4
      by_cases h9 : c < 0
      · have hr : R = false := by rw [hR2]; simp; omega
        subst hr
        clear hR2
        go_enter Tryz.func39, Tryz.ntmps39
        go_wp2_with fail
        go_ret
        exact ⟨(Below.refl _ _).alloc (Nat.le_refl _) _, .inr ⟨rfl, _, rfl⟩⟩
      have h9' : 0 ≤ c := by omega
      by_cases h10 : 2 < c
      · have hr : R = false := by rw [hR2]; simp; omega
        subst hr
        clear hR2
        go_enter Tryz.func39, Tryz.ntmps39
        go_wp2_with fail
        go_ret
        exact ⟨(Below.refl _ _).alloc (Nat.le_refl _) _, .inr ⟨rfl, _, rfl⟩⟩
      have h10' : c ≤ 2 := by omega
      by_cases h11 : (4096 : Int) < nd
      · have hr : R = false := by rw [hR2]; simp; omega
        have h11' : 4096 < nd := by omega
        subst hr
        clear hR2
        go_enter Tryz.func39, Tryz.ntmps39
        go_wp2_with fail
        go_ret
        exact ⟨(Below.refl _ _).alloc (Nat.le_refl _) _, .inr ⟨rfl, _, rfl⟩⟩
      have h11' : nd ≤ 4096 := by omega
      have hr : R = true := by rw [hR2]; simp; omega
      subst hr
      clear hR2
      go_enter Tryz.func39, Tryz.ntmps39
      go_wp2_with fail
      go_ret
      exact ⟨(Below.refl _ _).alloc (Nat.le_refl _) _, .inl ⟨rfl, rfl⟩⟩
  exact key (by omega)

set_option maxRecDepth 100000 in
set_option maxHeartbeats 1000000 in
theorem sumsize_any (k : Int) (w : World) :
    Calls Tryz.prog 47 #[.int .i64 k] w fun e w' => e = .returned (.int .i64 (sumN k : Int)) ∧ Below w.heap.size w w' := by
  have C1 := Lib.hid (bytes_any k none 0 0 0 [] w Rd.nil_ (by decide))
  have hl := crcBytes_len k []
  generalize sumN k = N at *
  have HL := Lib.hid hl
  clear hl
  go_enter Tryz.func47, Tryz.ntmps47
  go_wp2_with fail
  refine C1.out.mono ?_
  rintro e w1 ⟨A, n, c, rfl, hr, hc, hb⟩
  have HB := Lib.hid hb
  obtain rfl : N = n := HL.out.symm.trans hr.1
  clear hb hr
  go_wp2_with fail
  go_ret
  exact ⟨rfl, HB.out⟩
end Go.Proofs.YtanbjifdcplmnaaGreatDoor
