/- BibTwo returns true for every input, and leaves each argument as it was. No condition. -/
import Derived.Test.YteckeagobafoiaaGreatDoorQBibG
import Derived.Test.YteckeagobafoiaaGreatDoorQBihN
import Derived.Test.YteckeagobafoiaaGreatDoorQBihW1
import Derived.Test.YteckeagobafoiaaGreatDoorQCfBibBack
import Derived.Lib.SmallJoins
import Derived.ChangeArms
import Derived.WalkKit
import Derived.ProofKit
import Derived.OpenShut
import Derived.ShutString
import Derived.ChangeOld
import Derived.Below
import Derived.SizedLaws
import Derived.Deep.DeepHandedRow
namespace Go.Proofs.YteckeagobafoiaaGreatDoor.bibTwo
set_option maxRecDepth 100000
open Go.ChangeShapes Go.WideShapes Go.ChangeAt Go.RowKit
open Go.ChangeMaps (open_string shut_string)
set_option linter.unusedVariables false
theorem own:ownKnob Tryz.prog.godebug=none:=by kernel_rfl
theorem laidOut:laidOutB Tryz.prog=true:=by kernel_rfl
theorem bytes_u8:Tryz.prog.bytesOf 5=1:=by kernel_rfl
theorem contract (H:Type) (enc:TypeId×Value→H) (W:World) (base:Nat) (args:Array Value) (ds gs:List (DataW H)) (before:List MemPlace)
  (hval0:∀ (j:Nat) t v,Tryz.f3.params[j]?=some t→args[j]?=some v→Value.okWide Tryz.prog W .any base t v)
  (hW:DataW.Whole enc Tryz.prog Tryz.f3.params.toList Rows.bibTwoSpec.vars false W args.toList ds gs before)
  (hsz0:(DataW.weightsEach Tryz.prog (Tryz.f3.params.toList++Rows.bibTwoSpec.plain.varTypes Tryz.prog) (ds++gs)).all (·≤reachBytes)=true)
  (hL:laidMetH Tryz.prog laidU W) :
  Calls Tryz.prog 3 args W fun e W'=>∃ v,e=.returned v∧Rows.bibTwoSpec.post enc Tryz.prog Tryz.f3 false true false false W args v W':=by
 have hsz:=hsz0
 have hval:=hval0
 have hW':=hW
 obtain ⟨p,q,hA0,hV,rfl,hfz,hnd⟩:=hW
 have hA:DataW.TrodAll enc Tryz.prog W 0 (fun _=>true) true Tryz.f3.params.toList args.toList ds p:=hA0
 rw [Tryz.params3] at hA hval hsz
 obtain ⟨v0,vs0,d0,ds0,p0,q0,hargs,rfl,rfl,h0,r0⟩:=trodAll_cons hA
 obtain ⟨v1,vs1,d1,ds1,p1,q1,rfl,rfl,rfl,h1,r1⟩:=trodAll_cons r0
 obtain ⟨v2,vs2,d2,ds2,p2,q2,rfl,rfl,rfl,h2,r2⟩:=trodAll_cons r1
 obtain ⟨v3,vs3,d3,ds3,p3,q3,rfl,rfl,rfl,h3,r3⟩:=trodAll_cons r2
 obtain ⟨v4,vs4,d4,ds4,p4,q4,rfl,rfl,rfl,h4,r4⟩:=trodAll_cons r3
 obtain ⟨rfl,rfl,rfl⟩:=trodAll_nil r4
 obtain rfl:args=#[v0,v1,v2,v3,v4]:=by cases args;simp_all
 obtain ⟨rfl,rfl⟩:=trodVars_none hV
 obtain ⟨A,TT,hAA,hTT⟩:=wd_of hL
 have k0:=h0
 have lt0:∀ x∈p0,x.block<W.heap.size:=by obtain ⟨m,hm⟩:=k0;exact DataW.trod_lt m _ _ _ hm
 have y0:∀ x∈DataW.weights Tryz.prog 28 d0,x≤reachBytes:=fun x hx=>by have h:=List.all_eq_true.1 hsz _ (DataW.weights_mem_each (j:=0) (t:=28) (d:=d0) rfl rfl x hx);simpa using h
 obtain ⟨b0,l0,a0,n0,c0,rfl,z0⟩:=open_bun (hval 0 28 v0 rfl rfl) h0 y0
 obtain ⟨a1,len1,cap1,rfl⟩:=okWide_slice Tryz.underlying29 (hval 1 29 v1 rfl rfl)
 have k1:=h1
 have lt1:∀ x∈p1,x.block<W.heap.size:=by obtain ⟨m,hm⟩:=k1;exact DataW.trod_lt m _ _ _ hm
 obtain ⟨l1,z1⟩:∃ l,Rd W W.heap.size a1 len1 l∧len1≤cap1∧cap1≤140737488351232:=by
  obtain ⟨fuel,hf⟩:=h1
  rcases open_ints Tryz.underlying29 Tryz.underlying5 (by kernel_rfl) hf with ⟨hcs,_⟩|⟨x,l,c,zs,hcs,_,hl,hm,hz,hd,hcell,hwz⟩
  ·
   simp [Value.cells] at hcs
   obtain ⟨rfl,rfl,rfl⟩:=hcs
   exact ⟨[],Rd.nil_,Nat.le_refl _,by decide⟩
  ·
   simp [Value.cells] at hcs
   obtain ⟨rfl,rfl,rfl⟩:=hcs
   simp only [Prod.mk.injEq] at hd
   obtain ⟨rfl,_⟩:=hd
   have hr:=sized_slice hsz (j:=1) (t:=29) (e:=5) rfl rfl Tryz.underlying29
   rw [bytes_u8] at hr
   simp only [lits,List.length_map,List.length_take,List.length_drop,reachBytes] at hr
   have hz':zs.length=cap1:=by simpa using hz
   exact ⟨_,Rd.of_ints hl hz' hcell hwz,hl,by omega⟩
 obtain ⟨a2,len2,cap2,rfl⟩:=okWide_slice Tryz.underlying29 (hval 2 29 v2 rfl rfl)
 have k2:=h2
 have lt2:∀ x∈p2,x.block<W.heap.size:=by obtain ⟨m,hm⟩:=k2;exact DataW.trod_lt m _ _ _ hm
 obtain ⟨l2,z2⟩:∃ l,Rd W W.heap.size a2 len2 l∧len2≤cap2∧cap2≤140737488351232:=by
  obtain ⟨fuel,hf⟩:=h2
  rcases open_ints Tryz.underlying29 Tryz.underlying5 (by kernel_rfl) hf with ⟨hcs,_⟩|⟨x,l,c,zs,hcs,_,hl,hm,hz,hd,hcell,hwz⟩
  ·
   simp [Value.cells] at hcs
   obtain ⟨rfl,rfl,rfl⟩:=hcs
   exact ⟨[],Rd.nil_,Nat.le_refl _,by decide⟩
  ·
   simp [Value.cells] at hcs
   obtain ⟨rfl,rfl,rfl⟩:=hcs
   simp only [Prod.mk.injEq] at hd
   obtain ⟨rfl,_⟩:=hd
   have hr:=sized_slice hsz (j:=2) (t:=29) (e:=5) rfl rfl Tryz.underlying29
   rw [bytes_u8] at hr
   simp only [lits,List.length_map,List.length_take,List.length_drop,reachBytes] at hr
   have hz':zs.length=cap2:=by simpa using hz
   exact ⟨_,Rd.of_ints hl hz' hcell hwz,hl,by omega⟩
 obtain ⟨a3,rfl,rfl,rfl,w3⟩:=open_int Tryz.underlying3 (hval 3 3 v3 rfl rfl) h3
 have k4:=h4
 have lt4:∀ x∈p4,x.block<W.heap.size:=by obtain ⟨m,hm⟩:=k4;exact DataW.trod_lt m _ _ _ hm
 obtain ⟨c40,c41,c42,c43,y40,y41,y42,y43,m4,rfl,hd4,hp4,hy40,hy41,hy42,hy43⟩:=Joins.open_agg4 Tryz.underlying25 (by kernel_rfl) cellsEid (hval 4 25 v4 rfl rfl) h4
 obtain ⟨sc4,e40,rfl,w40⟩:=DataW.trod_int Tryz.underlying23 hy40
 obtain ⟨s4,e41,rfl,w41⟩:=DataW.trod_string Tryz.underlying9 hy41
 obtain ⟨n4,e42,rfl,w42⟩:=DataW.trod_int Tryz.underlying22 hy42
 obtain ⟨u4,e43,rfl,w43⟩:=DataW.trod_int Tryz.underlying22 hy43
 simp only [List.cons.injEq,and_true] at e40 e41 e42 e43
 subst e40 e41 e42 e43
 have z4:s4.size≤140737488355328:=by
  have h:=List.all_eq_true.1 hsz _ (DataW.weights_mem_each (j:=4) (t:=25) (d:=.agg [.lit (.int .i64 sc4),.lit (.string s4.data.toList),.lit (.int .u64 n4),.lit (.int .u64 u4)]) rfl (by rw [hd4];rfl) s4.data.toList.length (by simp [DataW.weights,Tryz.underlying25,DataW.weightsEach]))
  have e:s4.data.toList.length=s4.size:=(by simp)
  rw [e] at h
  have h2:s4.size≤reachBytes:=by simpa using h
  exact Nat.le_trans h2 (by decide)
 obtain ⟨g4,hg4,rfl⟩:∃ g:Nat,g<18446744073709551616∧n4=(g:Int):=⟨n4.toNat,by have h:=wf_u64_ w42;omega,by have h:=wf_u64_ w42;omega⟩
 obtain ⟨q4',hq4,rfl⟩:∃ g:Nat,g<18446744073709551616∧u4=(g:Int):=⟨u4.toNat,by have h:=wf_u64_ w43;omega,by have h:=wf_u64_ w43;omega⟩
 clear hA0 hval0
 refine (bibTwo_walk b0 l0 a0 n0 c0 a1 len1 cap1 l1 a2 len2 cap2 l2 a3 sc4 s4 g4 q4' W A TT z0 z1 z2 w3 z4 hg4 hq4 hAA hTT).mono fun e W' ⟨he,bel⟩=>?_
 subst he
 exact ⟨_,rfl,_,_,_,[],_,[],hW',trodAll_mk1 (shut_bool Tryz.underlying4 _),(trodAll_cons_mk (Below.trod laidOut (by kernel_rfl) (of_decide_eq_true (by kernel_rfl)) k0 bel lt0) (trodAll_cons_mk (Below.trod laidOut (by kernel_rfl) (of_decide_eq_true (by kernel_rfl)) k1 bel lt1) (trodAll_cons_mk (Below.trod laidOut (by kernel_rfl) (of_decide_eq_true (by kernel_rfl)) k2 bel lt2) (trodAll_cons_mk (shut_int Tryz.underlying3 w3) (trodAll_cons_mk (Below.trod laidOut (by kernel_rfl) (of_decide_eq_true (by kernel_rfl)) k4 bel lt4) trodAll_mk0))))),rfl,bel.frame _,fun h=>by cases h⟩
theorem reads (os:Os) {H:Type} (enc:TypeId×Value→H):∃ places,DataW.whole enc Tryz.prog ((laidW os).forCall (fun _ _=>0) ⟨#[],#[.agg #[.int .u64 0,.int .i64 0,.int .i64 0,.string ByteArray.empty,.int .u64 0,.int .u64 0,.int .i64 0,.string ByteArray.empty,.int .u64 0,.int .u64 0,.int .i64 0,.string ByteArray.empty,.int .u64 0,.int .u64 0,.int .u64 0,.int .u64 0,.int .u64 0,.slice none 0 0],.slice none 0 0,.slice none 0 0,.int .i64 0,.agg #[.int .i64 0,.string ByteArray.empty,.int .u64 0,.int .u64 0]],[]⟩).memory Tryz.f3.params.toList Rows.bibTwoSpec.vars false (#[.agg #[.int .u64 0,.int .i64 0,.int .i64 0,.string ByteArray.empty,.int .u64 0,.int .u64 0,.int .i64 0,.string ByteArray.empty,.int .u64 0,.int .u64 0,.int .i64 0,.string ByteArray.empty,.int .u64 0,.int .u64 0,.int .u64 0,.int .u64 0,.int .u64 0,.slice none 0 0],.slice none 0 0,.slice none 0 0,.int .i64 0,.agg #[.int .i64 0,.string ByteArray.empty,.int .u64 0,.int .u64 0]]:Array Value).toList 8=some ([.agg [.lit (.int .u64 0),.lit (.int .i64 0),.agg [.lit (.int .i64 0),.lit (.string []),.lit (.int .u64 0),.lit (.int .u64 0)],.agg [.lit (.int .i64 0),.lit (.string []),.lit (.int .u64 0),.lit (.int .u64 0)],.agg [.lit (.int .i64 0),.lit (.string []),.lit (.int .u64 0),.lit (.int .u64 0)],.lit (.int .u64 0),.lit (.int .u64 0),.lit (.int .u64 0),.nil],.nil,.nil,.lit (.int .i64 0),.agg [.lit (.int .i64 0),.lit (.string []),.lit (.int .u64 0),.lit (.int .u64 0)]],[],places) :=
 ⟨[],by kernel_rfl⟩
theorem lifted (os:Os) (started:os.Started) (H:Type) (enc:TypeId×Value→H) (F:Stop.Interp) :
  ReturnsInHanded {} Tryz.checked os 3 .any ((OpenSpec.ofChange Rows.bibTwoSpec).preRow enc Tryz.prog Tryz.f3 Rows.bibTwoRow.domain false Rows.bibTwoRow.laid) (((OpenSpec.ofChange Rows.bibTwoSpec).at F).post enc Tryz.prog Tryz.f3 false true false false):=by
 obtain ⟨places,hx⟩:=reads os enc
 refine returnsInHanded_of_row (C:=Tryz.checked) (s:=OpenSpec.ofChange Rows.bibTwoSpec) own started (by kernel_rfl) Tryz.func3
  (witness_row_at (enc:=enc) (C:=Tryz.checked) false (laidW os) #[.agg #[.int .u64 0,.int .i64 0,.int .i64 0,.string ByteArray.empty,.int .u64 0,.int .u64 0,.int .i64 0,.string ByteArray.empty,.int .u64 0,.int .u64 0,.int .i64 0,.string ByteArray.empty,.int .u64 0,.int .u64 0,.int .u64 0,.int .u64 0,.int .u64 0,.slice none 0 0],.slice none 0 0,.slice none 0 0,.int .i64 0,.agg #[.int .i64 0,.string ByteArray.empty,.int .u64 0,.int .u64 0]] rfl (by kernel_rfl) (by kernel_rfl) (by kernel_rfl)
   (OpenSpec.preRow_of_cond 8 hx (by kernel_rfl) (fun k hk=>by cases hk) (by kernel_rfl) (laidW_metH os _))) ?_
 intro W base args ds gs before hval hW _ _ hsz hL _ _
 exact contract H enc W base args ds gs before hval hW hsz hL
theorem said:Rows.BibTwoSaid :=
 OpenClaim.holds_of_cond 3 Tryz.f3 rfl rfl rfl rfl rfl rfl rfl ⟨rfl,rfl,rfl,rfl,rfl⟩ rfl rfl rfl rfl rfl (by kernel_rfl) Tryz.func3 bibTwo_closed
  (of_decide_eq_true (by kernel_rfl)) (by unfold Func.isWrapper;first|(rw [if_pos (by decide +kernel)];kernel_rfl)|(rw [if_neg (by decide +kernel)];exact ⟨rfl,rfl⟩))
  (fun os started H enc _ F=>by rw [OpenClaim.pre_eq_preRow];exact lifted os started H enc F)
theorem plainParams (f : FuncId) (fn : Func) (hf : Tryz.pinned.checked.prog.funcNamed "fairlead/fairleadlaw10.BibTwo" = some f) (hfn : Tryz.pinned.checked.prog.funcs[f]? = some fn) :
  true=Tryz.pinned.checked.prog.looks []∧∀ (j:Nat) t,fn.params[j]?=some t→Tryz.pinned.checked.prog.wantsStandIn t=false:=by
 obtain rfl : f = 3 := Option.some.inj ((show Tryz.prog.funcNamed "fairlead/fairleadlaw10.BibTwo" = some 3 by kernel_rfl).symm.trans hf) |>.symm
 obtain rfl:fn=Tryz.f3:=(Option.some.inj (Tryz.func3.symm.trans hfn)).symm
 refine ⟨by kernel_rfl,fun j t ht=>?_⟩
 rw [Tryz.params3] at ht
 have hm:=Array.mem_of_getElem? ht
 have hor:t=28∨t=29∨t=29∨t=3∨t=25:=by simpa using hm
 rcases hor with rfl|rfl|rfl|rfl|rfl
 ·
  exact (show Tryz.prog.wantsStandIn 28=false by kernel_rfl)
 ·
  exact (show Tryz.prog.wantsStandIn 29=false by kernel_rfl)
 ·
  exact (show Tryz.prog.wantsStandIn 29=false by kernel_rfl)
 ·
  exact (show Tryz.prog.wantsStandIn 3=false by kernel_rfl)
 ·
  exact (show Tryz.prog.wantsStandIn 25=false by kernel_rfl)
theorem proved:Rows.BibTwoCardSaid :=
 Claim7.holds_tied_plain_at .later [] _ _ _ _ said (fun _ h=>by cases h) (by kernel_rfl) (fun _ h=>by cases h) bibTwo_row_tie rfl ⟨rfl,rfl⟩ (by kernel_rfl) rfl plainParams (by kernel_rfl)
#print axioms proved
end Go.Proofs.YteckeagobafoiaaGreatDoor.bibTwo
