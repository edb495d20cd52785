import Derived.Test.YtlecbblmaadpiaaGreatDoorKBunG
import Derived.Test.YtlecbblmaadpiaaGreatDoorKLaidE
import Derived.Test.YtlecbblmaadpiaaGreatDoorCards
import Derived.Test.YtlecbblmaadpiaaGreatDoorTie
import Derived.LaidLaws
import Derived.Lay
import Derived.LaidSub
import Derived.LaidHandle
import Derived.ChangeArms
namespace Go.Proofs.YtlecbblmaadpiaaGreatDoor
set_option maxRecDepth 100000
open Go.RowKit
def laidU : List (String × DataW Unit) := [("errors.errorType", Rows.laid_errors_errorType), ("fairlead/eid.errScheme", Rows.laid_fairlead_eid_errScheme), ("fairlead/eid.errName", Rows.laid_fairlead_eid_errName), ("fairlead/eid.errNumber", Rows.laid_fairlead_eid_errNumber), ("fairlead/eid.errForm", Rows.laid_fairlead_eid_errForm)]
def laidL : List (String × DataW Unit) := [("fairlead/eid.errScheme", Rows.laid_fairlead_eid_errScheme), ("fairlead/eid.errName", Rows.laid_fairlead_eid_errName), ("fairlead/eid.errNumber", Rows.laid_fairlead_eid_errNumber), ("fairlead/eid.errForm", Rows.laid_fairlead_eid_errForm)]
theorem gS : Tryz.prog.globalNamed "fairlead/eid.errScheme" = some 0 := by kernel_rfl
theorem gN : Tryz.prog.globalNamed "fairlead/eid.errName" = some 1 := by kernel_rfl
theorem gU : Tryz.prog.globalNamed "fairlead/eid.errNumber" = some 2 := by kernel_rfl
theorem gF : Tryz.prog.globalNamed "fairlead/eid.errForm" = some 3 := by kernel_rfl
theorem gtS:(Tryz.prog.globals[0]?).map (·.type)=some 95:=by kernel_rfl
theorem gtN:(Tryz.prog.globals[1]?).map (·.type)=some 95:=by kernel_rfl
theorem gtU:(Tryz.prog.globals[2]?).map (·.type)=some 95:=by kernel_rfl
theorem gtF:(Tryz.prog.globals[3]?).map (·.type)=some 95:=by kernel_rfl
theorem cellsEs:Tryz.prog.cellsOf 281=1:=by kernel_rfl
theorem cellsSt:Tryz.prog.cellsOf 9=1:=by kernel_rfl
theorem starE : "*" ++ "errors.errorString" = "*errors.errorString" := by decide
theorem rowE (u : TypeId) (h : Tryz.prog.typeName? 3 u = some "*errors.errorString") : u = 279 :=
 typeName_ptr_named (nm := "errors.errorString") (by rw [starE]; kernel_rfl) (by kernel_rfl) (by decide) u (by rw [starE]; exact h)
theorem one_of {W:World} {n:String} {g:Nat} {text:List UInt8} {t:TypeId} {cs:Array Value} {fuel:Nat} {p:List MemPlace} {ps:List MemPlace}
  (hg:Tryz.prog.globalNamed n=some g) (ht:(Tryz.prog.globals[g]?).map (·.type)=some 95) (ht':(Tryz.prog.globals[g]?).map (·.type)=some t) (hv:W.var? Tryz.prog n=some cs)
  (hd : DataW.trod (fun _ => ()) Tryz.prog W 0 (fun _ => true) false fuel t cs.toList = some (.iface "*errors.errorString" (.ptr (.agg [.lit (.string text)])), p))
  (hrows:∀ b off,MemPlace.cell b off∈ps→(∃ c t,W.heap[b]?=some (.cells c t (0,0)))∧∀ u v,W.cell? ⟨b,off,none⟩=some (.iface u v)→Value.okWide Tryz.prog W .any 0 u v)
  (hin:∀ x∈MemPlace.row ⟨g,0,none⟩ cs.size++p,x∈ps) :
  ∃ a:Addr,cs=#[snt a]∧p=MemPlace.row a 1∧W.cell? ⟨g,0,none⟩=some (snt a)∧∃ c t,W.heap[a.block]?=some (.cells c t (0,0)):=by
 obtain rfl:=Option.some.inj (ht.symm.trans ht')
 obtain ⟨l⟩:=cs
 have ok:∀ u v,l=[.iface u v]→Value.okWide Tryz.prog W .any 0 u v:=fun u v e=>by
  subst e
  exact (hrows g 0 (hin _ (by simp [MemPlace.row]))).2 u v (by simpa using World.var?_cell hg hv 0)
 obtain ⟨a,s,rfl,hc,-,-,rfl⟩:=errorString_of_trod Tryz.underlying95 rowE Tryz.underlying279 Tryz.underlying281 rfl rfl Tryz.underlying9 cellsEs cellsSt hd ok
 obtain ⟨c,t,hb⟩:=(hrows a.block a.off (hin _ (by simp [MemPlace.row]))).1
 exact ⟨a,rfl,rfl,by simpa [snt] using World.var?_cell hg hv 0,c,t,hb⟩
theorem lds_of {W:World} (h:laidMet Tryz.prog laidL W):∃ A,Lds A W:=by
 obtain ⟨ps,hv,hnd,hrows⟩:=h
 unfold laidL at hv
 simp only [DataW.LaidVars] at hv
 obtain ⟨g6,t6,c6,f6,p6,q6,hg6,ht6,hw6,hd6,⟨g7,t7,c7,f7,p7,q7,hg7,ht7,hw7,hd7,⟨g8,t8,c8,f8,p8,q8,hg8,ht8,hw8,hd8,⟨g9,t9,c9,f9,p9,q9,hg9,ht9,hw9,hd9,e9,e8'⟩,e8⟩,e7⟩,e6⟩:=hv
 obtain rfl:=Option.some.inj (gS.symm.trans hg6)
 obtain rfl:=Option.some.inj (gN.symm.trans hg7)
 obtain rfl:=Option.some.inj (gU.symm.trans hg8)
 obtain rfl:=Option.some.inj (gF.symm.trans hg9)
 subst e9 e8' e8 e7 e6
 obtain ⟨a6,rfl,rfl,k6,r6⟩:=one_of gS gtS ht6 hw6 hd6 hrows (fun x hx=>by simp only [List.mem_append] at hx ⊢;rcases hx with h|h <;> simp only [h,true_or,or_true])
 obtain ⟨a7,rfl,rfl,k7,r7⟩:=one_of gN gtN ht7 hw7 hd7 hrows (fun x hx=>by simp only [List.mem_append] at hx ⊢;rcases hx with h|h <;> simp only [h,true_or,or_true])
 obtain ⟨a8,rfl,rfl,k8,r8⟩:=one_of gU gtU ht8 hw8 hd8 hrows (fun x hx=>by simp only [List.mem_append] at hx ⊢;rcases hx with h|h <;> simp only [h,true_or,or_true])
 obtain ⟨a9,rfl,rfl,k9,r9⟩:=one_of gF gtF ht9 hw9 hd9 hrows (fun x hx=>by simp only [List.mem_append] at hx ⊢;rcases hx with h|h <;> simp only [h,true_or,or_true])
 have n5:=hnd
 simp [MemPlace.row] at n5
 refine ⟨⟨a6,a7,a8,a9⟩,k6,k7,k8,k9,?_,?_⟩
 ·
  rintro a (rfl|rfl|rfl|rfl)
  ·
   exact r6
  ·
   exact r7
  ·
   exact r8
  ·
   exact r9
 ·
  refine ⟨fun e=>?_,fun e=>?_,fun e=>?_,fun e=>?_,fun e=>?_,fun e=>?_⟩ <;> (dsimp only at e;subst e;simp at n5)
theorem wd_of {W:World} (h:laidMetH Tryz.prog laidU W):∃ S,Wd S W:=by
 have h' : laidMet Tryz.prog laidL W ∧ handlesMet Tryz.prog [("errors.errorType", Rows.laid_errors_errorType)] W := h
 obtain ⟨S,hS⟩:=lds_of h'.1
 exact ⟨S, hS, laidE_of (show laidMetH Tryz.prog [("errors.errorType", Rows.laid_errors_errorType)] W from ⟨⟨[], rfl, List.nodup_nil, fun _ _ h => by cases h⟩, h'.2⟩)⟩
noncomputable def laidW (os:Os):World:=(laidWorld os).layVars Tryz.prog laidL
theorem laidW_met (os:Os) (args:Array Value):laidMet Tryz.prog laidL ((laidW os).forCall (fun _ _=>0) ⟨#[],args,[]⟩).memory:=by
 have e1:(laidL.filter fun x=>(laidL.map (·.1)).contains x.1)=laidL:=List.filter_eq_self.2 fun x hx=>List.contains_iff_mem.2 (List.mem_map.2 ⟨x,hx,rfl⟩)
 have e2:(laidL.filter fun x => !(laidL.map (·.1)).contains x.1)=[]:=List.filter_eq_nil_iff.2 fun x hx=>by rw [List.contains_iff_mem.2 (List.mem_map.2 ⟨x,hx,rfl⟩)];simp
 have h:laidMet Tryz.prog laidL (laidW os):=laidMet_layVars (w0:=laidWorld os) (laidL.map (·.1)) [] (by rw [e1];rfl) (by rw [e1];kernel_rfl) (by rw [e1];kernel_rfl) (by rw [e2];exact LaidIn.none)
 exact h.of_heap (by simp [World.memory,World.forCall,Input.heap])
theorem laidW_metH (os:Os) (args:Array Value):laidMetH Tryz.prog laidU ((laidW os).forCall (fun _ _=>0) ⟨#[],args,[]⟩).memory :=
 laidMetH_of_parts (laidW_met os args) (by kernel_rfl)
end Go.Proofs.YtlecbblmaadpiaaGreatDoor
