import Derived.Test.YtbnfkjkoinbkgaaGreatDoorVAbb
import Derived.Test.YtbnfkjkoinbkgaaGreatDoorVAsW
import Derived.Test.YtbnfkjkoinbkgaaGreatDoorVBibC
import Derived.Test.YtbnfkjkoinbkgaaGreatDoorVBunB
import Derived.Test.YtbnfkjkoinbkgaaGreatDoorVBunDr
import Derived.Test.YtbnfkjkoinbkgaaGreatDoorVBunPu
import Derived.Test.YtbnfkjkoinbkgaaGreatDoorVCfBibTags
import Derived.Test.YtbnfkjkoinbkgaaGreatDoorVKHead
import Derived.Test.YtbnfkjkoinbkgaaGreatDoorVRfI
import Derived.Test.YtbnfkjkoinbkgaaGreatDoorVRfW
import Derived.Test.YtbnfkjkoinbkgaaGreatDoorCards
import Derived.Test.YtbnfkjkoinbkgaaGreatDoorTie
import Derived.LaidLaws
import Derived.Lay
import Derived.LaidSub
import Derived.LaidHandle
import Derived.ChangeArms
import Derived.Deep.AppendLies
import Derived.Deep.RegionHeld3
namespace Go.Proofs.YtbnfkjkoinbkgaaGreatDoor
set_option maxRecDepth 100000
set_option maxHeartbeats 16000000
open Go.RowKit
def Q0k : List (String × DataW Unit) := [("errors.errorType", Rows.laid_errors_errorType), ("fairlead/eid.errScheme", Rows.laid_fairlead_eid_errScheme), ("fairlead/eid.errName", Rows.laid_fairlead_eid_errName), ("fairlead/eid.errNumber", Rows.laid_fairlead_eid_errNumber), ("fairlead/eid.errForm", Rows.laid_fairlead_eid_errForm), ("fairlead/bib.errTarget", Rows.laid_fairlead_bib_errTarget), ("fairlead/bib.errTag", Rows.laid_fairlead_bib_errTag)]
def laidL : List (String × DataW Unit) := [("fairlead/eid.errScheme", Rows.laid_fairlead_eid_errScheme), ("fairlead/eid.errName", Rows.laid_fairlead_eid_errName), ("fairlead/eid.errNumber", Rows.laid_fairlead_eid_errNumber), ("fairlead/eid.errForm", Rows.laid_fairlead_eid_errForm), ("fairlead/bib.errTarget", Rows.laid_fairlead_bib_errTarget), ("fairlead/bib.errTag", Rows.laid_fairlead_bib_errTag)]
theorem gS : Tryz.prog.globalNamed "fairlead/eid.errScheme" = some 3 := by kernel_rfl
theorem gN : Tryz.prog.globalNamed "fairlead/eid.errName" = some 5 := by kernel_rfl
theorem gU : Tryz.prog.globalNamed "fairlead/eid.errNumber" = some 4 := by kernel_rfl
theorem gF : Tryz.prog.globalNamed "fairlead/eid.errForm" = some 6 := by kernel_rfl
theorem gT : Tryz.prog.globalNamed "fairlead/bib.errTarget" = some 0 := by kernel_rfl
theorem gG : Tryz.prog.globalNamed "fairlead/bib.errTag" = some 1 := by kernel_rfl
theorem gtT:(Tryz.prog.globals[0]?).map (·.type)=some 53:=by kernel_rfl
theorem gtG:(Tryz.prog.globals[1]?).map (·.type)=some 53:=by kernel_rfl
theorem gtS:(Tryz.prog.globals[3]?).map (·.type)=some 53:=by kernel_rfl
theorem gtN:(Tryz.prog.globals[5]?).map (·.type)=some 53:=by kernel_rfl
theorem gtU:(Tryz.prog.globals[4]?).map (·.type)=some 53:=by kernel_rfl
theorem gtF:(Tryz.prog.globals[6]?).map (·.type)=some 53:=by kernel_rfl
theorem Q05:Tryz.prog.cellsOf 281=1:=by kernel_rfl
theorem Q04:Tryz.prog.cellsOf 9=1:=by kernel_rfl
theorem Q1u : "*" ++ "errors.errorString" = "*errors.errorString" := by decide
theorem Q5e (u : TypeId) (h : Tryz.prog.typeName? 3 u = some "*errors.errorString") : u = 261 :=
 typeName_ptr_named (nm := "errors.errorString") (by rw [Q1u]; kernel_rfl) (by kernel_rfl) (by decide) u (by rw [Q1u]; exact h)
theorem Qj2{W:World}{n:String}{g:Nat}{text:LB}{t:TypeId}{cs:Array Value}{fuel:Nat}{p:List MemPlace}{ps:List MemPlace}
  (hg:Tryz.prog.globalNamed n=some g) (ht:(Tryz.prog.globals[g]?).map (·.type)=some 53) (ht':(Tryz.prog.globals[g]?).map (·.type)=some t) (hv:W.var? Tryz.prog n=some cs)
  (hd : DataW.trod (fun _ => ()) Tryz.prog W 0 (fun _ => true) false fuel t cs.toList = some (.iface "*errors.errorString" (.ptr (.agg [.lit (.string text)])), p))
  (hrows:∀ b off,MemPlace.cell b off∈ps→(∃ c t,W.heap[b]?=some (.cells c t (0,0)))∧∀ u v,W.cell? ⟨b,off,none⟩=some (.iface u v)→Value.okWide Tryz.prog W .any 0 u v)
  (hin:∀ x∈MemPlace.row ⟨g,0,none⟩ cs.size++p,x∈ps) :
  ∃ a:Addr,cs=#[snt a]∧p=MemPlace.row a 1∧W.cell? ⟨g,0,none⟩=some (snt a)∧∃ c t,W.heap[a.block]?=some (.cells c t (0,0)):=by
 obtain rfl:=Option.some.inj (ht.symm.trans ht');obtain⟨l⟩:=cs;have ok:∀ u v,l=[.iface u v]→Value.okWide Tryz.prog W .any 0 u v:=fun u v e=>by
  subst e;exact(hrows g 0 (hin _ (by simp[MemPlace.row]))).2 u v (by simpa using World.var?_cell hg hv 0)
 obtain⟨a,s,rfl,hc,-,-,rfl⟩:=errorString_of_trod Tryz.underlying53 Q5e Tryz.underlying261 Tryz.underlying281 rfl rfl Tryz.underlying9 Q05 Q04 hd ok;obtain⟨c,t,hb⟩:=(hrows a.block a.off (hin _ (by simp[MemPlace.row]))).1;exact⟨a,rfl,rfl,by simpa [snt] using World.var?_cell hg hv 0,c,t,hb⟩
theorem Q2f{W:World}(h:laidMet Tryz.prog laidL W):(∃ A,Lds A W)∧∃ T,Ldb T W:=by
 obtain⟨ps,hv,hnd,hrows⟩:=h;unfold laidL at hv;simp only[DataW.LaidVars] at hv;obtain⟨g6,t6,c6,f6,p6,q6,hg6,ht6,hw6,hd6,⟨g7,t7,c7,f7,p7,q7,hg7,ht7,hw7,hd7,⟨g8,t8,c8,f8,p8,q8,hg8,ht8,hw8,hd8,⟨g9,t9,c9,f9,p9,q9,hg9,ht9,hw9,hd9,⟨gA,tA,cA,fA,pA,qA,hgA,htA,hwA,hdA,⟨gB,tB,cB,fB,pB,qB,hgB,htB,hwB,hdB,eB,eB'⟩,eA⟩,e9⟩,e8⟩,e7⟩,e6⟩:=hv;obtain rfl:=Option.some.inj (gS.symm.trans hg6);obtain rfl:=Option.some.inj (gN.symm.trans hg7);obtain rfl:=Option.some.inj (gU.symm.trans hg8);obtain rfl:=Option.some.inj (gF.symm.trans hg9);obtain rfl:=Option.some.inj (gT.symm.trans hgA);obtain rfl:=Option.some.inj (gG.symm.trans hgB)
 subst eB eB' eA e9 e8 e7 e6;obtain⟨a6,rfl,rfl,k6,r6⟩:=Qj2 gS gtS ht6 hw6 hd6 hrows (fun x hx=>by simp only[List.mem_append] at hx ⊢;rcases hx with h|h <;> simp only[h,true_or,or_true]);obtain⟨a7,rfl,rfl,k7,r7⟩:=Qj2 gN gtN ht7 hw7 hd7 hrows (fun x hx=>by simp only[List.mem_append] at hx ⊢;rcases hx with h|h <;> simp only[h,true_or,or_true]);obtain⟨a8,rfl,rfl,k8,r8⟩:=Qj2 gU gtU ht8 hw8 hd8 hrows (fun x hx=>by simp only[List.mem_append] at hx ⊢;rcases hx with h|h <;> simp only[h,true_or,or_true]);obtain⟨a9,rfl,rfl,k9,r9⟩:=Qj2 gF gtF ht9 hw9 hd9 hrows (fun x hx=>by simp only[List.mem_append] at hx ⊢;rcases hx with h|h <;> simp only[h,true_or,or_true])
 obtain⟨aA,rfl,rfl,kA,rA⟩:=Qj2 gT gtT htA hwA hdA hrows (fun x hx=>by simp only[List.mem_append] at hx ⊢;rcases hx with h|h <;> simp only[h,true_or,or_true]);obtain⟨aB,rfl,rfl,kB,rB⟩:=Qj2 gG gtG htB hwB hdB hrows (fun x hx=>by simp only[List.mem_append] at hx ⊢;rcases hx with h|h <;> simp only[h,true_or,or_true]);have n5:=hnd;simp[MemPlace.row] at n5;refine⟨⟨⟨a6,a7,a8,a9⟩,k6,k7,k8,k9,?_,?_⟩,⟨aA,aB⟩,kA,kB,?_,?_⟩
 ·
  rintro a (rfl|rfl|rfl|rfl)
  ·
   exact r6
  ·
   exact r7
  ·
   exact r8
  ·
   exact r9
 ·
  refine⟨fun e=>?_,fun e=>?_,fun e=>?_,fun e=>?_,fun e=>?_,fun e=>?_⟩ <;> (dsimp only at e;subst e;simp at n5)
 ·
  rintro a (rfl|rfl)
  ·
   exact rA
  ·
   exact rB
 ·
  intro e;dsimp only at e
  subst e;simp at n5
theorem Q3q{W:World}(h:laidMetH Tryz.prog Q0k W):∃ S T,Wd S W∧Ldb T W:=by
 have h' : laidMet Tryz.prog laidL W ∧ handlesMet Tryz.prog [("errors.errorType", Rows.laid_errors_errorType)] W := h
 obtain ⟨⟨S,hS⟩,T,hT⟩:=Q2f h'.1;exact ⟨S, T, ⟨hS, Qya (show laidMetH Tryz.prog [("errors.errorType", Rows.laid_errors_errorType)] W from ⟨⟨[], rfl, List.nodup_nil, fun _ _ h => by cases h⟩, h'.2⟩)⟩, hT⟩
noncomputable def Quu (os:Os):World:=(Qmn os).layVars Tryz.prog laidL
theorem Qut(os:Os)(args:Array Value):laidMet Tryz.prog laidL ((Quu os).forCall (fun _ _=>0) ⟨#[],args,[]⟩).memory:=by
 have e1:(laidL.filter fun x=>(laidL.map (·.1)).contains x.1)=laidL:=List.filter_eq_self.2 fun x hx=>List.contains_iff_mem.2 (List.mem_map.2 ⟨x,hx,rfl⟩)
 have e2:(laidL.filter fun x => !(laidL.map (·.1)).contains x.1)=[]:=List.filter_eq_nil_iff.2 fun x hx=>by rw[List.contains_iff_mem.2 (List.mem_map.2 ⟨x,hx,rfl⟩)];simp
 have h:laidMet Tryz.prog laidL (Quu os):=laidMet_layVars (w0:=Qmn os) (laidL.map (·.1)) [] (by rw[e1];rfl) (by rw[e1];kernel_rfl) (by rw[e1];kernel_rfl) (by rw[e2];exact LaidIn.none);exact h.of_heap (by simp[World.memory,World.forCall,Input.heap])
theorem Qr0(os:Os)(args:Array Value):laidMetH Tryz.prog Q0k ((Quu os).forCall (fun _ _=>0) ⟨#[],args,[]⟩).memory :=
 laidMetH_of_parts (Qut os args) (by kernel_rfl)
open Go.Lib (hid)
theorem Q1o{Y y:Itm}{p:Nat}{ps:List Nat}(hp:p<Y.list.length)(hy:y=Y.list[p]):wth Y (p::ps)=wth y ps:=by
 rw[wth,List.getElem?_eq_getElem hp,hy]
theorem Qzn{Y:Itm}{p:Nat}{ps:List Nat}(hp:¬ p<Y.list.length):wth Y (p::ps)=.zero:=by
 rw[wth,List.getElem?_eq_none (Nat.le_of_not_lt hp)]
theorem Qd3(S:Nat→Bool)(X:Itm)(v:Value)(B p q g:Nat)(w0 w:World)(hB:B≤w.heap.size)(h:RdI (Qap S w0) B v X)(hbw:Below B w0 w)(hg0:w.cell? ⟨g,0,none⟩=some (.int .i64 (p:Int)))(hg1:w.cell? ⟨g,1,none⟩=some (.int .i64 (q:Int))) :
  Calls Tryz.prog 128 #[v,.slice (some ⟨g,0,none⟩) 2 2] w fun e w'=>∃ v',e=.returned v'∧RdI (Qap S w0) B v' (wth X [p,q])∧Below w.heap.size w w':=by
 have hgl:=World.block_lt_of_cell? w _ hg0;obtain⟨k0,n0,A0,nd0,cd0,AL0,nl0,cl0,rfl⟩:=h.form;have HB:=hid hB;have H0:=hid h;have HW:=hid hbw;have HP:=hid (fun (i:Nat) (hi:i<2)=>(show w.cell? ⟨g,i,none⟩=some (.int .i64 (([p,q].getD i 0:Nat):Int)) from by match i,hi with|0,_=>exact hg0|1,_=>exact hg1));have HGL:=hid hgl;have HW0:Hid (Below (w.heap.size+2) ((w.alloc (zo1 k0 n0 A0 nd0 cd0 AL0 nl0 cl0)).alloc zk0) ((w.alloc (zo1 k0 n0 A0 nd0 cd0 AL0 nl0 cl0)).alloc zk0)):=Below.refl _ _;have HB1:Hid (Below w.heap.size w (w.alloc (zo1 k0 n0 A0 nd0 cd0 AL0 nl0 cl0))):=zb;have HB0:Hid (Below w.heap.size w ((w.alloc (zo1 k0 n0 A0 nd0 cd0 AL0 nl0 cl0)).alloc zk0)):=HB1.out.alloc (Qaa _ _) _
 have HS1:Hid ((w.alloc (zo1 k0 n0 A0 nd0 cd0 AL0 nl0 cl0)).heap.size=w.heap.size+1):=by show _=_;simp
 have HS0:Hid (((w.alloc (zo1 k0 n0 A0 nd0 cd0 AL0 nl0 cl0)).alloc zk0).heap.size=w.heap.size+2):=by show _=_;simp
 have RA:Hid (((w.alloc (zo1 k0 n0 A0 nd0 cd0 AL0 nl0 cl0)).alloc zk0).heap[w.heap.size]?=some (.cells #[.int .i64 k0,.int .u64 (n0:Int),.slice A0 nd0 cd0,.slice AL0 nl0 cl0] 119 (0,0))):=Qad (w:=w) rfl ((Below.refl _ _).alloc (Nat.le_of_eq HS1.out.symm) _);have RZ:Hid (((w.alloc (zo1 k0 n0 A0 nd0 cd0 AL0 nl0 cl0)).alloc zk0).heap[w.heap.size+1]?=some (.cells #[.int .i64 0,.int .u64 0,.slice none 0 0,.slice none 0 0] 119 (0,0))):=Qad (w:=(w.alloc (zo1 k0 n0 A0 nd0 cd0 AL0 nl0 cl0))) HS1.out.symm (Below.refl _ _);clear hB h hg0 hg1 hgl hbw;go_enter Tryz.func128,Tryz.ntmps128;go_wp2_with fail
 go_loopw [9] (fun s9 wl=>∃ (i:Nat) (Y:Itm) (k1:Int) (n1:Nat) (A1:OA) (nd1 cd1:Nat) (AL1:OA) (nl1 cl1:Nat),i≤2∧s9=.int .i64 (i:Int)∧Hid (wl.heap[w.heap.size]?=some (.cells #[.int .i64 k1,.int .u64 (n1:Int),.slice A1 nd1 cd1,.slice AL1 nl1 cl1] 119 (0,0)))∧Hid (wl.heap[w.heap.size+1]?=some (.cells #[.int .i64 0,.int .u64 0,.slice none 0 0,.slice none 0 0] 119 (0,0)))∧Hid (RdI (Qap S w0) B (zv6 k1 n1 A1 nd1 cd1 AL1 nl1 cl1) Y)∧Hid (wth Y ([p,q].drop i)=wth X [p,q])∧Hid (Below w.heap.size w wl)) (fun s9 _=>2 - (intOf s9).toNat)
 case atStart=>exact⟨0,X,k0,n0,A0,nd0,cd0,AL0,nl0,cl0,by decide,rfl,RA.out,RZ.out,H0.out,rfl,HB0.out⟩
 case round =>
  obtain⟨i,Y,k1,n1,A1,nd1,cd1,AL1,nl1,cl1,hi,rfl,RX,RZ1,HY,HE,HT⟩:=hrel;clear RA RZ;have x0:=Qab RX.out 0 rfl;have x1:=Qab RX.out 1 rfl;have x2:=Qab RX.out 2 rfl;have x3:=Qab RX.out 3 rfl;by_cases hlt:i<2
  ·
   have hpi:=(HT.out.cell (p:=⟨g,i,none⟩) HGL.out).trans (HP.out i hlt);obtain⟨P,hP⟩:∃ P,P=[p,q].getD i 0:=⟨_,rfl⟩
   rw[← hP] at hpi
   have hdr:[p,q].drop i=P::[p,q].drop (i+1):=by
    rw[hP]
    match i,hlt with
    | 0,_=>rfl
    | 1,_=>rfl
   have HDR:=hid hdr;have hii:decide ((i:Int)<2)=true:=decide_eq_true (by omega);have hi2:(i:Int)<2:=by omega
   obtain⟨kY,nY,dY,lY⟩:=Y;obtain⟨A',nd',cd',AL',cl',he,h1,h2,h3,h4,h5,h6⟩:=HY.out.open;have e0:=congrArg (fun v=>match v with|Value.agg cs=>cs.toList|_=>[]) he;simp only[List.cons.injEq,and_true,Value.slice.injEq] at e0;obtain⟨-,-,-,rfl,rfl,rfl⟩:=e0;clear hP hdr he h1 h2 h3 h4;by_cases hp:P<lY.length
   ·
    obtain⟨b,o,rfl,hb,hris⟩:=h6 (by omega);obtain⟨k2,n2,A2,nd2,cd2,AL2,nl2,cl2,g0,g1,g2,g3,gx⟩:=hris.get4 P hp;have hbw:b<w.heap.size:=Nat.lt_of_lt_of_le hb HB.out;have y0:=(HT.out.cell (p:=⟨b,o+P*4,none⟩) hbw).trans ((HW.out.cell (p:=⟨b,o+P*4,none⟩) hb).trans (Qaj g0));have y1:=(HT.out.cell (p:=⟨b,o+P*4+1,none⟩) hbw).trans ((HW.out.cell (p:=⟨b,o+P*4+1,none⟩) hb).trans (Qaj g1));have y2:=(HT.out.cell (p:=⟨b,o+P*4+2,none⟩) hbw).trans ((HW.out.cell (p:=⟨b,o+P*4+2,none⟩) hb).trans (Qaj g2));have y3:=(HT.out.cell (p:=⟨b,o+P*4+3,none⟩) hbw).trans ((HW.out.cell (p:=⟨b,o+P*4+3,none⟩) hb).trans (Qaj g3))
    have hE2:Hid (wth lY[P] ([p,q].drop (i+1))=wth X [p,q]):=by
     show _=_;rw[← HE.out,HDR.out,Q1o (Y:=.mk kY nY dY lY) hp rfl]
     rfl
    have GX:=hid gx;have t1:decide ((lY.length:Int)≤(P:Int))=false:=decide_eq_false (by omega);have t3:¬ lY.length≤P:=by omega
    have t2:(P:Int)<(lY.length:Int):=by omega
    obtain⟨y,hy⟩:∃ y,y=lY[P]:=⟨_,rfl⟩
    rw[← hy] at hE2 GX
    clear g0 g1 g2 g3 gx hris h6 HE HY hb hbw h5 hy hp;generalize lY.length=NL at *;go_wp2_with (first
     | (refine Qbg rfl 119 (.tmp 2) (.tmp 23) rfl _ _ _ _ _ rfl rfl _ _ RX.out Qbf rfl rfl ?_;intro w2 hst;have ST:=hid hst;clear hst x0 x1 x2 x3 y0 y1 y2 y3)
     | fail)
    go_roundw
    case rel=>exact⟨i+1,y,k2,n2,A2,nd2,cd2,AL2,nl2,cl2,by omega,by go_num,ST.out.1,(ST.out.2.2.2 _ (by omega)).trans RZ1.out,GX.out,hE2.out,ST.out.2.1 _ _ HT.out zr⟩
    case measure=>simp[intOf];omega
   ·
    have hz:Hid (wth X [p,q]=.zero):=by
     show _=_;rw[← HE.out,HDR.out,Qzn (Y:=.mk kY nY dY lY) hp]
    have t1:decide ((lY.length:Int)≤(P:Int))=true:=decide_eq_true (by omega);have t3:lY.length≤P:=by omega
    clear h6 HE HY h5 hp;generalize lY.length=NL at *;go_wp2_with (first
     | (refine Qbg rfl 119 (.tmp 4) (.tmp 18) rfl _ _ _ _ _ rfl rfl _ _ RZ1.out Qbf rfl rfl ?_;intro w2 hst;have ST:=hid hst;clear hst)
     | fail)
    (try rw[Exit.noGoto_ret]);refine bodyPost_ret (Qxj Tryz.results128 _ _ rfl ST.out.1 rfl) rfl ⟨_,rfl,?_,ST.out.2.1 _ _ HT.out (Nat.le_succ _)⟩;rw[hz.out]
    exact RdI.mk_uint (by decide)
  ·
   obtain rfl:i=2:=by omega
   have hY2:Hid (Y=wth X [p,q]):=HE.out;have hii:decide (((2:Nat):Int)<2)=false:=decide_eq_false (by omega);clear HE;go_wp2_with (first
    | (refine Qbg rfl 119 (.tmp 4) (.tmp 25) rfl _ _ _ _ _ rfl rfl _ _ RZ1.out Qbf rfl rfl ?_;intro w2 hst;have ST:=hid hst;clear hst)
    | fail)
   refine bodyPost_ret (Qxj Tryz.results128 _ _ rfl ST.out.1 rfl) rfl ⟨_,rfl,?_,ST.out.2.1 _ _ HT.out (Nat.le_succ _)⟩;rw[← hY2.out]
   exact HY.out
theorem Qmz:(Tryz.prog.info? 22).map (fun i=>(i.zero,i.size,i.bytes))=some (some (.int .u64 0),1,8):=by kernel_rfl
theorem Qqd:(Tryz.prog.info? 29).map (fun i=>(i.zero,i.size,i.bytes))=some (some (.slice none 0 0),1,24):=by kernel_rfl
theorem Qu6(a b c d:Value)(W:World):(Instr.field 119 (.agg #[a,b,c,d]) 1).run Tryz.prog W=.ok b W:=by kernel_rfl
theorem Qim(a b c d:Value)(W:World):(Instr.field 119 (.agg #[a,b,c,d]) 2).run Tryz.prog W=.ok c W:=by kernel_rfl
section
variable {W:World}{g:Nat}{t:TypeId}{c0 c1 c2 c3 c4 c5 c6:Value}
theorem Qgf(i:Nat)(cs:Array Value)(u:Value)(h:W.heap[g]?=some (.cells cs t (0,0))):StR g t (cs.setIfInBounds i u) W (W.setCell ⟨g,i,none⟩ u):=by
 rw[setCell_eq_setRow W g i cs t (0,0) u h]
 exact Qtj W g cs _ t h
theorem StR.trans{W1 W2:World}{v1 v2:Array Value}(h:StR g t v1 W W1)(h2:StR g t v2 W1 W2):StR g t v2 W W2 :=
 ⟨h2.1,fun B w0 hb hB=>h2.2.1 B w0 (h.2.1 B w0 hb hB) hB,h2.2.2.1.trans h.2.2.1,fun j hj=>(h2.2.2.2 j hj).trans (h.2.2.2 j hj)⟩
theorem Q3t(u1 u2 u3 u4:Value)(h:W.heap[g]?=some (.cells #[c0,c1,c2,c3,c4,c5,c6] t (0,0))):StR g t #[c0,u1,u2,u3,u4,c5,c6] W ((((W.setCell ⟨g,1,none⟩ u1).setCell ⟨g,2,none⟩ u2).setCell ⟨g,3,none⟩ u3).setCell ⟨g,4,none⟩ u4):=by
 have s1:=Qgf 1 _ u1 h;have s2:=Qgf 2 _ u2 s1.1;have s3:=Qgf 3 _ u3 s2.1;exact((s1.trans s2).trans s3).trans (Qgf 4 _ u4 s3.1)
theorem Q11(u:Value)(h:W.heap[g]?=some (.cells #[c0,c1,c2,c3,c4,c5,c6] t (0,0))):StR g t #[u,c1,c2,c3,c4,c5,c6] W (W.setCell ⟨g,0,none⟩ u):=Qgf 0 _ u h
theorem Q10(u:Value)(h:W.heap[g]?=some (.cells #[c0,c1,c2,c3,c4,c5,c6] t (0,0))):StR g t #[c0,c1,c2,c3,c4,c5,u] W (W.setCell ⟨g,6,none⟩ u):=Qgf 6 _ u h
theorem Qpz{base k n:Nat}{ty:TypeId}{v:Value}{cells:List Value}{W':World}{vs:Array Value}(h:W.ownsRow base ty k v n cells)(hs:StR g t vs W W')(hg:g<base):W'.ownsRow base ty k v n cells:=by
 have hb:=hs.below;refine World.ownsRow.kept h (row:=some g) ⟨hb.os,hb.tape,hb.output,hb.size,fun j _ hne=>hs.2.2.2 j (fun e=>hne (by rw[e]))⟩ ?_;rcases hv:v.ownBlock with _|q
 ·
  exact .inl rfl
 ·
  refine .inr fun e=>?_
  injection e with e
  have:=(World.ownsRow.lt h q hv).1
  omega
end
theorem Qvo(S:Snt)(x:Itm)(v0:Value)(B:Nat)(w:World)(hS:Lds S w)(hB:B≤w.heap.size)(h:RdI w B v0 x) :
  Calls Tryz.prog 129 #[v0] w fun e w'=>Below w.heap.size w w'∧∃ (sc:Int) (s:ByteArray) (n v:Nat) (z:Int),e=.returned (.tuple #[Qbq sc s n v,.int .i64 z])∧s.size≤140737488355328∧n<18446744073709551616∧v<18446744073709551616 ∧
   ((Qag (ep sc s n v)=true∧Qal (ep sc s n v)=x)∨((∀ e,Qag e=true→Qal e≠x)∧ep sc s n v=⟨0,[],0,0⟩)):=by
 refine(Qyr S x v0 B w hS hB h).mono ?_;rintro e w' ⟨hb,⟨sc,s,n,v,rfl,h1,h2,h3,h4,h5⟩|⟨h1,rfl⟩⟩
 ·
  exact⟨hb,sc,s,n,v,0,rfl,h1,h2,h3,.inl ⟨h4,h5⟩⟩
 ·
  exact⟨hb,0,⟨#[]⟩,0,0,40,rfl,by decide,by decide,by decide,.inr ⟨h1,rfl⟩⟩
theorem Qd0{w:World}{B:Nat}{k:Int}{n:Nat}{A:OA}{nd cd:Nat}{AL:OA}{nl cl:Nat}{x:Itm}(h:RdI w B (zv6 k n A nd cd AL nl cl) x) :
  n=x.num∧n<18446744073709551616∧Rd w B A nd x.data∧nd≤cd∧nl=x.list.length∧(0<nl→∃ b o,AL=some ⟨b,o,none⟩∧b<B∧RdIs w B b o x.list):=by
 obtain⟨a1,a2,a3,a4⟩:=x;obtain⟨A',nd',cd',AL',cl',he,h1,h2,h3,h4,h5,h6⟩:=h.open;have e0:=congrArg (fun v=>match v with|Value.agg cs=>cs.toList|_=>[]) he;simp only[List.cons.injEq,and_true,Value.int.injEq,Value.slice.injEq,true_and] at e0;obtain⟨-,en,⟨rfl,rfl,rfl⟩,rfl,rfl,rfl⟩:=e0;have en2:n=a2:=by omega
 subst en2;exact⟨rfl,h2,h4,h3.1,rfl,h6⟩
theorem Qla{L:List Itm}{i:Nat}(h:i<L.length):L.getD i .zero=L[i]:=by simp[List.getD,h]
theorem Ql0(l:List Itm)(i:Nat)(hi:i<l.length):((l.map Itm.num).take (i+1)).map uV=((l.map Itm.num).take i).map uV++[.int .u64 ((l[i]).num:Int)]:=by
 rw[List.take_add_one,List.getElem?_map,List.getElem?_eq_getElem hi,List.map_append]
 rfl
theorem Qr4(S:Snt)(L:List Itm)(g cap B lo:Nat)(w:World)(hS:Lds S w)(hB:B≤w.heap.size)(hlo:lo≤w.heap.size)(hg:g<B)(h:RdIs (Qap (Qax lo) w) B g 0 L)(hl:L.length=6)(hpar:∀ y∈L,y.list.length≤4096) :
  Calls Tryz.prog 93 #[.slice (some ⟨g,0,none⟩) 6 cap] w fun e w'=>∃ v x,e=.returned v∧RdX (Qap (Qax lo) w') w'.heap.size v x∧Tk L x∧(∀ n∈x.tgs,n<18446744073709551616)∧Below w.heap.size w w':=by
 obtain⟨k0,n0,A0,nd0,cd0,AL0,nl0,cl0,p0,p1,p2,p3,hy0⟩:=h.get4 0 (by omega);obtain⟨k3,n3,A3,nd3,cd3,AL3,nl3,cl3,q0,q1,q2,q3,hy3⟩:=h.get4 3 (by omega);obtain⟨k4,n4,A4,nd4,cd4,AL4,nl4,cl4,r0,r1,r2,r3,hy4⟩:=h.get4 4 (by omega);obtain⟨k5,n5,A5,nd5,cd5,AL5,nl5,cl5,s0,s1,s2,s3,hy5⟩:=h.get4 5 (by omega);have hp0:=hpar _ (List.getElem_mem (show 0<L.length by omega));have hp5:=hpar _ (List.getElem_mem (show 5<L.length by omega));have HTK:Hid (∀ x:Bb,x.tgs=(L[0]'(by omega)).list.map Itm.num→x.sco=IntKind.i64.wrap ((wth (L[4]'(by omega)) [1,1]).num:Int)→x.tag=(L[5]'(by omega)).list.map (fun y=>(wth y [0,1]).data)→((Qag x.src=true∧Qal x.src=L[3]'(by omega))∨((∀ e,Qag e=true→Qal e≠L[3]'(by omega))∧x.src=⟨0,[],0,0⟩))→Tk L x):=fun x h1 h2 h3 h4=>⟨by rw[Qla (by omega)];exact h1,by rw[Qla (by omega)];exact h2,by rw[Qla (by omega)];exact h3,by rw[Qla (by omega)];exact h4⟩
 obtain⟨Y0,hY0⟩:∃ Y,Y=L[0]'(by omega):=⟨_,rfl⟩
 obtain⟨Y3,hY3⟩:∃ Y,Y=L[3]'(by omega):=⟨_,rfl⟩
 obtain⟨Y4,hY4⟩:∃ Y,Y=L[4]'(by omega):=⟨_,rfl⟩
 obtain⟨Y5,hY5⟩:∃ Y,Y=L[5]'(by omega):=⟨_,rfl⟩
 rw[← hY0] at hy0 HTK hp0
 rw[← hY3] at hy3 HTK
 rw[← hY4] at hy4 HTK
 rw[← hY5] at hy5 HTK hp5
 have HS:=hid (fun (W:World) (hb:Below w.heap.size w W)=>hS.below hb zr);have HBB:=hid hB;have HLO:=hid hlo;have HGW:Hid (g<w.heap.size):=Nat.lt_of_lt_of_le hg hB;have C0:=hid (fun (W:World) (hb:Below w.heap.size w W)=>(hb.cell (p:=⟨g,3,none⟩) HGW.out).trans (Qaj p3));have C3:=hid (fun (W:World) (hb:Below w.heap.size w W)=>And.intro ((hb.cell (p:=⟨g,12,none⟩) HGW.out).trans (Qaj q0)) (And.intro ((hb.cell (p:=⟨g,13,none⟩) HGW.out).trans (Qaj q1)) (And.intro ((hb.cell (p:=⟨g,14,none⟩) HGW.out).trans (Qaj q2)) ((hb.cell (p:=⟨g,15,none⟩) HGW.out).trans (Qaj q3)))));have C4:=hid (fun (W:World) (hb:Below w.heap.size w W)=>And.intro ((hb.cell (p:=⟨g,16,none⟩) HGW.out).trans (Qaj r0)) (And.intro ((hb.cell (p:=⟨g,17,none⟩) HGW.out).trans (Qaj r1)) (And.intro ((hb.cell (p:=⟨g,18,none⟩) HGW.out).trans (Qaj r2)) ((hb.cell (p:=⟨g,19,none⟩) HGW.out).trans (Qaj r3)))))
 have C5:=hid (fun (W:World) (hb:Below w.heap.size w W)=>(hb.cell (p:=⟨g,23,none⟩) HGW.out).trans (Qaj s3));have H0:=hid hy0;have H3:=hid hy3;have H4:=hid hy4;have H5:=hid hy5;have HP0:=hid hp0;have HP5:=hid hp5;have HB0:Hid (Below w.heap.size w (w.alloc zk2)):=zb;have HB1:Hid (Below w.heap.size w ((w.alloc zk2).alloc (.cells #[.int .i64 1,.int .i64 1] 3))):=HB0.out.alloc (Qaa _ _) _;have HS0:Hid ((w.alloc zk2).heap.size=w.heap.size+1):=by show _=_;simp
 have HS1:Hid (((w.alloc zk2).alloc (.cells #[.int .i64 1,.int .i64 1] 3)).heap.size=w.heap.size+2):=by show _=_;simp
 have RZ0:Hid (∀ W,Below (w.heap.size+1) (w.alloc zk2) W→W.heap[w.heap.size]?=some (.cells #[.slice none 0 0,.int .i64 0,.string ⟨#[]⟩,.int .u64 0,.int .u64 0,.int .i64 0,.slice none 0 0] 35 (0,0))):=fun W hb=>Qad (w:=w) rfl hb
 have BZ1:Hid (Below (w.heap.size+1) (w.alloc zk2) ((w.alloc zk2).alloc (.cells #[.int .i64 1,.int .i64 1] 3))):=(Below.refl _ _).alloc (Nat.le_of_eq HS0.out.symm) _;have CW:=hid (Qd3 (Qax lo) Y4 _ B 1 1 (w.heap.size+1) w ((w.alloc zk2).alloc (.cells #[.int .i64 1,.int .i64 1] 3)) (Nat.le_trans hB HB1.out.size) hy4 (HB1.out.mono hB) (by rw[World.cell?_alloc_at _ _ _ _ HS0.out.symm];rfl) (by rw[World.cell?_alloc_at _ _ _ _ HS0.out.symm];rfl));clear h hl hpar hS hB hlo hg p0 p1 p2 p3 q0 q1 q2 q3 r0 r1 r2 r3 s0 s1 s2 s3 hy0 hy3 hy4 hy5 hp0 hp5 hY0 hY3 hY4 hY5;go_enter Tryz.func93,Tryz.ntmps93
 obtain⟨x0,x1,x2,x3⟩:=C4.out _ HB0.out;go_wp2_with fail;refine CW.out.mono ?_;rintro e w1 ⟨v1,rfl,hv,hb⟩;obtain⟨kw,nw,Aw,ndw,cdw,ALw,nlw,clw,rfl⟩:=hv.form;have HNW:Hid (nw=(wth Y4 [1,1]).num):=by
  exact(Qd0 hv).1
 have T1:=hid (HB1.out.trans (hb.mono HB1.out.size));have Z1:=hid (BZ1.out.trans (hb.mono (by rw[HS1.out];omega)));have L1:Hid (w.heap.size+2≤w1.heap.size):=by show _≤_;have:=hb.size;have:=HS1.out;omega
 clear hb hv CW x0 x1 x2 x3;obtain⟨SO,hSO⟩:∃ SO:Value,SO=.int .i64 (wrap64 (nw:Int)):=⟨_,rfl⟩
 have T2:Hid (Below w.heap.size w (w1.alloc (zo2 none 0 0 0 ⟨#[]⟩ 0 0 (wrap64 (nw:Int)) none 0 0))):=T1.out.alloc T1.out.size _;have Z2:Hid (Below (w.heap.size+1) (w.alloc zk2) (w1.alloc (zo2 none 0 0 0 ⟨#[]⟩ 0 0 (wrap64 (nw:Int)) none 0 0))):=Z1.out.alloc (Nat.le_of_succ_le L1.out) _;have R2:Hid ((w1.alloc (zo2 none 0 0 0 ⟨#[]⟩ 0 0 (wrap64 (nw:Int)) none 0 0)).heap[w1.heap.size]?=some (.cells #[.slice none 0 0,.int .i64 0,.string ⟨#[]⟩,.int .u64 0,.int .u64 0,SO,.slice none 0 0] 35 (0,0))):=by rw[hSO];exact heap_alloc_new w1 _
 have S2:Hid (w1.heap.size<(w1.alloc (zo2 none 0 0 0 ⟨#[]⟩ 0 0 (wrap64 (nw:Int)) none 0 0)).heap.size):=Qaf R2.out;have CF:=hid (Qvo S Y3 _ B (w1.alloc (zo2 none 0 0 0 ⟨#[]⟩ 0 0 (wrap64 (nw:Int)) none 0 0)) (HS.out _ T2.out) (Nat.le_trans HBB.out T2.out.size) (H3.out.unmask.below (T2.out.mono HBB.out)));obtain⟨x0,x1,x2,x3⟩:=C3.out _ T2.out;have HSO:=hid hSO;have fl1:=Qu6;clear hSO;unfold Qbq at *;go_wp2_with fail;refine CF.out.mono ?_;rintro e w3 ⟨hb,sc,s,nd,sv,z,rfl,hs1,hs2,hs3,hsrc⟩;have T3:=hid (T2.out.trans (hb.mono T2.out.size));have Z3:=hid (Z2.out.trans (hb.mono (Nat.le_trans (Nat.le_of_succ_le L1.out) (Nat.le_of_lt S2.out))))
 have R3:=hid (Qar R2.out hb S2.out);have HEB:=hid (And.intro hs1 (And.intro hs2 hs3));have HSRC:=hid hsrc;clear hb hs1 hs2 hs3 hsrc x0 x1 x2 x3 CF fl1;obtain⟨g0,g1,g2,g3,g4,g5,g6⟩:=Q1k R3.out;have f1:=Qb5 R3.out 1;have f2:=Qb5 R3.out 2;have f3:=Qb5 R3.out 3;have f4:=Qb5 R3.out 4;unfold Qbq at *;have ST4:=hid (Q3t (.int .i64 sc) (.string s) (.int .u64 (nd:Int)) (.int .u64 (sv:Int)) R3.out);have T4:=hid (ST4.out.2.1 _ _ T3.out (Nat.le_of_succ_le (Nat.le_of_succ_le L1.out)));have Z4:=hid (ST4.out.2.1 _ _ Z3.out (Nat.le_of_succ_le L1.out));have y0:=C0.out _ T4.out;have S3:Hid (w1.heap.size<w3.heap.size):=Qaf R3.out
 have R4:=hid ST4.out.1;have L4:Hid (w1.heap.size+1≤((((w3.setCell ⟨w1.heap.size,1,none⟩ (.int .i64 sc)).setCell ⟨w1.heap.size,2,none⟩ (.string s)).setCell ⟨w1.heap.size,3,none⟩ (.int .u64 (nd:Int))).setCell ⟨w1.heap.size,4,none⟩ (.int .u64 (sv:Int))).heap.size):=by show _≤_;rw[ST4.out.2.2.1];exact S3.out
 clear R2 R3 ST4 T3 Z3 T2 Z2 S2 S3 Z1 T1;go_wp2_with fail;obtain⟨-,-,-,-,hnl0,hls0⟩:=Qd0 H0.out;obtain⟨-,-,-,-,hnl5,hls5⟩:=Qd0 H5.out;have HN0:=hid hnl0;have HN5:=hid hnl5;have h04096:nl0≤4096:=by have:=HP0.out;omega
 have h54096:nl5≤4096:=by have:=HP5.out;omega
 have HL0:=hid hls0;have HL5:=hid hls5;have WBX:Hid (w.heap.size+2≤w1.heap.size):=L1.out;obtain⟨i0,hi0,hz0,hz1,hz2⟩:=info_parts Qmz;have HI:=hid hi0;have HI0:=hid hz0;have HI1:=hid hz1;have HI2:=hid hz2;have Z5:=hid (RZ0.out _ Z4.out);clear hnl0 hnl5 hls0 hls5 hi0 hz0 hz1 hz2 Z4 BZ1 RZ0 HB0 HB1 HS0 HS1 L1 H0 H5 g0 g1 g2 g3 g4 g5 g6 f1 f2 f3 f4;generalize w1.heap.size=bx at *;go_loopw [29] (fun s29 wl=>∃ (i:Nat) (u:Value),i≤nl0∧s29=.int .i64 (i:Int)∧Hid (wl.heap[bx]?=some (.cells #[u,.int .i64 sc,.string s,.int .u64 (nd:Int),.int .u64 (sv:Int),SO,.slice none 0 0] 35 (0,0)))∧Hid (wl.ownsRow (bx+1) 22 1 u i (((Y0.list.map Itm.num).take i).map uV))∧Hid (Below w.heap.size w wl)∧Hid (wl.heap[w.heap.size]?=some (.cells #[.slice none 0 0,.int .i64 0,.string ⟨#[]⟩,.int .u64 0,.int .u64 0,.int .i64 0,.slice none 0 0] 35 (0,0)))∧Hid (bx+1≤wl.heap.size)) (fun s29 _=>nl0 - (intOf s29).toNat)
 case atStart=>exact⟨0,.slice none 0 0,Nat.zero_le _,rfl,R4.out,World.ownsRow_nil _ _ _ _,T4.out,Z5.out,L4.out⟩
 case round =>
  obtain⟨i,u,hi,rfl,RX,OW,HT,RZ,HSZ⟩:=hrel;clear R4 T4 Z5 L4 y0;by_cases hlt:i<nl0
  ·
   obtain⟨b,ob,rfl,hb,hris⟩:=HL0.out (by omega);have hil:i<Y0.list.length:=by rw[← HN0.out];exact hlt
   obtain⟨k9,n9,A9,nd9,cd9,AL9,nl9,cl9,p0,p1,p2,p3,gx⟩:=hris.get4 i hil;have hbw:b<w.heap.size:=Nat.lt_of_lt_of_le hb HBB.out;have y0:=(HT.out.cell (p:=⟨b,ob+i*4,none⟩) hbw).trans (Qaj p0);have y1:=(HT.out.cell (p:=⟨b,ob+i*4+1,none⟩) hbw).trans (Qaj p1);have y2:=(HT.out.cell (p:=⟨b,ob+i*4+2,none⟩) hbw).trans (Qaj p2);have y3:=(HT.out.cell (p:=⟨b,ob+i*4+3,none⟩) hbw).trans (Qaj p3);have hn9:=(Qd0 gx).1;have htk:=Ql0 Y0.list i hil;rw[← hn9] at htk
   have TK:=hid htk;have hi1:(i:Int)<(nl0:Int):=by omega
   have D9:Hid (Below wr.heap.size wr (wr.alloc (zo1 k9 n9 A9 nd9 cd9 AL9 nl9 cl9))):=zb;have m1:(wr.alloc (zo1 k9 n9 A9 nd9 cd9 AL9 nl9 cl9)).cell? ⟨wr.heap.size,1,none⟩=some (.int .u64 (n9:Int)):=(Qcx (Below.refl _ _)).2.1;have x0:=Qab (Qar RX.out D9.out (Nat.lt_of_succ_le HSZ.out)) 0 rfl;have DW:Hid (Below wr.heap.size wr ((wr.alloc (zo1 k9 n9 A9 nd9 cd9 AL9 nl9 cl9)).alloc (zo11 n9))):=D9.out.alloc D9.out.size _;have ROW:Hid (∀ q u,([.int .u64 (n9:Int)]:List Value)[q]?=some u→((wr.alloc (zo1 k9 n9 A9 nd9 cd9 AL9 nl9 cl9)).alloc (zo11 n9)).cell? ((⟨(wr.alloc (zo1 k9 n9 A9 nd9 cd9 AL9 nl9 cl9)).heap.size,0,none⟩:Addr).add q)=some u):=fun q u hq=>by
    match q,hq with
    | 0,hq =>
     cases hq
     rw[show(⟨(wr.alloc (zo1 k9 n9 A9 nd9 cd9 AL9 nl9 cl9)).heap.size,0,none⟩:Addr).add 0=⟨(wr.alloc (zo1 k9 n9 A9 nd9 cd9 AL9 nl9 cl9)).heap.size,0,none⟩ by unfold Addr.add;simp,World.cell?_alloc_at _ _ _ _ rfl]
     rfl
    | q+1,hq=>simp at hq
   have HSN:Hid ((wr.alloc (zo1 k9 n9 A9 nd9 cd9 AL9 nl9 cl9)).heap.size=wr.heap.size+1):=by show _=_;simp
   rw[HSN.out] at ROW
   have OWN:=hid (Qem OW.out DW.out);have BSZ:Hid (bx+1≤((wr.alloc (zo1 k9 n9 A9 nd9 cd9 AL9 nl9 cl9)).alloc (zo11 n9)).heap.size):=Nat.le_trans HSZ.out DW.out.size;clear p0 p1 p2 p3 gx hris hb hbw hn9 htk hil;go_wp2_with (first
    | (at_builtin;refine wpList_append_lies _ rfl (.tmp 34) (.tmp 37) 32 rfl (bx+1) 22 i0 _ 1 8 Tryz.underlying32 HI.out HI0.out HI1.out HI2.out rfl (by decide) u i _ rfl OWN.out ⟨_,0,none⟩ 1 1 [.int .u64 (n9:Int)] rfl rfl ROW.out (by intro u hu;simp at hu;subst hu;rfl) (by decide) (by unfold maxLen;omega) (by omega) BSZ.out _ rfl ?_;intro g2 cap2 w3' ho3 hg3 hat hlt3;have BG:=hid (Qis OW.out DW.out hg3 HSZ.out);have R3':=hid (Qar RX.out BG.out (Nat.lt_succ_self _));have O3:=hid ho3;have s3:=Qab R3'.out 0 rfl;have sf:=Qb5 R3'.out 0;clear ho3 hg3 hat hlt3)
    | fail)
   have STs:=hid (Q11 (.slice (some ⟨g2,0,none⟩) (i+1) cap2) R3'.out);have RZ3:=hid ((STs.out.2.2.2 _ (show w.heap.size≠bx by have:=WBX.out;omega)).trans (Qar RZ.out BG.out (by have:=WBX.out;omega)));have OS:=hid (Qpz O3.out STs.out (Nat.lt_succ_self _));have HT3:=hid (STs.out.2.1 _ _ (HT.out.trans (BG.out.mono (by have:=WBX.out;omega))) (by have:=WBX.out;omega));have HZ3:Hid (bx+1≤(w3'.setCell ⟨bx,0,none⟩ (.slice (some ⟨g2,0,none⟩) (i+1) cap2)).heap.size):=by show _≤_;rw[STs.out.2.2.1];exact Nat.le_trans HSZ.out BG.out.size
   clear OW OWN RX RZ ROW D9 DW;go_roundw
   case rel =>
    refine⟨i+1,_,by omega,by go_num,STs.out.1,?_,HT3.out,RZ3.out,HZ3.out⟩;show World.ownsRow _ _ _ _ _ _ _;rw[TK.out]
    exact OS.out
   case measure=>simp[intOf];omega
  ·
   obtain rfl:i=nl0:=by omega
   have y0:=C5.out _ HT.out;have HTN:Hid ((Y0.list.map Itm.num).take i=Y0.list.map Itm.num):=List.take_of_length_le (by rw[List.length_map,← HN0.out];exact Nat.le_refl _);rw[HTN.out] at OW
   obtain⟨w5,rfl⟩:∃ w5,w5=wr:=⟨_,rfl⟩
   have HQ:=hid (fun (W:World) (hg:w5.grownBy W (some bx))=>(World.ownsRow.kept OW.out (row:=some bx) hg (by
    rcases hv:u.ownBlock with _|q
    ·
     exact .inl rfl
    ·
     refine .inr fun e=>?_
     injection e with e
     have:=(World.ownsRow.lt OW.out q hv).1
     omega):W.ownsRow (bx+1) 22 1 u i ((Y0.list.map Itm.num).map uV)))
   have GB0:Hid (w5.grownBy w5 (some bx)):=World.grownBy.refl w5 _;have LT5:Hid (bx+1≤w5.heap.size):=HSZ.out;clear OW HTN HI HI0 HI1 HI2;obtain⟨j0,hj0,hq0,hq1,hq2⟩:=info_parts Qqd;have JI:=hid hj0;have JI0:=hid hq0;have JI1:=hid hq1;have JI2:=hid hq2;clear hj0 hq0 hq1 hq2;go_wp2_with fail;go_loopw [46] (fun s46 wl=>∃ (k:Nat) (vg:Value) (ps:List Tg),k≤nl5∧s46=.int .i64 (k:Int)∧Hid (wl.heap[bx]?=some (.cells #[u,.int .i64 sc,.string s,.int .u64 (nd:Int),.int .u64 (sv:Int),SO,vg] 35 (0,0)))∧Hid (wl.ownsRow (bx+1) 29 1 vg k (ps.map tgV)∧(∀ g,vg.ownBlock=some g→w5.heap.size≤g))∧Hid (ps.length=k∧∀ j p,ps[j]?=some p→Rd (Qap (Qax lo) w) B p.A p.n ((Y5.list.map fun y=>(wth y [0,1]).data).getD j []))∧Hid (Below w.heap.size w wl)∧Hid (wl.heap[w.heap.size]?=some (.cells #[.slice none 0 0,.int .i64 0,.string ⟨#[]⟩,.int .u64 0,.int .u64 0,.int .i64 0,.slice none 0 0] 35 (0,0)))∧Hid (w5.grownBy wl (some bx))) (fun s46 _=>nl5 - (intOf s46).toNat)
   case atStart=>exact⟨0,.slice none 0 0,[],Nat.zero_le _,rfl,RX.out,⟨World.ownsRow_nil _ _ _ _,fun g e=>by cases e⟩,⟨rfl,fun j p hp=>by simp at hp⟩,HT.out,RZ.out,GB0.out⟩
   case round =>
    obtain⟨k,vg,ps,hk,rfl,RX2,OG,PS,HT2,RZ2,GB⟩:=hrel;clear RX RZ HT GB0 y0;have LT2:Hid (w5.heap.size≤wr.heap.size):=GB.out.size;by_cases hlt2:k<nl5
    ·
     obtain⟨b,ob,rfl,hb,hris⟩:=HL5.out (by omega);have hil:k<Y5.list.length:=by rw[← HN5.out];exact hlt2
     obtain⟨k9,n9,A9,nd9,cd9,AL9,nl9,cl9,p0,p1,p2,p3,gx⟩:=hris.get4 k hil;have hbw:b<w.heap.size:=Nat.lt_of_lt_of_le hb HBB.out;have y0:=(HT2.out.cell (p:=⟨b,ob+k*4,none⟩) hbw).trans (Qaj p0);have y1:=(HT2.out.cell (p:=⟨b,ob+k*4+1,none⟩) hbw).trans (Qaj p1);have y2:=(HT2.out.cell (p:=⟨b,ob+k*4+2,none⟩) hbw).trans (Qaj p2);have y3:=(HT2.out.cell (p:=⟨b,ob+k*4+3,none⟩) hbw).trans (Qaj p3);have hgt:(Y5.list.map fun y=>(wth y [0,1]).data).getD k []=(wth Y5.list[k] [0,1]).data:=by simp[List.getD,hil]
     have HGT:=hid hgt;have GX:=hid gx;have hi1:(k:Int)<(nl5:Int):=by omega
     obtain⟨y,hy⟩:∃ y,y=Y5.list[k]:=⟨_,rfl⟩
     rw[← hy] at HGT GX
     clear p0 p1 p2 p3 gx hris hb hbw hgt hy hil;have D9:Hid (Below wr.heap.size wr (wr.alloc (zo1 k9 n9 A9 nd9 cd9 AL9 nl9 cl9))):=zb;have BX9:=hid (Qar RX2.out D9.out (Nat.lt_of_lt_of_le (Nat.lt_of_succ_le LT5.out) LT2.out));have YB9:Hid ((wr.alloc (zo1 k9 n9 A9 nd9 cd9 AL9 nl9 cl9)).heap[wr.heap.size]?=some (.cells #[.int .i64 k9,.int .u64 (n9:Int),.slice A9 nd9 cd9,.slice AL9 nl9 cl9] 119 (0,0))):=heap_alloc_new wr _;have HSN:Hid ((wr.alloc (zo1 k9 n9 A9 nd9 cd9 AL9 nl9 cl9)).heap.size=wr.heap.size+1):=by show _=_;simp
     go_wp2_with fail;obtain⟨w9,hw9⟩:∃ w9,w9=(wr.alloc (zo1 k9 n9 A9 nd9 cd9 AL9 nl9 cl9)):=⟨_,rfl⟩
     rw[← hw9] at D9 BX9 YB9 HSN
     try rw[← hw9]
     clear hw9 y0 y1 y2 y3;have SB:Hid (bx<w9.heap.size):=Qaf BX9.out;have SY:Hid (wr.heap.size<w9.heap.size):=Qaf YB9.out;refine wp_region_held_drew (S:=fun W=>W.heap[wr.heap.size]?=some (.cells #[.int .i64 k9,.int .u64 (n9:Int),.slice A9 nd9 cd9,.slice AL9 nl9 cl9] 119 (0,0))) (by kernel_rfl) YB9.out (fun hHeld=>?_);have BT:Hid (Below w9.heap.size w9 w9.drew):=Below.drew_;refine Qao (i:=0) (v:=?v0_1) rfl (by kernel_rfl) (by kernel_rfl) (by kernel_rfl) (fun _ _ _ h=>h) (by rfl) ?hy0_1 (by assumption) ?rest0_1
     case hy0_1=>(intro W hSw;go_simp;try with_reducible rfl)
     try simp only[zs]
     refine Qao (i:=2) (v:=?v2_2) rfl (by kernel_rfl) (by kernel_rfl) (by kernel_rfl) (fun _ _ _ h=>h) (by rfl) ?hy2_2 (by assumption) ?rest2_2
     case hy2_2=>(intro W hSw;have y0:=Qab hSw 0 rfl;have y1:=Qab hSw 1 rfl;have y2:=Qab hSw 2 rfl;have y3:=Qab hSw 3 rfl;go_simp;try with_reducible rfl)
     try simp only[zs]
     obtain⟨wc,hwc⟩:∃ wc,wc=w9.drew:=⟨_,rfl⟩
     rw[← hwc] at BT hHeld
     rw[← hwc]
     clear hwc;refine wpAnyH_ready (rs:=[1,3]) (by kernel_rfl) (by simp) ?_;refine AllReadyH.cons rfl (fun K hK=>?_) ?_;clear hHeld;rw[if_pos (by rfl)]
     have hc:=Qab (Qac BX9.out BT.out SB.out) 6 rfl;go_simp
     refine hK.out _ _ (Qac YB9.out BT.out SY.out) (fun hHeld=>?_);try simp only[zs]
     clear hK K hc;refine wpAnyH_ready (rs:=[3]) (by kernel_rfl) (by simp) ?_;refine AllReadyH.cons rfl (fun K hK=>?_) AllReadyH.nil;clear hHeld;rw[if_pos (by rfl)]
     go_simp
     obtain⟨wd,hwd⟩:∃ wd,wd=wc.alloc (.cells #[.int .i64 0,.int .i64 1] 3):=⟨_,rfl⟩
     have hb:Below wc.heap.size wc wd:=by rw[hwd];exact zb
     have P0:Hid (wd.cell? ⟨wc.heap.size,0,none⟩=some (.int .i64 ((0:Nat):Int))):=by rw[hwd];exact(World.cell?_alloc_at _ _ _ _ rfl)
     have P1:Hid (wd.cell? ⟨wc.heap.size,1,none⟩=some (.int .i64 ((1:Nat):Int))):=by rw[hwd];exact(World.cell?_alloc_at _ _ _ _ rfl)
     have GP:Hid (wc.heap.size<wd.heap.size):=World.block_lt_of_cell? wd _ P0.out;rw[← hwd]
     clear hwd;replace BT:=hid (BT.out.trans (hb.mono BT.out.size));clear hb;obtain⟨gp,hg⟩:∃ g,g=wc.heap.size:=⟨_,rfl⟩
     rw[← hg] at P0 P1 GP
     rw[← hg]
     clear hg;refine hK.out _ _ (Qac YB9.out BT.out SY.out) (fun hHeld=>?_);try simp only[zs]
     clear hK K;clear wc;obtain⟨wc,rfl⟩:∃ wc,wc=wd:=⟨_,rfl⟩
     refine wpAnyH_ready (rs:=[4]) (by kernel_rfl) (by simp) ?_;refine AllReadyH.cons rfl (fun K hK=>?_) AllReadyH.nil;clear hHeld;rw[if_pos (by rfl)]
     go_simp
     have hBw:Below B w wc:=((HT2.out.mono HBB.out).trans (D9.out.mono (Nat.le_trans HBB.out HT2.out.size))).trans (BT.out.mono (Nat.le_trans HBB.out (Nat.le_trans HT2.out.size D9.out.size)));refine(Qd3 (Qax lo) y _ B 0 1 gp w wc (Nat.le_trans HBB.out (Nat.le_trans HT2.out.size (Nat.le_trans D9.out.size BT.out.size))) GX.out hBw P0.out P1.out).mono ?_;rintro e wd ⟨v4,rfl,hv,hb⟩;obtain⟨kq,nq,Aq,ndq,cdq,ALq,nlq,clq,rfl⟩:=hv.form;have VD:Hid (Rd (Qap (Qax lo) w) B Aq ndq (wth y [0,1]).data):=(Qd0 hv).2.2.1;clear hv hBw P0 P1 GP;replace BT:=hid (BT.out.trans (hb.mono BT.out.size))
     clear hb;go_simp
     refine hK.out _ _ (Qac YB9.out BT.out SY.out) (fun hHeld=>?_);try simp only[zs]
     clear hK K;clear wc;obtain⟨wc,rfl⟩:∃ wc,wc=wd:=⟨_,rfl⟩
     have fl2:=Qim;refine Qao (i:=5) (v:=?v5_3) rfl (by kernel_rfl) (by kernel_rfl) (by kernel_rfl) (fun _ _ _ h=>h) (by rfl) ?hy5_3 (by assumption) ?rest5_3
     case hy5_3=>(intro W hSw;go_simp;try with_reducible rfl)
     try simp only[zs]
     clear fl2;refine wpAnyH_ready (rs:=[6]) (by kernel_rfl) (by simp) ?_;refine AllReadyH.cons rfl (fun K hK=>?_) AllReadyH.nil;clear hHeld;rw[if_pos (by rfl)]
     go_simp
     obtain⟨wd,hwd⟩:∃ wd,wd=wc.alloc (zo9 Aq ndq cdq):=⟨_,rfl⟩
     have hb:Below wc.heap.size wc wd:=by rw[hwd];exact zb
     have QR:Hid (wd.cell? ⟨wc.heap.size,0,none⟩=some (.slice Aq ndq cdq)):=by rw[hwd];exact(World.cell?_alloc_at _ _ _ _ rfl)
     rw[← hwd]
     clear hwd;replace BT:=hid (BT.out.trans (hb.mono BT.out.size));clear hb;obtain⟨gq,hg⟩:∃ g,g=wc.heap.size:=⟨_,rfl⟩
     rw[← hg] at QR
     rw[← hg]
     clear hg;refine hK.out _ _ (Qac YB9.out BT.out SY.out) (fun hHeld=>?_);try simp only[zs]
     clear hK K;clear wc;obtain⟨wc,rfl⟩:∃ wc,wc=wd:=⟨_,rfl⟩
     rotate_left
     refine AllReadyH.cons rfl (fun K hK=>?_) AllReadyH.nil;clear hHeld;rw[if_pos (by rfl)]
     go_simp
     obtain⟨wd,hwd⟩:∃ wd,wd=wc.alloc (.cells #[.int .i64 0,.int .i64 1] 3):=⟨_,rfl⟩
     have hb:Below wc.heap.size wc wd:=by rw[hwd];exact zb
     have P0:Hid (wd.cell? ⟨wc.heap.size,0,none⟩=some (.int .i64 ((0:Nat):Int))):=by rw[hwd];exact(World.cell?_alloc_at _ _ _ _ rfl)
     have P1:Hid (wd.cell? ⟨wc.heap.size,1,none⟩=some (.int .i64 ((1:Nat):Int))):=by rw[hwd];exact(World.cell?_alloc_at _ _ _ _ rfl)
     have GP:Hid (wc.heap.size<wd.heap.size):=World.block_lt_of_cell? wd _ P0.out;rw[← hwd]
     clear hwd;replace BT:=hid (BT.out.trans (hb.mono BT.out.size));clear hb;obtain⟨gp,hg⟩:∃ g,g=wc.heap.size:=⟨_,rfl⟩
     rw[← hg] at P0 P1 GP
     rw[← hg]
     clear hg;refine hK.out _ _ (Qac YB9.out BT.out SY.out) (fun hHeld=>?_);try simp only[zs]
     clear hK K;clear wc;obtain⟨wc,rfl⟩:∃ wc,wc=wd:=⟨_,rfl⟩
     refine wpAnyH_ready (rs:=[1,4]) (by kernel_rfl) (by simp) ?_;refine AllReadyH.cons rfl (fun K hK=>?_) ?_;clear hHeld;rw[if_pos (by rfl)]
     have hc:=Qab (Qac BX9.out BT.out SB.out) 6 rfl;go_simp
     refine hK.out _ _ (Qac YB9.out BT.out SY.out) (fun hHeld=>?_);try simp only[zs]
     clear hK K hc;refine wpAnyH_ready (rs:=[4]) (by kernel_rfl) (by simp) ?_;refine AllReadyH.cons rfl (fun K hK=>?_) AllReadyH.nil;clear hHeld;rw[if_pos (by rfl)]
     go_simp
     have hBw:Below B w wc:=((HT2.out.mono HBB.out).trans (D9.out.mono (Nat.le_trans HBB.out HT2.out.size))).trans (BT.out.mono (Nat.le_trans HBB.out (Nat.le_trans HT2.out.size D9.out.size)));refine(Qd3 (Qax lo) y _ B 0 1 gp w wc (Nat.le_trans HBB.out (Nat.le_trans HT2.out.size (Nat.le_trans D9.out.size BT.out.size))) GX.out hBw P0.out P1.out).mono ?_;rintro e wd ⟨v4,rfl,hv,hb⟩;obtain⟨kq,nq,Aq,ndq,cdq,ALq,nlq,clq,rfl⟩:=hv.form;have VD:Hid (Rd (Qap (Qax lo) w) B Aq ndq (wth y [0,1]).data):=(Qd0 hv).2.2.1;clear hv hBw P0 P1 GP;replace BT:=hid (BT.out.trans (hb.mono BT.out.size))
     clear hb;go_simp
     refine hK.out _ _ (Qac YB9.out BT.out SY.out) (fun hHeld=>?_);try simp only[zs]
     clear hK K;clear wc;obtain⟨wc,rfl⟩:∃ wc,wc=wd:=⟨_,rfl⟩
     have fl2:=Qim;refine Qao (i:=5) (v:=?v5_4) rfl (by kernel_rfl) (by kernel_rfl) (by kernel_rfl) (fun _ _ _ h=>h) (by rfl) ?hy5_4 (by assumption) ?rest5_4
     case hy5_4=>(intro W hSw;go_simp;try with_reducible rfl)
     try simp only[zs]
     clear fl2;refine wpAnyH_ready (rs:=[6]) (by kernel_rfl) (by simp) ?_;refine AllReadyH.cons rfl (fun K hK=>?_) AllReadyH.nil;clear hHeld;rw[if_pos (by rfl)]
     go_simp
     obtain⟨wd,hwd⟩:∃ wd,wd=wc.alloc (zo9 Aq ndq cdq):=⟨_,rfl⟩
     have hb:Below wc.heap.size wc wd:=by rw[hwd];exact zb
     have QR:Hid (wd.cell? ⟨wc.heap.size,0,none⟩=some (.slice Aq ndq cdq)):=by rw[hwd];exact(World.cell?_alloc_at _ _ _ _ rfl)
     rw[← hwd]
     clear hwd;replace BT:=hid (BT.out.trans (hb.mono BT.out.size));clear hb;obtain⟨gq,hg⟩:∃ g,g=wc.heap.size:=⟨_,rfl⟩
     rw[← hg] at QR
     rw[← hg]
     clear hg;refine hK.out _ _ (Qac YB9.out BT.out SY.out) (fun hHeld=>?_);try simp only[zs]
     clear hK K;clear wc;obtain⟨wc,rfl⟩:∃ wc,wc=wd:=⟨_,rfl⟩
     rotate_left
     refine AllReadyH.cons rfl (fun K hK=>?_) AllReadyH.nil;clear hHeld;rw[if_pos (by rfl)]
     go_simp
     have hBw:Below B w wc:=((HT2.out.mono HBB.out).trans (D9.out.mono (Nat.le_trans HBB.out HT2.out.size))).trans (BT.out.mono (Nat.le_trans HBB.out (Nat.le_trans HT2.out.size D9.out.size)));refine(Qd3 (Qax lo) y _ B 0 1 gp w wc (Nat.le_trans HBB.out (Nat.le_trans HT2.out.size (Nat.le_trans D9.out.size BT.out.size))) GX.out hBw P0.out P1.out).mono ?_;rintro e wd ⟨v4,rfl,hv,hb⟩;obtain⟨kq,nq,Aq,ndq,cdq,ALq,nlq,clq,rfl⟩:=hv.form;have VD:Hid (Rd (Qap (Qax lo) w) B Aq ndq (wth y [0,1]).data):=(Qd0 hv).2.2.1;clear hv hBw P0 P1 GP;replace BT:=hid (BT.out.trans (hb.mono BT.out.size))
     clear hb;go_simp
     refine hK.out _ _ (Qac YB9.out BT.out SY.out) (fun hHeld=>?_);try simp only[zs]
     clear hK K;clear wc;obtain⟨wc,rfl⟩:∃ wc,wc=wd:=⟨_,rfl⟩
     have fl2:=Qim;refine Qao (i:=5) (v:=?v5_5) rfl (by kernel_rfl) (by kernel_rfl) (by kernel_rfl) (fun _ _ _ h=>h) (by rfl) ?hy5_5 (by assumption) ?rest5_5
     case hy5_5=>(intro W hSw;go_simp;try with_reducible rfl)
     try simp only[zs]
     clear fl2;refine wpAnyH_ready (rs:=[1,6]) (by kernel_rfl) (by simp) ?_;refine AllReadyH.cons rfl (fun K hK=>?_) ?_;clear hHeld;rw[if_pos (by rfl)]
     have hc:=Qab (Qac BX9.out BT.out SB.out) 6 rfl;go_simp
     refine hK.out _ _ (Qac YB9.out BT.out SY.out) (fun hHeld=>?_);try simp only[zs]
     clear hK K hc;refine wpAnyH_ready (rs:=[6]) (by kernel_rfl) (by simp) ?_;refine AllReadyH.cons rfl (fun K hK=>?_) AllReadyH.nil;clear hHeld;rw[if_pos (by rfl)]
     go_simp
     obtain⟨wd,hwd⟩:∃ wd,wd=wc.alloc (zo9 Aq ndq cdq):=⟨_,rfl⟩
     have hb:Below wc.heap.size wc wd:=by rw[hwd];exact zb
     have QR:Hid (wd.cell? ⟨wc.heap.size,0,none⟩=some (.slice Aq ndq cdq)):=by rw[hwd];exact(World.cell?_alloc_at _ _ _ _ rfl)
     rw[← hwd]
     clear hwd;replace BT:=hid (BT.out.trans (hb.mono BT.out.size));clear hb;obtain⟨gq,hg⟩:∃ g,g=wc.heap.size:=⟨_,rfl⟩
     rw[← hg] at QR
     rw[← hg]
     clear hg;refine hK.out _ _ (Qac YB9.out BT.out SY.out) (fun hHeld=>?_);try simp only[zs]
     clear hK K;clear wc;obtain⟨wc,rfl⟩:∃ wc,wc=wd:=⟨_,rfl⟩
     rotate_left
     refine AllReadyH.cons rfl (fun K hK=>?_) AllReadyH.nil;clear hHeld;rw[if_pos (by rfl)]
     go_simp
     obtain⟨wd,hwd⟩:∃ wd,wd=wc.alloc (zo9 Aq ndq cdq):=⟨_,rfl⟩
     have hb:Below wc.heap.size wc wd:=by rw[hwd];exact zb
     have QR:Hid (wd.cell? ⟨wc.heap.size,0,none⟩=some (.slice Aq ndq cdq)):=by rw[hwd];exact(World.cell?_alloc_at _ _ _ _ rfl)
     rw[← hwd]
     clear hwd;replace BT:=hid (BT.out.trans (hb.mono BT.out.size));clear hb;obtain⟨gq,hg⟩:∃ g,g=wc.heap.size:=⟨_,rfl⟩
     rw[← hg] at QR
     rw[← hg]
     clear hg;refine hK.out _ _ (Qac YB9.out BT.out SY.out) (fun hHeld=>?_);try simp only[zs]
     clear hK K;clear wc;obtain⟨wc,rfl⟩:∃ wc,wc=wd:=⟨_,rfl⟩
     refine wpAnyH_ready (rs:=[1]) (by kernel_rfl) (by simp) ?_;refine AllReadyH.cons rfl (fun K hK=>?_) AllReadyH.nil;clear hHeld;rw[if_pos (by rfl)]
     have hc:=Qab (Qac BX9.out BT.out SB.out) 6 rfl;go_simp
     refine hK.out _ _ (Qac YB9.out BT.out SY.out) (fun hHeld=>?_);try simp only[zs]
     clear hK K hc;rotate_left
     all_goals
      refine wpAnyH_ready (rs:=[7]) (by kernel_rfl) (by simp) ?_;refine AllReadyH.cons rfl (fun K hK=>?_) AllReadyH.nil;clear hHeld;have DW:Hid (Below wr.heap.size wr wc):=D9.out.trans (BT.out.mono D9.out.size);have OWN:=hid (Qem OG.out.1 DW.out);have ROW:Hid (∀ q u,([.slice Aq ndq cdq]:List Value)[q]?=some u→wc.cell? ((⟨gq,0,none⟩:Addr).add q)=some u):=fun q u hq=>by
       match q,hq with
       | 0,hq =>
        cases hq
        rw[show(⟨gq,0,none⟩:Addr).add 0=⟨gq,0,none⟩ by unfold Addr.add;simp]
        exact QR.out
       | q+1,hq=>simp at hq
      have BSZ:Hid (bx+1≤wc.heap.size):=Nat.le_trans LT5.out (Nat.le_trans LT2.out DW.out.size);have k4096:k≤4096:=by omega
      refine step_append_lies wc rfl (.tmp 51) (.tmp 56) 33 rfl (bx+1) 29 j0 _ 1 24 Tryz.underlying33 JI.out JI0.out JI1.out JI2.out rfl (by decide) vg k _ rfl OWN.out ⟨gq,0,none⟩ 1 1 [.slice Aq ndq cdq] rfl rfl ROW.out (by intro u hu;simp at hu;subst hu;rfl) (by decide) (by unfold maxLen;omega) (by omega) BSZ.out _ rfl ?_;intro g2 cap2 wd ho3 hg3 hat hlt3;have BG:=hid (Qis OG.out.1 DW.out hg3 (Nat.le_trans LT5.out LT2.out));have R3':=hid (Qar RX2.out BG.out (Nat.lt_succ_self _));have O3:=hid ho3;have NB:Hid (∀ g,(Value.slice (some ⟨g2,0,none⟩) (k+1) cap2).ownBlock=some g→w5.heap.size≤g):=fun g e=>by
       injection e with e
       rw[← e]
       rcases hat with h|h
       ·
        exact OG.out.2 _ h
       ·
        rw[h];exact Nat.le_trans LT2.out DW.out.size
      have GB2:Hid (w5.grownBy wd (some bx)):=by
       refine⟨BG.out.os.trans GB.out.os,BG.out.tape.trans GB.out.tape,BG.out.output.trans GB.out.output,Nat.le_trans LT2.out BG.out.size,fun j hj hne=>?_⟩;have h1:wd.heap[j]?=wc.heap[j]?:=hg3.block j (Nat.lt_of_lt_of_le hj (Nat.le_trans LT2.out DW.out.size)) (fun e=>by have:=OG.out.2 j e.symm;omega);rw[h1,DW.out.block j (Nat.lt_of_lt_of_le hj LT2.out)]
       exact GB.out.block j hj hne
      have YBd:Hid (wd.heap[wr.heap.size]?=some (.cells #[.int .i64 k9,.int .u64 (n9:Int),.slice A9 nd9 cd9,.slice AL9 nl9 cl9] 119 (0,0))):=by
       show _=_;rw[hg3.block wr.heap.size (Nat.lt_of_lt_of_le SY.out BT.out.size) (fun e=>by have:=(World.ownsRow.lt OG.out.1 _ e.symm).2;omega)]
       exact Qac YB9.out BT.out SY.out
      clear ho3 hg3 hat hlt3;refine hK.out _ _ YBd.out (fun hHeld=>?_);try simp only[zs]
      clear hK K;refine Qao (i:=8) (v:=.pointer (some ⟨bx,6,none⟩)) rfl (by kernel_rfl) (by kernel_rfl) (by kernel_rfl) (fun _ _ _ h=>h) (by rfl) (by intro W hSw;go_simp) (by assumption) ?_;try simp only[zs]
      refine wpAnyH_ready (rs:=[9]) (by kernel_rfl) (by simp) ?_;refine AllReadyH.cons rfl (fun K hK=>?_) AllReadyH.nil;clear hHeld;have s3:=Qab R3'.out 6 rfl;have sf:=Qb5 R3'.out 6;rw[if_pos (by rfl)]
      go_simp
      have STs:=hid (Q10 (.slice (some ⟨g2,0,none⟩) (k+1) cap2) R3'.out);refine hK.out _ _ ((STs.out.2.2.2 _ (by have:=LT2.out;have:=LT5.out;omega)).trans YBd.out) (fun hHeld=>?_);try simp only[zs]
      clear hK K hHeld;refine wpAnyH_done (by kernel_rfl) ?_ _;have WX:=WBX.out;have RZ3:=hid ((STs.out.2.2.2 _ (show w.heap.size≠bx by omega)).trans (Qar RZ2.out BG.out (show w.heap.size<bx+1 by omega)));have OS:=hid (Qpz O3.out STs.out (Nat.lt_succ_self _));have HT3:=hid (STs.out.2.1 _ _ (HT2.out.trans (BG.out.mono (show w.heap.size≤bx+1 by omega))) (show w.heap.size≤bx by omega));have GB3:Hid (w5.grownBy (wd.setCell ⟨bx,6,none⟩ (.slice (some ⟨g2,0,none⟩) (k+1) cap2)) (some bx)):=by
       have hbl:=STs.out.below;refine⟨hbl.os.trans GB2.out.os,hbl.tape.trans GB2.out.tape,hbl.output.trans GB2.out.output,Nat.le_trans GB2.out.size hbl.size,fun j hj hne=>?_⟩;rw[STs.out.2.2.2 j (fun e=>hne (by rw[e]))]
       exact GB2.out.block j hj hne
      have PS2:Hid ((ps++[Tg.mk Aq ndq cdq]).length=k+1∧∀ j p,(ps++[Tg.mk Aq ndq cdq])[j]?=some p→Rd (Qap (Qax lo) w) B p.A p.n ((Y5.list.map fun y=>(wth y [0,1]).data).getD j [])):=by
       refine⟨by rw[List.length_append,PS.out.1];rfl,fun j p hp=>?_⟩;rcases Nat.lt_or_ge j ps.length with h|h
       ·
        rw[List.getElem?_append_left h] at hp
        exact PS.out.2 j p hp
       ·
        rw[List.getElem?_append_right h,PS.out.1] at hp
        have hj:j - k=0:=by
         rcases Nat.eq_zero_or_pos (j - k) with h0|h0
         ·
          exact h0
         ·
          rw[List.getElem?_eq_none (by simp;omega)] at hp;cases hp
        rw[hj] at hp
        simp at hp;subst hp;have hjk:j=k:=by have:=PS.out.1;omega
        rw[hjk,HGT.out]
        exact VD.out
      clear OWN ROW DW BG R3' O3 GB2 YBd PS OG RX2 RZ2 HT2 GB s3 sf;go_wp2_with fail;go_roundw
      case rel =>
       refine⟨k+1,_,ps++[Tg.mk Aq ndq cdq],by omega,by go_num,STs.out.1,⟨?_,NB.out⟩,PS2.out,HT3.out,RZ3.out,GB3.out⟩;rw[List.map_append]
       exact OS.out
      case measure=>simp[intOf];omega
    ·
     obtain rfl:k=nl5:=by omega
     have QU:=HQ.out _ GB.out;obtain⟨Au,cu,rfl,hcu,hru⟩:=Qob 22 QU;have QU:=hid QU;have hpsr:∀ j p,ps[j]?=some p→Rd wr wr.heap.size p.A p.n ((Y5.list.map fun y=>(wth y [0,1]).data).getD j []):=fun j p hp=>(((PS.out.2 j p hp).sub_ (fun _ _ hc=>Qaj hc) zr).below (HT2.out.mono HBB.out)).more (Nat.le_trans HBB.out HT2.out.size)
     obtain⟨Av,cv,rfl,hcv,hrv⟩:=Qtz 29 OG.out.1 (by rw[List.length_map];exact HN5.out.symm) hpsr;have WX:=WBX.out;have HWS:Hid (IntKind.i64.wrap (nw:Int)=wrap64 (nw:Int)):=by show _=_;unfold wrap64;exact IntKind.wrap_i64 _
     have hso:=HSO.out;clear hcu hru hcv hrv hpsr HQ;clear HSO;subst hso;go_wp2_with (first
      | (refine Qb8 rfl (.tmp 3) rfl _ rfl _ _ RX2.out rfl ?_)
      | (refine Qa2 rfl 35 (.tmp 2) (.tmp 60) rfl _ _ _ _ _ _ _ _ rfl rfl _ _ RZ2.out Qa8 rfl rfl ?_;intro w8 hst;have ST:=hid hst;clear hst)
      | fail)
     refine bodyPost_ret (Q3u Tryz.results93 _ _ rfl ST.out.1 rfl) rfl ?_;have HTE:=ST.out.2.1 _ _ HT2.out zr;have hwb:w.heap.size<bx+1:=by omega
     have hlo2:lo≤bx+1:=by have:=HLO.out;omega
     obtain⟨A8,c8,e8,hc8,hr8⟩:=Qxm 22 (Qpz QU.out ST.out hwb) hlo2;simp only[Value.slice.injEq,true_and] at e8;obtain⟨rfl,rfl⟩:=e8;obtain⟨A7,c7,e7,hc7,hr7⟩:=Qxl 29 (Qpz OG.out.1 ST.out hwb) hlo2 (by rw[List.length_map];exact HN5.out.symm) (fun j p hp=>(PS.out.2 j p hp).mask_go (Nat.le_trans HBB.out HTE.size) (fun q hq _=>HTE.block q hq) (fun _ _ h=>h));simp only[Value.slice.injEq,true_and] at e7;obtain⟨rfl,rfl⟩:=e7;have hlt64:∀ t∈Y0.list.map Itm.num,t<18446744073709551616:=fun t ht=>by
      obtain⟨q,hq,rfl⟩:=List.mem_map.1 ht;obtain⟨m,hm,rfl⟩:=List.mem_iff_getElem.1 hq;obtain⟨b,ob,-,hb,hris⟩:=HL0.out (by have:=HN0.out;omega);obtain⟨k6,n6,A6,nd6,cd6,AL6,nl6,cl6,-,-,-,-,gx⟩:=hris.get4 m hm;rw[← (Qd0 gx).1]
      exact(Qd0 gx).2.1
     have hb47:i≤140737488355328:=by omega
     have hk47:k≤140737488355328:=by omega
     refine⟨_,⟨Y0.list.map Itm.num,ep sc s nd sv,wrap64 (nw:Int),Y5.list.map fun y=>(wth y [0,1]).data⟩,rfl,⟨Au,i,cu,sc,s,nd,sv,Av,k,cv,rfl,⟨hc8,hb47⟩,⟨hc7,hk47⟩,hr8,hlt64,hr7,rfl,HEB.out⟩,HTK.out _ rfl ?_ rfl HSRC.out,hlt64,HTE⟩;rw[← HNW.out]
     exact HWS.out.symm
def hP9:BH:=⟨0,0,2,⟨#[]⟩,2,0,2,⟨#[]⟩,1,0,1,⟨#[]⟩,0,0,0,0,0⟩
def bP9:Blk:=⟨1,1,0,0,[5]⟩
theorem Qm3:hP9.Bd:=⟨by decide,by decide,by decide,by decide,by decide,by decide,by decide,by decide,by decide,by decide,by decide,by decide,by decide⟩
theorem Qoi(w:World) :
  Calls Tryz.prog 12 #[] w fun e w'=>Below w.heap.size w w'∧∃ A,e=.returned (Qbl hP9 A 1 1)∧RdL (Qap (Qax w.heap.size) w') w'.heap.size A 1 [bP9]:=by
 have HR0:=hid (fun (W:World) (hb:Below (w.heap.size+1) (w.alloc zk3) W)=>Qad rfl hb);have hs0:(w.alloc zk3).heap.size=w.heap.size+1:=by simp
 have HS0:=hid hs0;have HB0:=hid ((Below.refl w.heap.size w).alloc zr zk3);have hb1:=(Below.refl (w.heap.size+1) (w.alloc zk3)).alloc (Nat.le_of_eq hs0.symm) (.cells #[.int .u8 5] 5);have hb2:=hb1.alloc (by simp) (zo4 1 1 0 0 (some ⟨w.heap.size+1,0,none⟩) 1 1);have HB2:=hid hb2;have hrd:Rd (((w.alloc zk3).alloc (.cells #[.int .u8 5] 5)).alloc (zo4 1 1 0 0 (some ⟨w.heap.size+1,0,none⟩) 1 1)) (w.heap.size+2) (some ⟨w.heap.size+1,0,none⟩) 1 [5] :=
  (Rd.lit (w.alloc zk3) (w.heap.size+1) (by simp) [5] 5 #[.int .u8 5] rfl 1 rfl).alloc (by simp) _
 have hc:∀ j u,(#[.int .u64 1,.int .u64 1,.int .u64 0,.int .i64 0,.slice (some ⟨w.heap.size+1,0,none⟩) 1 1]:Array Value)[j]?=some u→(((w.alloc zk3).alloc (.cells #[.int .u8 5] 5)).alloc (zo4 1 1 0 0 (some ⟨w.heap.size+1,0,none⟩) 1 1)).cell? ⟨w.heap.size+2,j,none⟩=some u:=fun j u hj=>by
  rw[World.cell?_alloc_at _ _ _ _ (by simp)];exact hj
 have mc:∀ (j:Nat) (u:Value),(((w.alloc zk3).alloc (.cells #[.int .u8 5] 5)).alloc (zo4 1 1 0 0 (some ⟨w.heap.size+1,0,none⟩) 1 1)).cell? ⟨w.heap.size+2,j,none⟩=some u→(Qap (Qax (w.heap.size+1)) (((w.alloc zk3).alloc (.cells #[.int .u8 5] 5)).alloc (zo4 1 1 0 0 (some ⟨w.heap.size+1,0,none⟩) 1 1))).cell? ⟨w.heap.size+2,j,none⟩=some u:=fun j u hu=>(Qaq (Qaz.2 (show w.heap.size+1≤w.heap.size+2 by omega))).trans hu
 have hrl:RdL (Qap (Qax (w.heap.size+1)) (((w.alloc zk3).alloc (.cells #[.int .u8 5] 5)).alloc (zo4 1 1 0 0 (some ⟨w.heap.size+1,0,none⟩) 1 1))) (w.heap.size+3) (some ⟨w.heap.size+2,0,none⟩) 1 [bP9] :=
  ⟨rfl,fun _=>⟨w.heap.size+2,0,rfl,Nat.lt_succ_self _,⟨⟨some ⟨w.heap.size+1,0,none⟩,1,1,⟨mc _ _ (hc 0 _ rfl),mc _ _ (hc 1 _ rfl),mc _ _ (hc 2 _ rfl),mc _ _ (hc 3 _ rfl),mc _ _ (hc 4 _ rfl),⟨by decide,by decide,by decide⟩,⟨by decide,by decide⟩,(hrd.mask_any (fun _ b o e=>by cases e;exact Nat.le_refl _)).more (Nat.le_succ _)⟩⟩,trivial⟩⟩,by decide⟩
 have HRL:=hid hrl;clear hb1 hb2 hrd hc hrl hs0 mc;go_enter Tryz.func12,Tryz.ntmps12;go_wp2_with (first
  | (refine Qbp rfl 28 (.tmp 0) (.tmp 7) rfl _ rfl rfl _ _ (HR0.out _ HB2.out) Qb1 rfl rfl ?_;intro W' hrow' _ hoth hbel hsz;have HWB:=hid (hbel _ _ (HB0.out.trans (HB2.out.mono (Nat.le_succ _))) zr);clear hbel)
  | fail)
 refine bodyPost_ret (Q12 Tryz.results12 _ _ rfl hrow' rfl) rfl ⟨HWB.out,some ⟨w.heap.size+2,0,none⟩,rfl,?_⟩;exact HRL.out.maskgo (Nat.le_succ _) (fun p hp u hu=>(hoth p (by omega)).trans hu) (by rw[hsz];simp)
theorem Qm5(l:List Blk)(x:Blk)(q:Nat)(h:x.num≠q):(Qc6 l x).find? (Qbu q)=l.find? (Qbu q):=by
 have hx:Qbu q x=false:=by unfold Qbu;simpa using h
 unfold Qc6;rw[List.find?_append,List.find?_cons,hx,← List.find?_append,List.take_append_drop]
theorem Qqc(h:BH)(l:List Blk)(x:Blk)(q:Nat)(sc:Int)(k n f:Nat)(hq:x.num≠q)(h1:Qa3 (h.bun l)=0)(h2:Qa3 (h.bun (Qc6 l x))=0):Qdg (h.bun (Qc6 l x)) q sc k n f=Qdg (h.bun l) q sc k n f:=by
 have e1:Qbx (h.bun (Qc6 l x))=Qbx (h.bun l):=rfl;have e2:(h.bun (Qc6 l x)).blks=Qc6 l x:=rfl;have e3:(h.bun l).blks=l:=rfl;unfold Qdg;rw[e1,e2,e3,h1,h2,Qm5 l x q hq]
end Go.Proofs.YtbnfkjkoinbkgaaGreatDoor
