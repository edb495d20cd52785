import Derived.Test.YtbnfkjkoinbkgaaGreatDoorVAbb
import Derived.Test.YtbnfkjkoinbkgaaGreatDoorVKFits
import Derived.Test.YtbnfkjkoinbkgaaGreatDoorVKHead
import Derived.Test.YtbnfkjkoinbkgaaGreatDoorVKMake
import Derived.Test.YtbnfkjkoinbkgaaGreatDoorVNumG
namespace Go.Proofs.YtbnfkjkoinbkgaaGreatDoor
set_option maxRecDepth 100000
set_option maxHeartbeats 16000000
open Go.RowKit
open Go.Lib (hid)
structure RSt (w:World) (g:Nat) (A:OA) (n c:Nat) (bs:LB) (i p d:Nat):Prop where
 c0:w.cell? ⟨g,0,none⟩=some (.slice A n c)
 c1:w.cell? ⟨g,1,none⟩=some (.int .i64 (i:Int))
 c2:w.cell? ⟨g,2,none⟩=some (.int .i64 (p:Int))
 c3:w.cell? ⟨g,3,none⟩=some (.int .i64 (d:Int))
 f1:w.frozen? ⟨g,1,none⟩=false
 f2:w.frozen? ⟨g,2,none⟩=false
 f3:w.frozen? ⟨g,3,none⟩=false
 rd:Rd w g A n bs
 hi:i≤n
 hn:n≤140737488355328
 hc:n≤c
section
variable {w w':World}{g n c i p d:Nat}{A:OA}{bs:LB}
theorem RSt.lt(h:RSt w g A n c bs i p d):g<w.heap.size:=World.block_lt_of_cell? w ⟨g,0,none⟩ h.c0
theorem RSt.below{B:Nat}(h:RSt w g A n c bs i p d)(hb:Below B w w')(hg:g<B):RSt w' g A n c bs i p d :=
 ⟨(hb.cell (p:=⟨g,0,none⟩) hg).trans h.c0,(hb.cell (p:=⟨g,1,none⟩) hg).trans h.c1,(hb.cell (p:=⟨g,2,none⟩) hg).trans h.c2,(hb.cell (p:=⟨g,3,none⟩) hg).trans h.c3,
  (hb.frozen (p:=⟨g,1,none⟩) hg).trans h.f1,(hb.frozen (p:=⟨g,2,none⟩) hg).trans h.f2,(hb.frozen (p:=⟨g,3,none⟩) hg).trans h.f3,h.rd.keep fun _ hq=>hb.cell (Nat.lt_trans hq hg),h.hi,h.hn,h.hc⟩
theorem RSt.alloc(h:RSt w g A n c bs i p d)(o:Obj):RSt (w.alloc o) g A n c bs i p d:=h.below ((Below.refl _ _).alloc zr o) h.lt
theorem RSt.drew(h:RSt w g A n c bs i p d):RSt w.drew g A n c bs i p d:=⟨h.c0,h.c1,h.c2,h.c3,h.f1,h.f2,h.f3,h.rd,h.hi,h.hn,h.hc⟩
theorem Qbc{w:World}{g j k:Nat}{v u:Value}(h:j≠k)(hc:w.cell? ⟨g,k,none⟩=some u):(w.setCell ⟨g,j,none⟩ v).cell? ⟨g,k,none⟩=some u:=by
 rw[World.cell?_setCell_other _ _ _ _ (fun e=>by injection e with _ e2;exact h e2)]
 exact hc
theorem Rd.setg{v:Value}{j:Nat}(h:Rd w g A n bs):Rd (w.setCell ⟨g,j,none⟩ v) g A n bs :=
 h.keep fun q hq=>World.cell?_setCell_far _ _ _ _ (by show g≠q.block;omega)
theorem RSt.set1(h:RSt w g A n c bs i p d){z:Int}(i':Nat)(hz:z=(i':Int))(hi:i'≤n):RSt (w.setCell ⟨g,1,none⟩ (.int .i64 z)) g A n c bs i' p d:=by
 subst hz;exact⟨Qbc (by decide) h.c0,World.cell?_setCell_same _ _ _ h.c1,Qbc (by decide) h.c2,Qbc (by decide) h.c3,by simpa using h.f1,by simpa using h.f2,by simpa using h.f3,h.rd.setg,hi,h.hn,h.hc⟩
theorem RSt.set2(h:RSt w g A n c bs i p d){z:Int}(p':Nat)(hz:z=(p':Int)):RSt (w.setCell ⟨g,2,none⟩ (.int .i64 z)) g A n c bs i p' d:=by
 subst hz;exact⟨Qbc (by decide) h.c0,Qbc (by decide) h.c1,World.cell?_setCell_same _ _ _ h.c2,Qbc (by decide) h.c3,by simpa using h.f1,by simpa using h.f2,by simpa using h.f3,h.rd.setg,h.hi,h.hn,h.hc⟩
theorem RSt.set3(h:RSt w g A n c bs i p d){z:Int}(d':Nat)(hz:z=(d':Int)):RSt (w.setCell ⟨g,3,none⟩ (.int .i64 z)) g A n c bs i p d':=by
 subst hz;exact⟨Qbc (by decide) h.c0,Qbc (by decide) h.c1,Qbc (by decide) h.c2,World.cell?_setCell_same _ _ _ h.c3,by simpa using h.f1,by simpa using h.f2,by simpa using h.f3,h.rd.setg,h.hi,h.hn,h.hc⟩
theorem RSt.byte(h:RSt w g A n c bs i p d)(hl:i<n):∃ (b o:Nat) (x:UInt8),A=some ⟨b,o,none⟩∧w.cell? ⟨b,o+i,none⟩=some (.int .u8 (x.toNat:Int))∧bs.drop i=x::bs.drop (i+1)∧b<g:=by
 obtain⟨b,o,e,hb,hc⟩:=h.rd.2 (by omega);have hlen:=h.rd.1;refine⟨b,o,bs.getD i 0,e,hc i hl,?_,hb⟩;rw[List.drop_eq_getElem_cons (by omega)]
 simp[List.getD,show i<bs.length by omega]
end
theorem Qai(B:Nat)(w:World)(k:Nat):Below B w (w.drewN k):=⟨rfl,rfl,rfl,Nat.le_refl _,fun _ _=>rfl⟩
theorem Qzc{w:World}{g n c i p d:Nat}{A:OA}{bs:LB}(h:RSt w g A n c bs i p d) :
  Calls Tryz.prog 179 #[.pointer (some ⟨g,0,none⟩)] w fun e w'=>e=.returned (.int .u64 ((n - i:Nat):Int))∧∃ m,w'=w.drewN m:=by
 have g0:=h.c0;have g1:=h.c1;have hi:=h.hi;have hn:=h.hn;clear h;have e:(n:Int) - (i:Int)=((n - i:Nat):Int):=by omega
 go_enter Tryz.func179,Tryz.ntmps179;go_wp2_with fail;go_quiet (fail)
 go_wp2_with fail;go_ret;exact⟨rfl,nq,rfl⟩
theorem Qf0{w:World}{g n c i p d:Nat}{A:OA}{bs:LB}(h:RSt w g A n c bs i p d) :
  Calls Tryz.prog 179 #[.pointer (some ⟨g,0,none⟩)] w fun e w'=>e=.returned (.int .u64 ((n - i:Nat):Int))∧Below w.heap.size w w' :=
 (Qzc h).mono fun _ _ ⟨h1,_,h2⟩=>⟨h1,h2▸Qai _ _ _⟩
theorem RSt.drewN{w:World}{g n c i p d:Nat}{A:OA}{bs:LB}(h:RSt w g A n c bs i p d)(k:Nat):RSt (w.drewN k) g A n c bs i p d:=h.below (Qai _ _ _) h.lt
theorem Qwm(X:Nat)(hx:X<256):bits BinOp.and IntKind.u8 (X:Int) 31=((X % 32:Nat):Int):=by
 have h:=u8_and_nat X 31 hx (by decide);rw[show X &&& 31=X % 32 from Nat.and_two_pow_sub_one_eq_mod X 5] at h
 exact h
theorem Qcq(x:UInt8)(w:World) :
  Calls Tryz.prog 162 #[.int .u8 (x.toNat:Int)] w fun e w'=>e=.returned (.bool (Qhb x))∧w=w':=by
 have hx:=x.toNat_lt;have ha:Qhb x=decide (x.toNat=159∨(x.toNat / 32=4∧x.toNat % 32≤27)):=by
  unfold Qhb;have e:(x==159)=decide (x.toNat=159):=by
   by_cases h:x=159
   ·
    subst h;rfl
   ·
    have:x.toNat≠159:=fun e=>h (UInt8.toNat_inj.1 e)
    simp[h,this]
  rw[e]
  have e2:(x.toNat / 32==4)=decide (x.toNat / 32=4):=by by_cases h:x.toNat / 32=4 <;> simp[h]
  rw[e2]
  simp[Bool.decide_or,Bool.decide_and]
 obtain⟨R,hR⟩:∃ q,q=Qhb x:=⟨_,rfl⟩
 rw[← hR]
 rw[ha] at hR
 generalize x.toNat=X at *;have HR:=hid hR;clear ha hR;have hb:=Qwm X hx;by_cases hk:X / 32=4
 ·
  have hk2:((X:Int) / 32 != 4)=false:=by simp;omega
  by_cases hl:X % 32≤27
  ·
   have hl2:(X:Int) % 32≤27:=by omega
   go_enter Tryz.func162,Tryz.ntmps162;go_wp2_with fail;go_ret;exact⟨by show Ending.returned (.bool true)=_;rw[HR.out];simp;omega,rfl⟩
  ·
   have hl2:27<(X:Int) % 32:=by omega
   go_enter Tryz.func162,Tryz.ntmps162;go_wp2_with fail;go_ret;refine⟨?_,rfl⟩;show Ending.returned (.bool ((X:Int)==159))=_;rw[HR.out]
   by_cases h9:X=159
   ·
    subst h9;rfl
   ·
    rw[beq_eq_false_iff_ne.2 (by omega),decide_eq_false (by omega)]
 ·
  have hk2:((X:Int) / 32 != 4)=true:=by simp;omega
  go_enter Tryz.func162,Tryz.ntmps162;go_wp2_with fail;go_ret;exact⟨by show Ending.returned (.bool false)=_;rw[HR.out];simp;omega,rfl⟩
def Qjj(x:UInt8)(g:Nat):Value :=
 if 27<x.toNat % 32 then .nilFunc else if x.toNat / 32=0 then .func (.func 180) #[.pointer (some ⟨g,0,none⟩)] #[] else if x.toNat / 32=2 then .func (.func 181) #[.pointer (some ⟨g,0,none⟩)] #[]
 else if x.toNat / 32=3 then .func (.func 182) #[.pointer (some ⟨g,0,none⟩)] #[] else if x.toNat / 32=4 then .func (.func 183) #[.pointer (some ⟨g,0,none⟩)] #[] else .nilFunc
theorem Qdu(x:UInt8)(g:Nat)(w:World) :
  Calls Tryz.prog 164 #[.pointer (some ⟨g,0,none⟩),.int .u8 (x.toNat:Int)] w fun e w'=>e=.returned (Qjj x g)∧w=w':=by
 have hx:=x.toNat_lt;unfold Qjj;generalize x.toNat=X at *;have hb:=Qwm X hx;have hmf:∀ (fn:Fn) (first cap:Array Value) (w:World),(Instr.makeFunc fn first cap).run Tryz.prog w=.ok (.func fn first cap) w:=fun _ _ _ _=>rfl
 by_cases hl:27<X % 32
 ·
  rw[if_pos hl]
  go_enter Tryz.func164,Tryz.ntmps164;go_wp2_with fail;go_ret;exact⟨rfl,rfl⟩
 rw[if_neg hl]
 by_cases h0:X / 32=0
 ·
  rw[if_pos h0]
  have k0:((X:Int) / 32==0)=true:=by simp;omega
  go_enter Tryz.func164,Tryz.ntmps164;go_wp2_with fail;go_ret;exact⟨rfl,rfl⟩
 rw[if_neg h0]
 have k0:((X:Int) / 32==0)=false:=by simp;omega
 by_cases h2:X / 32=2
 ·
  rw[if_pos h2]
  have k2:((X:Int) / 32==2)=true:=by simp;omega
  go_enter Tryz.func164,Tryz.ntmps164;go_wp2_with fail;go_ret;exact⟨rfl,rfl⟩
 rw[if_neg h2]
 have k2:((X:Int) / 32==2)=false:=by simp;omega
 by_cases h3:X / 32=3
 ·
  rw[if_pos h3]
  have k3:((X:Int) / 32==3)=true:=by simp;omega
  go_enter Tryz.func164,Tryz.ntmps164;go_wp2_with fail;go_ret;exact⟨rfl,rfl⟩
 rw[if_neg h3]
 have k3:((X:Int) / 32==3)=false:=by simp;omega
 by_cases h4:X / 32=4
 ·
  rw[if_pos h4]
  have k4:((X:Int) / 32==4)=true:=by simp;omega
  go_enter Tryz.func164,Tryz.ntmps164;go_wp2_with fail;go_ret;exact⟨rfl,rfl⟩
 rw[if_neg h4]
 have k4:((X:Int) / 32==4)=false:=by simp;omega
 go_enter Tryz.func164,Tryz.ntmps164;go_wp2_with fail;go_ret;exact⟨rfl,rfl⟩
theorem Q4k{w:World}{B n i e:Nat}{A:OA}{l:LB}(c:Nat)(h:Rd w B A n l)(hi:i≤e)(he:e≤n)(hc:n≤c)(_hn:n≤140737488355328) :
  ∃ A',(∀ W:World,(Instr.slice 29 (.slice A n c) (some (.int .i64 (i:Int))) (some (.int .i64 (e:Int))) (some (.int .i64 (e:Int)))).run Tryz.prog W=.ok (.slice A' (e - i) (e - i)) W)∧Rd w B A' (e - i) ((l.drop i).take (e - i)):=by
 have hz:=Qdc;have ht:=Tryz.underlying29;have hl:=h.1;by_cases hck:e=i
 ·
  subst hck;refine⟨A,fun W=>?_,?_⟩
  ·
   go_simp
   intro hh;omega
  ·
   rw[Nat.sub_self,List.take_zero];exact Rd.nil_
 ·
  refine⟨A.map (·.add i),fun W=>?_,h.cut.take (by omega)⟩;go_simp
  intro hh;omega
def Qaw:Value:=.agg #[.int .i64 0,.int .u64 0,.slice none 0 0,.slice none 0 0]
def flt(z:Int):Value:=.iface 212 (.agg #[.int .i64 z])
def Qc0(g:Nat)(A:OA)(n c:Nat)(bs:LB)(d:Nat)(r:Except Int (Itm×Nat×List UInt8))(w:World)(e:Ending)(w':World):Prop :=
 match r with
 | .error z=>e=.returned (.tuple #[Qaw,flt z])∧Only g w w'
 | .ok (x,p',l')=>∃ v i',e=.returned (.tuple #[v,.nilIface])∧RdI (Qap (Qax w.heap.size) w') w'.heap.size v x∧RSt w' g A n c bs i' p' d∧bs.drop i'=l'∧Only g w w'
section
variable {w:World}{g n c i p d:Nat}{A:OA}{bs:LB}
theorem Qge(h:RSt w g A n c bs i p d)(k:Nat)(hk:n - i<k) :
  Calls Tryz.prog 184 #[.pointer (some ⟨g,0,none⟩),.int .u64 (k:Int)] w fun e w'=>e=.returned (.tuple #[.slice none 0 0,flt 30])∧Below w.heap.size w w':=by
 have C1:=hid (Qf0 h);clear h;go_enter Tryz.func184,Tryz.ntmps184;go_wp2_with fail;refine C1.out.mono ?_;rintro e w1 ⟨rfl,hb⟩;have HB:=hid hb;clear hb;generalize n - i=m at *;go_wp2_with fail;go_ret2
 exact⟨rfl,HB.out⟩
theorem Qn0(h:RSt w g A n c bs i p d)(k:Nat)(hk:k≤n - i) :
  Calls Tryz.prog 184 #[.pointer (some ⟨g,0,none⟩),.int .u64 (k:Int)] w fun e w'=>∃ A',e=.returned (.tuple #[.slice A' k k,.nilIface])∧Rd w' g A' k ((bs.drop i).take k)∧RSt w' g A n c bs (i+k) p d∧Only g w w':=by
 have C1:=hid (Qf0 h);have hi:=h.hi;have hn:=h.hn;obtain⟨A',hrun,hrd⟩:=Q4k c h.rd (Nat.le_add_right i k) (by omega) h.hc h.hn;rw[Nat.add_sub_cancel_left] at hrun hrd
 have HRUN:=hid hrun;have HRD:=hid hrd;have HR:=hid h;clear hrun hrd h;go_enter Tryz.func184,Tryz.ntmps184;go_wp2_with fail;refine C1.out.mono ?_;rintro e w1 ⟨rfl,hb⟩;have HS:=hid (HR.out.below hb HR.out.lt);have HB:=hid hb;have g0:=HS.out.c0;have g1:=HS.out.c1;have f1:=HS.out.f1;have hrun:=HRUN.out;have e1:((i:Int)+(k:Int))=((i+k:Nat):Int):=by omega
 have hki:(k:Int)≤((n - i:Nat):Int):=by omega
 clear hb;rw[← e1] at hrun
 clear e1;go_wp2_with fail;go_quiet (fail)
 have g1':(w1.drewN nq).cell? ⟨g,1,none⟩=some (.int .i64 (i:Int)):=g1;have f1':(w1.drewN nq).frozen? ⟨g,1,none⟩=false:=f1;go_wp2_with fail;go_ret2
 have hs:RSt (w1.drewN nq) g A n c bs i p d:=HS.out.below (Qai _ _ _) HS.out.lt;exact⟨A',rfl,(HRD.out.keep fun q hq=>(HB.out.mono (Nat.le_of_lt HR.out.lt)).cell hq).keep fun q hq=>by rw[World.cell?_setCell_far _ _ _ _ (by show g≠q.block;omega)];rfl,
  hs.set1 (i+k) (by omega) (by omega),((Only.of_below HB.out).trans (Only.of_below (Qai _ _ _))).setCell (by rfl) _⟩
def set4(w:World)(b:Nat)(u0 u1 u2 u3:Value):World:=(((w.setCell ⟨b,0,none⟩ u0).setCell ⟨b,1,none⟩ u1).setCell ⟨b,2,none⟩ u2).setCell ⟨b,3,none⟩ u3
theorem Ql5{b k:Nat}{u0 u1 u2 u3:Value}(h:k≠b):(set4 w b u0 u1 u2 u3).heap[k]?=w.heap[k]?:=by
 unfold set4;rw[Below.heap_setCell _ _ _ _ h,Below.heap_setCell _ _ _ _ h,Below.heap_setCell _ _ _ _ h,Below.heap_setCell _ _ _ _ h]
theorem Ql4{b:Nat}{u0 u1 u2 u3:Value}:(set4 w b u0 u1 u2 u3).heap.size=w.heap.size:=by simp[set4,World.setCell]
theorem Qex{w0:World}{B b:Nat}{u0 u1 u2 u3:Value}(h:Below B w0 w)(hb:B≤b):Below B w0 (set4 w b u0 u1 u2 u3):=Qas h hb
theorem Qat{w0:World}{b:Nat}{u0 u1 u2 u3:Value}(h:Only g w0 w)(hb:w0.heap.size≤b):Only g w0 (set4 w b u0 u1 u2 u3) :=
 ⟨h.os,h.tape,h.output,by rw[Ql4];exact h.size,fun k hk hg=>(Ql5 (by omega)).trans (h.block k hk hg)⟩
theorem RSt.set4{b:Nat}{u0 u1 u2 u3:Value}(h:RSt w g A n c bs i p d)(hb:g<b):RSt (set4 w b u0 u1 u2 u3) g A n c bs i p d :=
 h.below (B:=b) (Qex (Below.refl _ _) zr) hb
theorem RdI.fin{b lo lo':Nat}{u0 u1 u2 u3 v:Value}{x:Itm}{B:Nat}(h:RdI (Qap (Qax lo) w) B v x)(hB:B≤w.heap.size)(hb:b<lo)(hl:lo'≤lo):RdI (Qap (Qax lo') (Go.Proofs.YtbnfkjkoinbkgaaGreatDoor.set4 w b u0 u1 u2 u3)) (Go.Proofs.YtbnfkjkoinbkgaaGreatDoor.set4 w b u0 u1 u2 u3).heap.size v x :=
 h.mask_go (by rw[Ql4];exact hB) (fun k _ hk=>Ql5 (by have:=Qaz.1 hk;omega)) (fun k _ hk=>Qaz.2 (Nat.le_trans hl (Qaz.1 hk)))
theorem Ob.news{base m cp:Nat}{t:TypeId}{A:OA}{l:LB}(h:Ob w base t (.slice A m cp) l):Rd (Qap (Qax base) w) w.heap.size A m l:=by
 obtain⟨hl,hr,hc,hm⟩:=h.rd_;refine⟨hl,fun h0=>?_⟩;obtain⟨gg,cap,hv,hb,hlt,_⟩:=h.form (by omega);injection hv with h1 h2 h3
 subst h1;obtain⟨b,o,e,hbb,hcell⟩:=hr.2 h0;injection e with e
 injection e with e1 e2
 subst e1 e2;exact⟨gg,0,rfl,hlt,fun j hj=>(Qaq (Qaz.2 hb)).trans (hcell j hj)⟩
theorem RdI.bare{w':World}{B B' m:Nat}{k:Int}{v:Value}(h:RdI w B v (.mk k m [] [])):RdI w' B' v (.mk k m [] []):=by
 rw[RdI] at h ⊢
 obtain⟨A,nd,cd,AL,nl,cl,e,h1,h2,h3,h4,h5,h6,_⟩:=h;have hd:nd=0:=h4.1.symm;have hl:nl=0:=h6.symm;subst hd hl;exact⟨A,0,cd,AL,0,cl,e,h1,h2,h3,Rd.nil_,h5,rfl,fun h=>absurd h (Nat.lt_irrefl _)⟩
theorem Qa6{W':World}(h:Only g (w.alloc zk0) W')(hg:g<w.heap.size) :
  (W'.cell? ⟨w.heap.size,0,none⟩=some (.int .i64 0)∧W'.cell? ⟨w.heap.size,1,none⟩=some (.int .u64 0)∧W'.cell? ⟨w.heap.size,2,none⟩=some (.slice none 0 0)∧W'.cell? ⟨w.heap.size,3,none⟩=some (.slice none 0 0)) ∧
  (W'.frozen? ⟨w.heap.size,0,none⟩=false∧W'.frozen? ⟨w.heap.size,1,none⟩=false∧W'.frozen? ⟨w.heap.size,2,none⟩=false∧W'.frozen? ⟨w.heap.size,3,none⟩=false):=by
 have hb:=h.block w.heap.size (by simp) (by omega);refine⟨⟨?_,?_,?_,?_⟩,?_,?_,?_,?_⟩
 ·
  exact(World.cell?_of_block (w:=w.alloc zk0) (a:=⟨w.heap.size,0,none⟩) hb).trans (by simp)
 ·
  exact(World.cell?_of_block (w:=w.alloc zk0) (a:=⟨w.heap.size,1,none⟩) hb).trans (by simp)
 ·
  exact(World.cell?_of_block (w:=w.alloc zk0) (a:=⟨w.heap.size,2,none⟩) hb).trans (by simp)
 ·
  exact(World.cell?_of_block (w:=w.alloc zk0) (a:=⟨w.heap.size,3,none⟩) hb).trans (by simp)
 ·
  exact(World.frozen?_of_block (w:=w.alloc zk0) (a:=⟨w.heap.size,0,none⟩) hb).trans (by simp)
 ·
  exact(World.frozen?_of_block (w:=w.alloc zk0) (a:=⟨w.heap.size,1,none⟩) hb).trans (by simp)
 ·
  exact(World.frozen?_of_block (w:=w.alloc zk0) (a:=⟨w.heap.size,2,none⟩) hb).trans (by simp)
 ·
  exact(World.frozen?_of_block (w:=w.alloc zk0) (a:=⟨w.heap.size,3,none⟩) hb).trans (by simp)
theorem Qwz(h:RSt w g A n c bs i p d)(m:Nat)(hm:m<18446744073709551616) :
  Calls Tryz.prog 180 #[.pointer (some ⟨g,0,none⟩),.int .u64 (m:Int)] w (Qc0 g A n c bs d (.ok (.mk 0 m [] [],p,bs.drop i)) w):=by
 have C1:=hid (fun W=>Qnd m W hm);have HR:=hid h;clear h;go_enter Tryz.func180,Tryz.ntmps180;go_wp2_with fail;refine(C1.out _).mono ?_;rintro e w1 ⟨v,rfl,hv,hb⟩;obtain⟨k1,n1,A1,nd1,cd1,AL1,nl1,cl1,rfl⟩:=hv.form;have HV:=hid hv;have hb':=Qea hb;obtain⟨⟨z0,z1,z2,z3⟩,f0,f1,f2,f3⟩:=Qa4 hb';have HB:=hid (((Below.refl w.heap.size w).alloc zr _).trans (hb'.mono (Nat.le_succ _)));clear hv hb hb';go_wp2_with fail;refine bodyPost_ret (v:=.tuple #[.agg #[.int .i64 k1,.int .u64 (n1:Int),.slice A1 nd1 cd1,.slice AL1 nl1 cl1],.nilIface]) (by simp[results,Tryz.results180,go_sem,z0,z1,z2,z3]) rfl ?_
 exact⟨_,i,rfl,HV.out.bare,(HR.out.below HB.out HR.out.lt).set4 HR.out.lt,rfl,Qat (Only.of_below HB.out) zr⟩
end
section
variable {w:World}{g n c i p d:Nat}{A:OA}{bs:LB}
theorem Qsn(A:OA)(n c B:Nat)(l:LB)(w:World)(hB:B≤w.heap.size)(h:Rd w B A n l)(hn:n≤140737488355328) :
  Calls Tryz.prog 76 #[.slice A n c] w fun e w'=>∃ v,e=.returned v∧RdI (Qap (Qax w.heap.size) w') w'.heap.size v (.mk 2 0 l [])∧Below w.heap.size w w':=by
 have C1:=hid (Qda A n c B l (w.alloc zk0) (Nat.le_trans hB (Qaa _ _)) (h.alloc hB _) hn);have HLN:=hid h.1;have HN:=hid hn;clear h hn hB;go_enter Tryz.func76,Tryz.ntmps76;go_wp2_with fail;refine C1.out.mono ?_;rintro e w1 ⟨v,rfl,ho,hb⟩;have hb':=Qea hb;obtain⟨⟨z0,z1,z2,z3⟩,f0,f1,f2,f3⟩:=Qa4 hb';obtain⟨A2,c2,rfl,hc2,hm2,hr2⟩:=ho.rdn HLN.out;have HR2:=hid ho.news;have B1:=hid hb';clear ho hb hb' hr2;go_wp2_with fail;refine bodyPost_ret (v:=.agg #[.int .i64 2,.int .u64 0,.slice A2 n c2,.slice none 0 0]) (by simp[results,Tryz.results76,go_sem,z0,z1,z2,z3]) rfl ⟨_,rfl,?_,Qex (zb.trans (B1.out.mono (Nat.le_succ _))) zr⟩
 exact(RdI.mk_data (by decide) hc2 HN.out HR2.out).fin zr (by simp) (by simp)
theorem Qpe(h:RSt w g A n c bs i p d)(m:Nat)(hm:n - i<m)(_hm2:m<18446744073709551616) :
  Calls Tryz.prog 181 #[.pointer (some ⟨g,0,none⟩),.int .u64 (m:Int)] w fun e w'=>e=.returned (.tuple #[Qaw,flt 30])∧Only g w w':=by
 have C1:=hid (Qge (h.alloc zk0) m hm);clear h;go_enter Tryz.func181,Tryz.ntmps181;go_wp2_with fail;refine C1.out.mono ?_;rintro e w1 ⟨rfl,hb⟩;have hb':=Qea hb;obtain⟨⟨z0,z1,z2,z3⟩,f0,f1,f2,f3⟩:=Qa4 hb';have HB:=hid (((Below.refl w.heap.size w).alloc zr _).trans (hb'.mono (Nat.le_succ _)));clear hb hb';unfold flt;go_wp2_with fail;refine bodyPost_ret (v:=.tuple #[Qaw,flt 30]) (by simp[results,Tryz.results181,go_sem,z0,z1,z2,z3,Qaw,flt]) rfl ⟨rfl,Qat (Only.of_below HB.out) zr⟩
theorem Qyy(h:RSt w g A n c bs i p d)(m:Nat)(hm:m≤n - i) :
  Calls Tryz.prog 181 #[.pointer (some ⟨g,0,none⟩),.int .u64 (m:Int)] w (Qc0 g A n c bs d (.ok (.mk 2 0 ((bs.drop i).take m) [],p,(bs.drop i).drop m)) w):=by
 have C1:=hid (Qn0 (h.alloc zk0) m hm);have hn:=h.hn;have HG:=hid h.lt;clear h;go_enter Tryz.func181,Tryz.ntmps181;go_wp2_with fail;refine C1.out.mono ?_;rintro e w1 ⟨A',rfl,hr,hs,ho⟩;have HS:=hid hs;have C2:=hid (Qsn A' m m g _ w1 (Nat.le_of_lt hs.lt) hr (by omega));have HO:=hid ho;have hz1:w.heap.size+1≤w1.heap.size:=by have:=ho.size;simpa using this
 have HZ1:=hid hz1;clear hr hs ho hz1;go_wp2_with fail;refine C2.out.mono ?_;rintro e w2 ⟨v,rfl,hv,hb⟩;obtain⟨k1,n1,A1,nd1,cd1,AL1,nl1,cl1,rfl⟩:=hv.form;have HV:=hid hv;have HO2:=hid (HO.out.trans (Only.of_below hb));have HS2:=hid (HS.out.below hb HS.out.lt);obtain⟨⟨z0,z1,z2,z3⟩,f0,f1,f2,f3⟩:=Qa6 HO2.out HG.out;clear hv hb;go_wp2_with fail;refine bodyPost_ret (v:=.tuple #[.agg #[.int .i64 k1,.int .u64 (n1:Int),.slice A1 nd1 cd1,.slice AL1 nl1 cl1],.nilIface]) (by simp[results,Tryz.results181,go_sem,z0,z1,z2,z3]) rfl ?_;exact⟨_,i+m,rfl,HV.out.fin zr HZ1.out (Nat.le_of_succ_le HZ1.out),HS2.out.set4 HG.out,by rw[List.drop_drop],Qat (((Only.refl g w).alloc _).trans HO2.out) zr⟩
theorem Q2v{B m k:Nat}{l:LB}(c:Nat)(h:Rd w B A m l)(hk:k≤m)(hc:m≤c)(hc2:k≤140737488355328) :
  ∃ A' c',(∀ W:World,(Instr.slice 29 (.slice A m c) none (some (.int .u64 (k:Int))) none).run Tryz.prog W=.ok (.slice A' k c') W)∧k≤c'∧Rd w B A' k (l.take k):=by
 have hz:=Qdc;have ht:=Tryz.underlying29;by_cases hc0:c=0
 ·
  have hk0:k=0:=by omega
  subst hk0 hc0;refine⟨A,0,fun W=>?_,by omega,h.take hk⟩;go_simp
 ·
  refine⟨A,c,fun W=>?_,by omega,h.take hk⟩;go_simp
  intro h;omega
structure TextIn (w:World) (g:Nat) (A:OA) (n c:Nat) (bs:LB) (i m K:Nat) (A1 A2:OA) (c1 c2:Nat):Prop where
 r1:∀ W:World,(Instr.slice 29 (.slice A n c) (some (.int .i64 (i:Int))) none none).run Tryz.prog W=.ok (.slice A1 (n - i) c1) W
 r2:∀ W:World,(Instr.slice 29 (.slice A1 (n - i) c1) none (some (.int .u64 (K:Int))) none).run Tryz.prog W=.ok (.slice A2 K c2) W
 rd:Rd w g A2 K ((bs.drop i).take m)
 mn:min (m:Int) ((n - i:Nat):Int)=(K:Int)
 hk:K≤140737488355328
theorem TextIn.mk_(h:RSt w g A n c bs i p d)(m:Nat):∃ K A1 A2 c1 c2,TextIn w g A n c bs i m K A1 A2 c1 c2:=by
 have hi:=h.hi;have hn:=h.hn;have hc:=h.hc;obtain⟨A1,c1,r1,q1,q2,q3⟩:=Q01 (P:=Tryz.prog) 29 5 Tryz.underlying29 Qdc c h.rd (i:Int) i rfl hi hc;obtain⟨A2,c2,r2,q4,q5⟩:=Q2v (k:=min m (n - i)) c1 q3 (by omega) q1 (by omega);refine⟨min m (n - i),A1,A2,c1,c2,r1,r2,?_,by omega,by omega⟩;have hl:=q3.1;have e:(bs.drop i).take m=(bs.drop i).take (min m (n - i)):=by
  rcases Nat.le_total m (n - i) with h1|h1
  ·
   rw[Nat.min_eq_left h1]
  ·
   rw[Nat.min_eq_right h1,List.take_of_length_le (by omega),List.take_of_length_le (by omega)]
 rw[e]
 exact q5
theorem Qw0(h:RSt w g A n c bs i p d)(m:Nat)(hp:plain ((bs.drop i).take m)=false) :
  Calls Tryz.prog 182 #[.pointer (some ⟨g,0,none⟩),.int .u64 (m:Int)] w fun e w'=>e=.returned (.tuple #[Qaw,flt 31])∧Only g w w':=by
 obtain⟨K,A1,A2,c1,c2,ht⟩:=TextIn.mk_ (h.alloc zk0) m;have hs:=h.alloc zk0;have C1:=hid (Qf0 hs.drew);have HS:=hid hs;have hr1:=ht.r1;have hr2:=ht.r2;have hmn:=ht.mn;have HT:=hid ht;have g0:=hs.c0;have g1:=hs.c1;have hpl:=Qe1 A2 K c2 g ((bs.drop i).take m);rw[hp] at hpl
 have C2:=hid (fun W (hb:Below (w.alloc zk0).heap.size (w.alloc zk0) W)=>hpl W (ht.rd.below (hb.mono (Nat.le_of_lt hs.lt))) ht.hk);have HG:=hid h.lt;clear h ht hs hp hpl;generalize n - i=m2 at *;go_enter Tryz.func182,Tryz.ntmps182;go_wp2_with fail;go_region_held3 (fun W=>W.cell? ⟨g,0,none⟩=some (.slice A n c)∧W.cell? ⟨g,1,none⟩=some (.int .i64 (i:Int)))
  (first|(exact⟨g0,g1⟩)|(exact⟨q0,q1⟩)|fail)
  (first
   | (go_at_call 179;refine C1.out.mono ?_;rintro e w1 ⟨rfl,hb1⟩;have HB1:=hid ((Below.drew_).trans hb1);have q0:=(hb1.cell (p:=⟨g,0,none⟩) HS.out.lt).trans g0;have q1:=(hb1.cell (p:=⟨g,1,none⟩) HS.out.lt).trans g1;clear hb1)
   | (go_at_call 161;refine(C2.out _ HB1.out).mono ?_;rintro e w2 ⟨rfl,rfl⟩)
   | fail)
 obtain⟨⟨z0,z1,z2,z3⟩,f0,f1,f2,f3⟩:=Qa4 (Qea HB1.out);have HB:=hid (((Below.refl w.heap.size w).alloc zr _).trans ((Qea HB1.out).mono (Nat.le_succ _)));go_wp2_with fail;refine bodyPost_ret (v:=.tuple #[Qaw,flt 31]) (by simp[results,Tryz.results182,go_sem,z0,z1,z2,z3,Qaw,flt]) rfl ⟨rfl,Qat (Only.of_below HB.out) zr⟩
theorem Qq9(h:RSt w g A n c bs i p d)(m:Nat)(hp:plain ((bs.drop i).take m)=true)(hm:n - i<m) :
  Calls Tryz.prog 182 #[.pointer (some ⟨g,0,none⟩),.int .u64 (m:Int)] w fun e w'=>e=.returned (.tuple #[Qaw,flt 30])∧Only g w w':=by
 obtain⟨K,A1,A2,c1,c2,ht⟩:=TextIn.mk_ (h.alloc zk0) m;have hs:=h.alloc zk0;have C1:=hid (Qf0 hs.drew);have HS:=hid hs;have hr1:=ht.r1;have hr2:=ht.r2;have hmn:=ht.mn;have HT:=hid ht;have g0:=hs.c0;have g1:=hs.c1;have hpl:=Qe1 A2 K c2 g ((bs.drop i).take m);rw[hp] at hpl
 have C2:=hid (fun W (hb:Below (w.alloc zk0).heap.size (w.alloc zk0) W)=>hpl W (ht.rd.below (hb.mono (Nat.le_of_lt hs.lt))) ht.hk);have HG:=hid h.lt;clear h ht hs hp hpl;have C3:=hid (fun W (hb:Below (w.alloc zk0).heap.size (w.alloc zk0) W)=>Qge (HS.out.below hb HS.out.lt) m hm);generalize n - i=m2 at *;go_enter Tryz.func182,Tryz.ntmps182;go_wp2_with fail;go_region_held3 (fun W=>W.cell? ⟨g,0,none⟩=some (.slice A n c)∧W.cell? ⟨g,1,none⟩=some (.int .i64 (i:Int)))
  (first|(exact⟨g0,g1⟩)|(exact⟨q0,q1⟩)|fail)
  (first
   | (go_at_call 179;refine C1.out.mono ?_;rintro e w1 ⟨rfl,hb1⟩;have HB1:=hid ((Below.drew_).trans hb1);have q0:=(hb1.cell (p:=⟨g,0,none⟩) HS.out.lt).trans g0;have q1:=(hb1.cell (p:=⟨g,1,none⟩) HS.out.lt).trans g1;clear hb1)
   | (go_at_call 161;refine(C2.out _ HB1.out).mono ?_;rintro e w2 ⟨rfl,rfl⟩)
   | fail)
 clear q0 q1;go_wp2_with fail;refine(C3.out _ HB1.out).mono ?_;rintro e w2 ⟨rfl,hb2⟩;have HB2:=hid (HB1.out.trans (hb2.mono HB1.out.size));obtain⟨⟨z0,z1,z2,z3⟩,f0,f1,f2,f3⟩:=Qa4 (Qea HB2.out);have HB:=hid (((Below.refl w.heap.size w).alloc zr _).trans ((Qea HB2.out).mono (Nat.le_succ _)));clear hb2;unfold flt;go_wp2_with fail;refine bodyPost_ret (v:=.tuple #[Qaw,flt 30]) (by simp[results,Tryz.results182,go_sem,z0,z1,z2,z3,Qaw,flt]) rfl ⟨rfl,Qat (Only.of_below HB.out) zr⟩
theorem Qz0(h:RSt w g A n c bs i p d)(m:Nat)(hp:plain ((bs.drop i).take m)=true)(hm:m≤n - i) :
  Calls Tryz.prog 182 #[.pointer (some ⟨g,0,none⟩),.int .u64 (m:Int)] w (Qc0 g A n c bs d (.ok (.mk 3 0 ((bs.drop i).take m) [],p,(bs.drop i).drop m)) w):=by
 obtain⟨K,A1,A2,c1,c2,ht⟩:=TextIn.mk_ (h.alloc zk0) m;have hs:=h.alloc zk0;have C1:=hid (Qf0 hs.drew);have HS:=hid hs;have hr1:=ht.r1;have hr2:=ht.r2;have hmn:=ht.mn;have HT:=hid ht;have g0:=hs.c0;have g1:=hs.c1;have hpl:=Qe1 A2 K c2 g ((bs.drop i).take m);rw[hp] at hpl
 have C2:=hid (fun W (hb:Below (w.alloc zk0).heap.size (w.alloc zk0) W)=>hpl W (ht.rd.below (hb.mono (Nat.le_of_lt hs.lt))) ht.hk);have HG:=hid h.lt;clear h ht hs hp hpl;have C3:=hid (fun W (hb:Below (w.alloc zk0).heap.size (w.alloc zk0) W)=>Qn0 (HS.out.below hb HS.out.lt) m hm);have HMB:Hid (m≤140737488355328):=Nat.le_trans hm (Nat.le_trans (Nat.sub_le _ _) HS.out.hn);generalize n - i=m2 at *;go_enter Tryz.func182,Tryz.ntmps182;go_wp2_with fail;go_region_held3 (fun W=>W.cell? ⟨g,0,none⟩=some (.slice A n c)∧W.cell? ⟨g,1,none⟩=some (.int .i64 (i:Int)))
  (first|(exact⟨g0,g1⟩)|(exact⟨q0,q1⟩)|fail)
  (first
   | (go_at_call 179;refine C1.out.mono ?_;rintro e w1 ⟨rfl,hb1⟩;have HB1:=hid ((Below.drew_).trans hb1);have q0:=(hb1.cell (p:=⟨g,0,none⟩) HS.out.lt).trans g0;have q1:=(hb1.cell (p:=⟨g,1,none⟩) HS.out.lt).trans g1;clear hb1)
   | (go_at_call 161;refine(C2.out _ HB1.out).mono ?_;rintro e w2 ⟨rfl,rfl⟩)
   | fail)
 clear q0 q1;go_wp2_with fail;refine(C3.out _ HB1.out).mono ?_;rintro e w2 ⟨A',rfl,hr,hs,ho⟩;have HS2:=hid hs;have HRL:=hid hr.1;have C4:=hid (Qda A' m m g _ w2 (Nat.le_of_lt hs.lt) hr HMB.out);have HO:=hid ((Only.of_below (show Below (w.alloc zk0).heap.size (w.alloc zk0) w1 from HB1.out)).trans ho);have hz1:w.heap.size+1≤w2.heap.size:=by have:=HO.out.size;simpa using this
 have HZ1:=hid hz1;clear hr hs ho hz1;go_wp2_with fail;refine C4.out.mono ?_;rintro e w3 ⟨v,rfl,ho3,hb3⟩;obtain⟨A3,c3,rfl,hc3,hm3,-⟩:=ho3.rdn HRL.out;have HV:=hid (RdI.mk_data (k:=3) (by decide) hc3 HMB.out ho3.news);have HO3:=hid (HO.out.trans (Only.of_below hb3));have HS3:=hid (HS2.out.below hb3 HS2.out.lt);obtain⟨⟨z0,z1,z2,z3⟩,f0,f1,f2,f3⟩:=Qa6 HO3.out HG.out;clear ho3 hb3;go_wp2_with fail;refine bodyPost_ret (v:=.tuple #[.agg #[.int .i64 3,.int .u64 0,.slice A3 m c3,.slice none 0 0],.nilIface]) (by simp[results,Tryz.results182,go_sem,z0,z1,z2,z3]) rfl ?_;exact⟨_,i+m,rfl,HV.out.fin zr HZ1.out (Nat.le_of_succ_le HZ1.out),HS3.out.set4 HG.out,by rw[List.drop_drop],Qat (((Only.refl g w).alloc _).trans HO3.out) zr⟩
end
def Q3d(g:Nat)(A:OA)(n c:Nat)(bs:LB)(p d:Nat)(r:Except Int (Nat×Nat×List UInt8))(w:World)(e:Ending)(w':World):Prop :=
 match r with
 | .error z=>e=.returned (.tuple #[.int .u64 0,flt z])∧Only g w w'
 | .ok (_,m,l')=>∃ i',e=.returned (.tuple #[.int .u64 (m:Int),.nilIface])∧RSt w' g A n c bs i' p d∧bs.drop i'=l'∧Only g w w'
section
variable {w:World}{g n c i p d:Nat}{A:OA}{bs:LB}
theorem Qyl(h:RSt w g A n c bs i p d)(hl:i<n)(x:UInt8)(hx:bs.drop i=x::bs.drop (i+1))(h24:x.toNat % 32<24) :
  Calls Tryz.prog 165 #[.pointer (some ⟨g,0,none⟩)] w fun e w'=>e=.returned (.tuple #[.int .u64 ((x.toNat % 32:Nat):Int),.nilIface])∧RSt w' g A n c bs (i+1) p d∧Only g w w':=by
 obtain⟨b,o,y,rfl,hc,hy,hb⟩:=h.byte hl;rw[hx] at hy
 obtain⟨rfl,-⟩:=List.cons.inj hy;have hx256:=x.toNat_lt;have hand:=Qwm x.toNat hx256;generalize x.toNat=X at *;have HR:=hid h;have hn:=h.hn;have g0:=h.c0;have g1:=h.c1;have f1:=h.f1;have hi0:(0:Int)≤(i:Int):=by omega
 have hin:(i:Int)<(n:Int):=by omega
 clear h hx hy;go_enter Tryz.func165,Tryz.ntmps165;go_wp2_with fail;go_quiet (fail)
 have g1':(w.drewN nq).cell? ⟨g,1,none⟩=some (.int .i64 (i:Int)):=g1;have f1':(w.drewN nq).frozen? ⟨g,1,none⟩=false:=f1;go_wp2_with fail;go_ret2
 have hs:RSt (w.drewN nq) g _ n c bs i p d:=HR.out.below (Qai _ _ _) HR.out.lt;exact⟨rfl,hs.set1 (i+1) (by omega) (by omega),(Only.of_below (Qai _ _ _)).setCell (by rfl) _⟩
theorem Qpk(L:Nat)(h24:24≤L)(h27:L≤27):IntKind.u64.wrap (2 ^ (L - 24))=((2 ^ (L - 24):Nat):Int):=by
 obtain⟨q,rfl⟩:∃ q,L=24+q:=⟨L - 24,by omega⟩
 rw[Nat.add_sub_cancel_left]
 rcases (show q=0∨q=1∨q=2∨q=3 by omega) with rfl|rfl|rfl|rfl <;> decide
theorem Q16(L:Nat)(h24:24≤L)(h27:L≤27):1≤2 ^ (L - 24)∧2 ^ (L - 24)≤8:=by
 obtain⟨q,rfl⟩:∃ q,L=24+q:=⟨L - 24,by omega⟩
 rw[Nat.add_sub_cancel_left]
 rcases (show q=0∨q=1∨q=2∨q=3 by omega) with rfl|rfl|rfl|rfl <;> decide
theorem Qsf(h:RSt w g A n c bs i p d)(hl:i<n)(x:UInt8)(hx:bs.drop i=x::bs.drop (i+1))(L:Nat)(hL:x.toNat % 32=L)(h24:24≤L)(h27:L≤27)(hk:n - (i+1)<2 ^ (L - 24)) :
  Calls Tryz.prog 165 #[.pointer (some ⟨g,0,none⟩)] w fun e w'=>e=.returned (.tuple #[.int .u64 0,flt 30])∧Only g w w':=by
 obtain⟨b,o,y,rfl,hc,hy,hb⟩:=h.byte hl;rw[hx] at hy
 obtain⟨rfl,-⟩:=List.cons.inj hy;have hx256:=x.toNat_lt;have hand:=Qwm x.toNat hx256;rw[hL] at hand
 generalize x.toNat=X at *;have HR:=hid h;have hn:=h.hn;have g0:=h.c0;have g1:=h.c1;have f1:=h.f1;have hi0:(0:Int)≤(i:Int):=by omega
 have hin:(i:Int)<(n:Int):=by omega
 clear h hx hy;go_enter Tryz.func165,Tryz.ntmps165;go_wp2_with fail;go_quiet (fail)
 have g1':(w.drewN nq).cell? ⟨g,1,none⟩=some (.int .i64 (i:Int)):=g1;have f1':(w.drewN nq).frozen? ⟨g,1,none⟩=false:=f1;have hs:RSt (w.drewN nq) g _ n c bs i p d:=HR.out.below (Qai _ _ _) HR.out.lt;have hs1:=hs.set1 (z:=(i:Int)+1) (i+1) (by omega) (by omega);have HO1:=hid ((Only.of_below (g:=g) (Qai w.heap.size w nq)).setCell (p:=⟨g,1,none⟩) rfl (.int .i64 ((i:Int)+1)));have c1:=Qge hs1 (2 ^ (L - 24)) hk;rw[← Qpk L h24 h27] at c1
 have C1:=hid c1;clear hs hs1 c1;go_wp2_with fail;refine C1.out.mono ?_;rintro e w1 ⟨rfl,hb1⟩;have HB:=hid (HO1.out.trans (Only.of_below hb1));clear hb1;unfold flt;go_wp2_with fail;go_ret2
 exact⟨rfl,HB.out⟩
theorem Qvk(h:RSt w g A n c bs i p d)(hl:i<n)(x:UInt8)(hx:bs.drop i=x::bs.drop (i+1))(L:Nat)(hL:x.toNat % 32=L)(h24:24≤L)(h27:L≤27)(hk:2 ^ (L - 24)≤n - (i+1))(N:Nat)(hN:N=Qc3 ((bs.drop (i+1)).take (2 ^ (L - 24)))) :
  Calls Tryz.prog 165 #[.pointer (some ⟨g,0,none⟩)] w fun e w'=>(hsz N=2 ^ (L - 24)→e=.returned (.tuple #[.int .u64 (N:Int),.nilIface])∧RSt w' g A n c bs (i+1+2 ^ (L - 24)) p d∧Only g w w')∧(¬ hsz N=2 ^ (L - 24)→e=.returned (.tuple #[.int .u64 0,flt 31])∧Only g w w'):=by
 obtain⟨b,o,y,rfl,hc,hy,hb⟩:=h.byte hl;rw[hx] at hy
 obtain⟨rfl,-⟩:=List.cons.inj hy;have hx256:=x.toNat_lt;have hand:=Qwm x.toNat hx256;rw[hL] at hand
 generalize x.toNat=X at *;have HR:=hid h;have hn:=h.hn;have g0:=h.c0;have g1:=h.c1;have f1:=h.f1;have hi0:(0:Int)≤(i:Int):=by omega
 have hin:(i:Int)<(n:Int):=by omega
 clear h hx hy;go_enter Tryz.func165,Tryz.ntmps165;go_wp2_with fail;go_quiet (fail)
 have g1':(w.drewN nq).cell? ⟨g,1,none⟩=some (.int .i64 (i:Int)):=g1;have f1':(w.drewN nq).frozen? ⟨g,1,none⟩=false:=f1;have hs:RSt (w.drewN nq) g _ n c bs i p d:=HR.out.below (Qai _ _ _) HR.out.lt;have hs1:=hs.set1 (z:=(i:Int)+1) (i+1) (by omega) (by omega);have HO1:=hid ((Only.of_below (g:=g) (Qai w.heap.size w nq)).setCell (p:=⟨g,1,none⟩) rfl (.int .i64 ((i:Int)+1)));have c1:=Qn0 hs1 (2 ^ (L - 24)) hk;rw[← Qpk L h24 h27] at c1
 have C1:=hid c1;obtain⟨k1,k8⟩:=Q16 L h24 h27;have hNb:N<18446744073709551616:=by rw[hN];exact Qq2 _
 have hs32:(X:Int) / 2 ^ 5=((X / 32:Nat):Int):=by omega
 have C3:=hid (fun W=>Qen ((X:Int) / 32) N W (by simp[Lit.wf,IntKind.min,IntKind.max,IntKind.signed,IntKind.bits];omega) hNb);obtain⟨M,hM⟩:∃ M,M=hsz N+1:=⟨_,rfl⟩
 have HH:Hid ((Qdh ((X:Int) / 32) N).length=M):=by
  show _=_;rw[Qdh,if_neg (by omega),Qbo,hM]
 have HM:=hid hM;clear hM;have HZ:=hid (Qa1 N);clear hs hs1 c1;generalize hSZ:hsz N=Z at *;generalize Qdh ((X:Int) / 32) N=HB1 at *;generalize hKK:2 ^ (L - 24)=K at *;have HKK:=hid hKK;have HSZ:=hid hSZ;clear hSZ hKK;go_wp2_with fail;refine C1.out.mono ?_;rintro e w1 ⟨A',rfl,hr,hs,ho⟩;have HS:=hid hs;have c2:=Qvm A' K K _ w1 g hr (by omega) zr (by omega);rw[show K - 8=0 by omega,List.drop_zero,← hN] at c2
 have C2:=hid c2;have HO2:=hid (HO1.out.trans ho);clear hr hs ho c2 hN;go_wp2_with fail;refine C2.out.mono ?_;rintro e w2 ⟨rfl,rfl⟩;go_wp2_with fail;refine(C3.out _).mono ?_;rintro e w3 ⟨v,rfl,ho3,hb3⟩;obtain⟨A3,c3,rfl,hc3,hm3,-⟩:=ho3.rdn HH.out;have HO3:=hid (HO2.out.trans (Only.of_below hb3));have HS3:=hid (HS.out.below hb3 HS.out.lt);clear ho3 hb3;by_cases hz:Z=K
 ·
  have hd:((M:Int) != 1+(K:Int))=false:=by have:=HM.out;simp;omega
  have HZE:=hid hz;clear hz;go_wp2_with fail;go_ret2
  exact⟨fun _=>⟨rfl,by have:=HS3.out;rwa[← HKK.out] at this,HO3.out⟩,fun hq=>absurd (by rw[HSZ.out,HKK.out];exact HZE.out) hq⟩
 ·
  have HZE:=hid hz;have hd:((M:Int) != 1+(K:Int))=true:=by have:=HM.out;simp;omega
  clear hz;go_wp2_with fail;go_ret2
  exact⟨fun hq=>absurd (by rw[HSZ.out,HKK.out] at hq;exact hq) HZE.out,fun _=>⟨rfl,HO3.out⟩⟩
theorem Qhk(h:RSt w g A n c bs i p d)(hl:i<n)(x:UInt8)(hx:bs.drop i=x::bs.drop (i+1))(h27:x.toNat % 32≤27)(hm:x.toNat / 32=0∨x.toNat / 32=2∨x.toNat / 32=3∨x.toNat / 32=4) :
  Calls Tryz.prog 165 #[.pointer (some ⟨g,0,none⟩)] w (Q3d g A n c bs p d (Qca (bs.drop i)) w):=by
 have hlen:(bs.drop (i+1)).length=n - (i+1):=by rw[List.length_drop,h.rd.1]
 rw[hx,Qca,if_neg (by omega)]
 by_cases h24:x.toNat % 32<24
 ·
  rw[if_pos h24]
  exact(Qyl h hl x hx h24).mono fun e w' ⟨h1,h2,h3⟩=>⟨i+1,h1,h2,rfl,h3⟩
 ·
  rw[if_neg h24]
  by_cases hk:n - (i+1)<2 ^ (x.toNat % 32 - 24)
  ·
   rw[if_pos (by rw[hlen];exact hk)]
   exact(Qsf h hl x hx _ rfl (by omega) h27 hk).mono fun e w' h=>h
  ·
   rw[if_neg (by rw[hlen];exact hk)]
   have hL:=Qvk h hl x hx _ rfl (by omega) h27 (by omega) _ rfl;by_cases hz:hsz (Qc3 ((bs.drop (i+1)).take (2 ^ (x.toNat % 32 - 24))))=2 ^ (x.toNat % 32 - 24)
   ·
    rw[if_neg (by simpa using hz)]
    exact hL.mono fun e w' ⟨h1,_⟩=>⟨_,(h1 hz).1,(h1 hz).2.1,by rw[← List.drop_drop],(h1 hz).2.2⟩
   ·
    rw[if_pos hz]
    exact hL.mono fun e w' ⟨_,h2⟩=>h2 hz
end
end Go.Proofs.YtbnfkjkoinbkgaaGreatDoor
