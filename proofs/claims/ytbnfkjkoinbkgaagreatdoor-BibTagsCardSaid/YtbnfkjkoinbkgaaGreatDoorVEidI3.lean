import Derived.Test.YtbnfkjkoinbkgaaGreatDoorVAbb
import Derived.Test.YtbnfkjkoinbkgaaGreatDoorVArrS
import Derived.Test.YtbnfkjkoinbkgaaGreatDoorVEidT2
import Derived.Deep.RegionHeld3
namespace Go.Proofs.YtbnfkjkoinbkgaaGreatDoor
set_option maxRecDepth 100000
set_option maxHeartbeats 16000000
open Go.RowKit
open Go.Lib (hid)
def Qss(e:Epd):Itm:=if e.scheme=2 then .mk 4 0 [] [.mk 0 e.node [] [],.mk 0 e.service [] []] else if e.name=[] then .mk 0 0 [] [] else .mk 3 0 e.name []
theorem Qms(e:Epd):Qal e=.mk 4 0 [] [.mk 0 e.scheme.toNat [] [],Qss e]:=rfl
theorem Qdr{W:World}{g:Nat}{p:Addr}{u v0 v1 v2 v3:Value}(h:W.cell? p=some u)(hg:¬ g=p.block):((((W.setCell ⟨g,0,none⟩ v0).setCell ⟨g,1,none⟩ v1).setCell ⟨g,2,none⟩ v2).setCell ⟨g,3,none⟩ v3).cell? p=some u:=by
 rw[World.cell?_setCell_far _ _ _ _ hg,World.cell?_setCell_far _ _ _ _ hg,World.cell?_setCell_far _ _ _ _ hg,World.cell?_setCell_far _ _ _ _ hg]
 exact h
theorem RdIs.two_{lo:Nat}{W:World}{a0 a1 a2 a3 b0 b1 b2 b3:Value}{x y:Itm}{t:TypeId}(hlo:lo≤W.heap.size)(h1:RdI (Qap (Qax lo) W) W.heap.size (.agg #[a0,a1,a2,a3]) x)(h2:RdI (Qap (Qax lo) W) W.heap.size (.agg #[b0,b1,b2,b3]) y) :
  RdIs (Qap (Qax lo) (W.alloc (.cells #[a0,a1,a2,a3,b0,b1,b2,b3] t))) (W.heap.size+1) W.heap.size 0 [x,y]:=by
 have hb:=(Below.refl W.heap.size W).alloc zr (.cells #[a0,a1,a2,a3,b0,b1,b2,b3] t);have hs:(W.alloc (.cells #[a0,a1,a2,a3,b0,b1,b2,b3] t)).heap.size=W.heap.size+1:=by simp
 have k1:=h1.grow hb (Nat.le_refl lo);have k2:=h2.grow hb (Nat.le_refl lo);rw[hs] at k1 k2
 have hc:∀ j u,(#[a0,a1,a2,a3,b0,b1,b2,b3]:Array Value)[j]?=some u→(Qap (Qax lo) (W.alloc (.cells #[a0,a1,a2,a3,b0,b1,b2,b3] t))).cell? ⟨W.heap.size,j,none⟩=some u:=fun j u hj=>by
  rw[Qaq (Qaz.2 hlo),World.cell?_alloc_at _ _ _ _ rfl]
  exact hj
 rw[RdIs,RdIs,RdIs]
 exact⟨⟨a0,a1,a2,a3,hc 0 _ rfl,hc 1 _ rfl,hc 2 _ rfl,hc 3 _ rfl,k1⟩,⟨b0,b1,b2,b3,hc 4 _ rfl,hc 5 _ rfl,hc 6 _ rfl,hc 7 _ rfl,k2⟩,trivial⟩
theorem Qdt{lo:Nat}{W:World}{a0 a1 a2 a3 b0 b1 b2 b3:Value}{x y:Itm}(hlo:lo≤W.heap.size)(h1:RdI (Qap (Qax lo) W) W.heap.size (.agg #[a0,a1,a2,a3]) x)(h2:RdI (Qap (Qax lo) W) W.heap.size (.agg #[b0,b1,b2,b3]) y)(hp:Qa5 [x,y]≤1000000) :
  Calls Tryz.prog 117 #[.slice (some ⟨W.heap.size,0,none⟩) 2 2] (W.alloc (.cells #[a0,a1,a2,a3,b0,b1,b2,b3] 119)) (Qbj lo (.mk 4 0 [] [x,y]) (W.alloc (.cells #[a0,a1,a2,a3,b0,b1,b2,b3] 119))) :=
 Qi5 (Qax lo) W.heap.size 0 2 2 (W.heap.size+1) [x,y] (W.alloc (.cells #[a0,a1,a2,a3,b0,b1,b2,b3] 119)) (fun k hk=>by have h1:=decide_eq_true_iff.1 hk;simp;omega) (Nat.le_of_eq (by simp)) (Nat.lt_succ_self _) (RdIs.two_ hlo h1 h2) rfl (by decide) hp zr
theorem Qo6(sc:Int)(s:ByteArray)(n v:Nat)(w:World)(hc:Qag (ep sc s n v)=true)(hs:s.size≤140737488355328)(hn:n<18446744073709551616)(hv:v<18446744073709551616) :
  Calls Tryz.prog 159 #[Qbq sc s n v] w (Qbj w.heap.size (Qss (ep sc s n v)) w):=by
 have C2:=hid (fun W=>Qhf sc s n v W);by_cases h1:sc=1
 ·
  subst h1;obtain⟨hn0,hv0,-⟩:=Qbz hc rfl;have CU:=hid (fun (lo:Nat) (W:World)=>Qe0 lo 0 W (by decide));have CT:=hid (fun (lo:Nat) (W:World) h=>Qsk lo s W h hs);by_cases he:s.data.toList=[]
  ·
   have hno:Qby (ep 1 s n v)=true:=by
    unfold Qby;rw[hn0,hv0,show(ep 1 s n v).name=[] from he]
    rfl
   have hbi:Qss (ep 1 s n v)=.mk 0 0 [] []:=by
    unfold Qss;rw[if_neg (show ¬ (ep 1 s n v).scheme=2 by show ¬ (1:Int)=2;decide),if_pos (show(ep 1 s n v).name=[] from he)]
   rw[hno] at C2
   rw[hbi]
   clear hc hno hbi hn0 hv0 he;unfold Qbq at *;go_enter Tryz.func159,Tryz.ntmps159;go_wp2_with fail;refine(C2.out _).mono ?_;rintro e w1 ⟨rfl,hb⟩;have HB:=hid hb;clear hb;go_wp2_with fail;refine(CU.out (w.heap.size+2) _).mono ?_;rintro e w2 ⟨v2,rfl,hv2,hb⟩;obtain⟨k2,n2,A2,nd2,cd2,AL2,nl2,cl2,rfl⟩:=hv2.form;have hb2:=(HB.out.trans (hb.mono HB.out.size)).mono (show w.heap.size+2≤_ by simp);obtain⟨⟨z0,z1,z2,z3⟩,f0,f1,f2,f3⟩:=Qgc (g:=w.heap.size+1) (by simp) hb2;have HB2:=hid hb2;have HV2:=hid hv2;clear hb hb2 hv2;go_wp2_with fail;refine bodyPost_ret (v:=.agg #[.int .i64 k2,.int .u64 (n2:Int),.slice A2 nd2 cd2,.slice AL2 nl2 cl2]) (by simp[results,Tryz.results159,go_sem,z0,z1,z2,z3]) rfl ⟨_,rfl,?_,?_⟩
   ·
    exact HV2.out.put4 (Nat.le_add_right _ 2) (Nat.lt_succ_self _) (Nat.le_of_eq size_put4.symm)
   ·
    exact Qas ((zb.alloc (Qaa _ _) _).trans (HB2.out.mono (Nat.le_add_right _ 2))) (Nat.le_succ _)
  ·
   have hno:Qby (ep 1 s n v)=false:=by
    unfold Qby;have:(ep 1 s n v).name.isEmpty=false:=by rw[Qo4];cases hh:s.data.toList with|nil=>exact absurd hh he|cons a l=>rfl
    rw[this,Bool.false_and,Bool.and_false]
   have hbi:Qss (ep 1 s n v)=.mk 3 0 s.data.toList []:=by
    unfold Qss;rw[if_neg (show ¬ (ep 1 s n v).scheme=2 by show ¬ (1:Int)=2;decide),if_neg (show ¬ (ep 1 s n v).name=[] from he)]
    rfl
   rw[hno] at C2
   rw[hbi]
   clear hc hno hbi hn0 hv0 he;unfold Qbq at *;go_enter Tryz.func159,Tryz.ntmps159;go_wp2_with fail;refine(C2.out _).mono ?_;rintro e w1 ⟨rfl,hb⟩;have g1:=Qbh ((((Below.refl (w.alloc (zo3 1 s n v)).heap.size _).alloc zr _)).trans (hb.mono (Qaa _ _)));have HB:=hid hb;clear hb;obtain⟨g10,g11,g12,g13⟩:=g1;go_wp2_with fail;refine(CT.out (w.heap.size+2) _ (by have h:=HB.out.size;simpa using h)).mono ?_;rintro e w2 ⟨v2,rfl,hv2,hb⟩;obtain⟨k2,n2,A2,nd2,cd2,AL2,nl2,cl2,rfl⟩:=hv2.form;have hb2:=(HB.out.trans (hb.mono HB.out.size)).mono (show w.heap.size+2≤_ by simp);obtain⟨⟨z0,z1,z2,z3⟩,f0,f1,f2,f3⟩:=Qgc (g:=w.heap.size+1) (by simp) hb2
   have HB2:=hid hb2;have HV2:=hid hv2;clear hb hb2 hv2;go_wp2_with fail;refine bodyPost_ret (v:=.agg #[.int .i64 k2,.int .u64 (n2:Int),.slice A2 nd2 cd2,.slice AL2 nl2 cl2]) (by simp[results,Tryz.results159,go_sem,z0,z1,z2,z3]) rfl ⟨_,rfl,?_,?_⟩
   ·
    exact HV2.out.put4 (Nat.le_add_right _ 2) (Nat.lt_succ_self _) (Nat.le_of_eq size_put4.symm)
   ·
    exact Qas ((zb.alloc (Qaa _ _) _).trans (HB2.out.mono (Nat.le_add_right _ 2))) (Nat.le_succ _)
 ·
  obtain⟨h2,hnm,-,-,-⟩:=Qbe hc h1;have h2':sc=2:=h2;subst h2';have hno:Qby (ep 2 s n v)=false:=rfl;have hbi:Qss (ep 2 s n v)=.mk 4 0 [] [.mk 0 n [] [],.mk 0 v [] []]:=rfl;rw[hno] at C2
  rw[hbi]
  have CU1:=hid (fun (W:World)=>Qe0 (w.heap.size+2) n W hn);have CU2:=hid (fun (W:World)=>Qe0 (w.heap.size+2) v W hv);have hpar:Qa5 [.mk 0 n [] [],.mk 0 v [] []]≤1000000:=by simp[Qa5,par]
  have HPAR:=hid hpar;clear hc hno hbi hnm h1 h2 hpar;unfold Qbq at *;go_enter Tryz.func159,Tryz.ntmps159;go_wp2_with fail;refine(C2.out _).mono ?_;rintro e w1 ⟨rfl,hb⟩;have g1:=Qbh ((((Below.refl (w.alloc (zo3 2 s n v)).heap.size _).alloc zr _)).trans (hb.mono (Qaa _ _)));have HB:=hid (hb.mono (show w.heap.size+2≤_ by simp));have HZ1:Hid (w.heap.size+2≤w1.heap.size):=by show _≤_;have h:=hb.size;simpa using h
  clear hb;obtain⟨g10,g11,g12,g13⟩:=g1;go_wp2_with fail;have HNE:Hid (¬ w.heap.size+1=w.heap.size):=Nat.succ_ne_self _;have hlt0:w.heap.size<w1.heap.size:=Nat.lt_of_lt_of_le (by omega) HZ1.out;go_region_held3 (fun W=>W.cell? ⟨w.heap.size,2,none⟩=some (.int .u64 (n:Int))∧W.cell? ⟨w.heap.size,3,none⟩=some (.int .u64 (v:Int)))
   (first|(with_reducible exact⟨x2,x3⟩)|(with_reducible exact⟨Qdr x2 HNE.out,Qdr x3 HNE.out⟩)|(with_reducible exact⟨u2,u3⟩)|(with_reducible exact⟨(World.cell?_alloc_lt w3 _ ⟨w.heap.size,2,none⟩ H3.out).trans u2,(World.cell?_alloc_lt w3 _ ⟨w.heap.size,3,none⟩ H3.out).trans u3⟩)|(with_reducible exact⟨t2,t3⟩)|(exact⟨g12,g13⟩)|fail)
   (first
    | (go_at_call 111;have _g:=V2;clear _g;refine(CU2.out _).mono ?_;rintro e w3 ⟨v3,rfl,hv3,hb3⟩;have V3:=hid (V2.out.grow hb3 zr);have hb3':=B2.out.trans (hb3.mono B2.out.size);have u2:=(hb3'.cell (p:=⟨w.heap.size,2,none⟩) hlt0).trans g12;have u3:=(hb3'.cell (p:=⟨w.heap.size,3,none⟩) hlt0).trans g13;obtain⟨k3,n3,A3,nd3,cd3,AL3,nl3,cl3,rfl⟩:=hv3.form;have W3:=hid hv3;have B3:=hid hb3';have H3:Hid (w.heap.size<w3.heap.size):=Nat.lt_of_lt_of_le hlt0 hb3'.size;clear hv3 hb3 hb3')
    | (go_at_call 111;refine(CU1.out _).mono ?_;rintro e w2 ⟨v2,rfl,hv2,hb2⟩;have hb2':Below w1.heap.size w1 w2:=Below.drew_.trans hb2;have t2:=(hb2'.cell (p:=⟨w.heap.size,2,none⟩) hlt0).trans g12;have t3:=(hb2'.cell (p:=⟨w.heap.size,3,none⟩) hlt0).trans g13;obtain⟨k2,n2,A2,nd2,cd2,AL2,nl2,cl2,rfl⟩:=hv2.form;have V2:=hid hv2;have B2:=hid hb2';clear hv2 hb2 hb2')
    | (go_at_call 117;refine(Qdt (Nat.le_trans HZ1.out B3.out.size) V3.out W3.out HPAR.out).mono ?_;rintro e w4 ⟨v4,rfl,hv4,hb4⟩;have hb4':=(B3.out.alloc B3.out.size _).trans (hb4.mono (Nat.le_trans B3.out.size (Qaa _ _)));have x2:=(hb4'.cell (p:=⟨w.heap.size,2,none⟩) hlt0).trans g12;have x3:=(hb4'.cell (p:=⟨w.heap.size,3,none⟩) hlt0).trans g13;obtain⟨k4,n4,A4,nd4,cd4,AL4,nl4,cl4,rfl⟩:=hv4.form;have V4:=hid hv4;have hb5:=HB.out.trans (hb4'.mono HZ1.out);obtain⟨⟨z0,z1,z2,z3⟩,f0,f1,f2,f3⟩:=Qgc (g:=w.heap.size+1) (by simp) hb5;have B4:=hid hb5;clear hv4 hb4 hb4' hb5)
    | fail)
  go_wp2_with fail;refine bodyPost_ret (v:=.agg #[.int .i64 k4,.int .u64 (n4:Int),.slice A4 nd4 cd4,.slice AL4 nl4 cl4]) (by simp[results,Tryz.results159,go_sem,z0,z1,z2,z3]) rfl ⟨_,rfl,?_,?_⟩
  ·
   exact V4.out.put4 (Nat.le_add_right _ 2) (Nat.lt_succ_self _) (Nat.le_of_eq size_put4.symm)
  ·
   exact Qas ((zb.alloc (Qaa _ _) _).trans (B4.out.mono (Nat.le_add_right _ 2))) (Nat.le_succ _)
def Qb0:Value:=.agg #[.int .i64 0,.int .u64 0,.slice none 0 0,.slice none 0 0]
def Qsz(s:ByteArray)(v:Value):Value:=.iface 230 (.agg #[.string s,v])
def Q4r(A:Snt)(E:Epd)(w:World)(e:Ending)(w':World):Prop:=Below w.heap.size w w' ∧
 ((Qag E=true∧∃ v,e=.returned (.tuple #[v,.nilIface])∧RdI (Qap (Qax w.heap.size) w') w'.heap.size v (Qal E)) ∨
  (Qag E=false∧∃ a s,Qlk A a∧e=.returned (.tuple #[Qb0,Qsz s (snt a)])))
theorem Qz8(e:Epd):Qa5 [.mk 0 e.scheme.toNat [] [],Qss e]≤1000000:=by
 unfold Qss;split
 ·
  simp[Qa5,par]
 ·
  split <;> simp[Qa5,par]
theorem Qfc(A:Snt)(sc:Int)(s:ByteArray)(n v:Nat)(w:World)(hA:Lds A w)(hs:s.size≤140737488355328)(hn:n<18446744073709551616)(hv:v<18446744073709551616) :
  Calls Tryz.prog 140 #[Qbq sc s n v] w (Q4r A (ep sc s n v) w):=by
 have hA2:=(hA.alloc (zo3 sc s n v)).alloc zk0;have C1:=hid (Qkd A sc s n v _ hA2 hs);have q1:=fun (W:World) (u:TypeId) (x:Value)=>run_neq_iface_nil (P:=Tryz.prog) (w:=W) 53 (by kernel_rfl) u x
 clear hA hA2;cases hc:Qag (ep sc s n v) with
 | false =>
  rw[hc] at C1
  have HW:Hid (∀ e w',Below w.heap.size w w'→(∃ a s,Qlk A a∧e=.returned (.tuple #[Qb0,Qsz s (snt a)]))→Q4r A (ep sc s n v) w e w'):=fun e w' h1 h2=>⟨h1,.inr ⟨hc,h2⟩⟩
  clear hc;unfold Qbq at *;go_enter Tryz.func140,Tryz.ntmps140;go_wp2_with fail;refine C1.out.mono ?_;rintro e w1 ⟨hb,⟨h,-⟩|⟨-,a,ha,rfl⟩⟩
  ·
   cases h
  have hb2:=hb.mono (show w.heap.size+2≤_ by simp);obtain⟨⟨z0,z1,z2,z3⟩,f0,f1,f2,f3⟩:=Qgc (g:=w.heap.size+1) (by simp) hb2;have HB2:=hid hb2;have HO:=hid ha;clear hb hb2 ha;unfold snt;go_wp2_with fail;refine bodyPost_ret (v:=.tuple #[Qb0,Qsz ⟨#[101,110,100,112,111,105,110,116]⟩ (snt a)]) (by simp[results,Tryz.results140,go_sem,z0,z1,z2,z3,Qb0,Qsz,snt]) rfl (HW.out _ _ ?_ ⟨a,_,HO.out,rfl⟩);exact Qas ((zb.alloc (Qaa _ _) _).trans (HB2.out.mono (Nat.le_add_right _ 2))) (Nat.le_succ _)
 | true =>
  rw[hc] at C1
  have hpar:=Qz8 (ep sc s n v);have hit:=Qms (ep sc s n v);rw[show(ep sc s n v).scheme=sc from rfl] at hpar hit
  have CB:=hid (fun (W:World)=>Qo6 sc s n v W hc hs hn hv);have HW:Hid (∀ e w',Below w.heap.size w w'→(∃ v0,e=.returned (.tuple #[v0,.nilIface])∧RdI (Qap (Qax w.heap.size) w') w'.heap.size v0 (.mk 4 0 [] [.mk 0 sc.toNat [] [],Qss (ep sc s n v)]))→Q4r A (ep sc s n v) w e w'):=fun e w' h1 h2=>⟨h1,.inl ⟨hc,by rw[hit];exact h2⟩⟩
  have h12:sc=1∨sc=2:=by
   by_cases h1:sc=1
   ·
    exact .inl h1
   ·
    exact .inr (Qbe hc h1).1
  have hwr:IntKind.u64.wrap sc=sc:=by rcases h12 with rfl|rfl <;> rfl
  have CU:Hid (∀ (W:World),Calls Tryz.prog 111 #[.int .u64 (IntKind.u64.wrap sc)] W (Qbj (w.heap.size+2) (.mk 0 sc.toNat [] []) W)):=fun W=>by
   rw[hwr]
   have h:=Qe0 (w.heap.size+2) sc.toNat W (by rcases h12 with rfl|rfl <;> decide);rw[show((sc.toNat:Nat):Int)=sc by rcases h12 with rfl|rfl <;> rfl] at h
   exact h
  have HPAR:=hid hpar;generalize Qss (ep sc s n v)=bi at *;clear hc hit hpar h12 hwr;unfold Qbq at *;generalize sc.toNat=scn at *;go_enter Tryz.func140,Tryz.ntmps140;go_wp2_with fail;refine C1.out.mono ?_;rintro e w1 ⟨hb,⟨-,rfl⟩|⟨h,-⟩⟩
  case inr=>cases h
  have g1:=Qbh ((((Below.refl (w.alloc (zo3 sc s n v)).heap.size _).alloc zr _)).trans (hb.mono (Qaa _ _)));have HB:=hid (hb.mono (show w.heap.size+2≤_ by simp));have HZ1:Hid (w.heap.size+2≤w1.heap.size):=by show _≤_;have h:=hb.size;simpa using h
  clear hb;obtain⟨g10,g11,g12,g13⟩:=g1;have HNE:Hid (¬ w.heap.size+1=w.heap.size):=Nat.succ_ne_self _;go_wp2_with fail;have hlt0:w.heap.size<w1.heap.size:=Nat.lt_of_lt_of_le (by omega) HZ1.out;go_region_held3 (fun W=>W.cell? ⟨w.heap.size,0,none⟩=some (.int .i64 sc)∧W.cell? ⟨w.heap.size,1,none⟩=some (.string s)∧W.cell? ⟨w.heap.size,2,none⟩=some (.int .u64 (n:Int))∧W.cell? ⟨w.heap.size,3,none⟩=some (.int .u64 (v:Int)))
   (first|(with_reducible exact⟨x0,x1,x2,x3⟩)|(with_reducible exact⟨Qdr x0 HNE.out,Qdr x1 HNE.out,Qdr x2 HNE.out,Qdr x3 HNE.out⟩)|(with_reducible exact⟨u0,u1,u2,u3⟩)|(with_reducible exact⟨(World.cell?_alloc_lt w3 _ ⟨w.heap.size,0,none⟩ H3.out).trans u0,(World.cell?_alloc_lt w3 _ ⟨w.heap.size,1,none⟩ H3.out).trans u1,(World.cell?_alloc_lt w3 _ ⟨w.heap.size,2,none⟩ H3.out).trans u2,(World.cell?_alloc_lt w3 _ ⟨w.heap.size,3,none⟩ H3.out).trans u3⟩)|(with_reducible exact⟨t0,t1,t2,t3⟩)|(exact⟨g10,g11,g12,g13⟩)|fail)
   (first
    | (go_at_call 111;refine(CU.out _).mono ?_;rintro e w2 ⟨v2,rfl,hv2,hb2⟩;have hb2':Below w1.heap.size w1 w2:=Below.drew_.trans hb2;have t0:=(hb2'.cell (p:=⟨w.heap.size,0,none⟩) hlt0).trans g10;have t1:=(hb2'.cell (p:=⟨w.heap.size,1,none⟩) hlt0).trans g11;have t2:=(hb2'.cell (p:=⟨w.heap.size,2,none⟩) hlt0).trans g12;have t3:=(hb2'.cell (p:=⟨w.heap.size,3,none⟩) hlt0).trans g13;obtain⟨k2,n2,A2,nd2,cd2,AL2,nl2,cl2,rfl⟩:=hv2.form;have V2:=hid hv2;have B2:=hid hb2';clear hv2 hb2 hb2')
    | (go_at_call 159;refine(CB.out _).mono ?_;rintro e w3 ⟨v3,rfl,hv3,hb3⟩;have V3:=hid (V2.out.grow hb3 zr);have W3:=hid (hv3.grow (Below.refl _ _) (Nat.le_trans HZ1.out B2.out.size));have hb3':=B2.out.trans (hb3.mono B2.out.size);have u0:=(hb3'.cell (p:=⟨w.heap.size,0,none⟩) hlt0).trans g10;have u1:=(hb3'.cell (p:=⟨w.heap.size,1,none⟩) hlt0).trans g11;have u2:=(hb3'.cell (p:=⟨w.heap.size,2,none⟩) hlt0).trans g12;have u3:=(hb3'.cell (p:=⟨w.heap.size,3,none⟩) hlt0).trans g13;obtain⟨k3,n3,A3,nd3,cd3,AL3,nl3,cl3,rfl⟩:=hv3.form;have B3:=hid hb3';have H3:Hid (w.heap.size<w3.heap.size):=Nat.lt_of_lt_of_le hlt0 hb3'.size;clear hv3 hb3 hb3')
    | (go_at_call 117;refine(Qdt (Nat.le_trans HZ1.out B3.out.size) V3.out W3.out HPAR.out).mono ?_;rintro e w4 ⟨v4,rfl,hv4,hb4⟩;have hb4':=(B3.out.alloc B3.out.size _).trans (hb4.mono (Nat.le_trans B3.out.size (Qaa _ _)));have x0:=(hb4'.cell (p:=⟨w.heap.size,0,none⟩) hlt0).trans g10;have x1:=(hb4'.cell (p:=⟨w.heap.size,1,none⟩) hlt0).trans g11;have x2:=(hb4'.cell (p:=⟨w.heap.size,2,none⟩) hlt0).trans g12;have x3:=(hb4'.cell (p:=⟨w.heap.size,3,none⟩) hlt0).trans g13;obtain⟨k4,n4,A4,nd4,cd4,AL4,nl4,cl4,rfl⟩:=hv4.form;have V4:=hid hv4;have hb5:=HB.out.trans (hb4'.mono HZ1.out);obtain⟨⟨z0,z1,z2,z3⟩,f0,f1,f2,f3⟩:=Qgc (g:=w.heap.size+1) (by simp) hb5;have B4:=hid hb5;clear hv4 hb4 hb4' hb5)
    | fail)
  go_wp2_with fail;refine bodyPost_ret (v:=.tuple #[.agg #[.int .i64 k4,.int .u64 (n4:Int),.slice A4 nd4 cd4,.slice AL4 nl4 cl4],.nilIface]) (by simp[results,Tryz.results140,go_sem,z0,z1,z2,z3]) rfl (HW.out _ _ ?_ ⟨_,rfl,?_⟩)
  ·
   exact Qas ((zb.alloc (Qaa _ _) _).trans (B4.out.mono (Nat.le_add_right _ 2))) (Nat.le_succ _)
  ·
   exact V4.out.put4 (Nat.le_add_right _ 2) (Nat.lt_succ_self _) (Nat.le_of_eq size_put4.symm)
def Q48(E:Epd)(w:World)(e:Ending)(w':World):Prop:=Below w.heap.size w w' ∧
 ((Qag E=true∧∃ v,e=.returned (.tuple #[v,.int .i64 0])∧RdI w' w'.heap.size v (Qal E)) ∨
  (Qag E=false∧e=.returned (.tuple #[Qb0,.int .i64 40])))
theorem Qye(A:Snt)(sc:Int)(s:ByteArray)(n0 v0:Nat)(w:World)(hA:Lds A w)(hs:s.size≤140737488355328)(hn:n0<18446744073709551616)(hv:v0<18446744073709551616) :
  Calls Tryz.prog 115 #[Qbq sc s n0 v0] w (Q48 (ep sc s n0 v0) w):=by
 have HA1:=hid ((hA.alloc (zo3 sc s n0 v0)).alloc zk0);have C1:=hid (Qfc A sc s n0 v0 _ HA1.out hs hn hv);have HB0:Hid (Below w.heap.size w ((w.alloc (zo3 sc s n0 v0)).alloc zk0)):=zb.alloc (Qaa _ _) _;generalize ep sc s n0 v0=E at *;clear hA hs hn hv;unfold Qbq at *;go_enter Tryz.func115,Tryz.ntmps115;go_wp2_with fail;refine C1.out.mono ?_;rintro e w1 ⟨hb,hcase⟩;have HL1:=hid (HA1.out.below hb zr);have HB1:=hid (hb.mono (show w.heap.size+2≤_ by simp));have HZ1:Hid (w.heap.size+2≤w1.heap.size):=by show _≤_;have h:=hb.size;simpa using h
 have HNE:Hid (¬ w.heap.size+1=w1.heap.size):=fun h=>by have:=HZ1.out;omega
 clear hb;obtain⟨hc,v,rfl,hr⟩|⟨hc,a,tx,ha,rfl⟩:=hcase
 ·
  obtain⟨k,m,D,nd,cd,AL,nl,cl,rfl⟩:=hr.form;have hs2:((w.alloc (zo3 sc s n0 v0)).alloc zk0).heap.size=w.heap.size+2:=by simp
  rw[hs2] at hr
  have HR:=hid (hr.grow ((Below.refl w1.heap.size w1).alloc zr (zo1 k m D nd cd AL nl cl)) zr);have HC:=hid hc;have CN:=hid (fun W (hW:Lds A W)=>Qfg A W hW);clear hc hr hs2;go_wp2_with fail;have HA2:=hid (HL1.out.alloc (zo1 k m D nd cd AL nl cl));have HB2:=hid (HB1.out.trans (((Below.refl w1.heap.size w1).alloc zr (zo1 k m D nd cd AL nl cl)).mono HZ1.out));have HLT:Hid (w1.heap.size<(w1.alloc (zo1 k m D nd cd AL nl cl)).heap.size):=by show _<_;simp
  obtain⟨p0,p1,p2,p3⟩:=Qbh (Below.refl _ (w1.alloc (zo1 k m D nd cd AL nl cl)));generalize w1.alloc (zo1 k m D nd cd AL nl cl)=W1 at *;have HD:=hid (HA2.out.below (Below.drew_ (B:=W1.heap.size)) zr);have HZ2:=hid (Nat.le_trans HZ1.out (Nat.le_of_lt HLT.out));go_region_held3 (fun W=>W.cell? ⟨w1.heap.size,0,none⟩=some (.int .i64 k)∧W.cell? ⟨w1.heap.size,1,none⟩=some (.int .u64 (m:Int))∧W.cell? ⟨w1.heap.size,2,none⟩=some (.slice D nd cd)∧W.cell? ⟨w1.heap.size,3,none⟩=some (.slice AL nl cl))
   (first|(with_reducible exact⟨Qau x0 HNE.out,Qau x1 HNE.out,Qau x2 HNE.out,Qau x3 HNE.out⟩)|(with_reducible exact⟨x0,x1,x2,x3⟩)|(exact⟨p0,p1,p2,p3⟩)|fail)
   (first
    | (go_at_call 141;refine(CN.out _ HD.out).mono ?_;rintro e w2 ⟨rfl,hb2⟩;have hb2':Below W1.heap.size W1 w2:=Below.drew_.trans hb2;have x0:=(hb2'.cell (p:=⟨w1.heap.size,0,none⟩) HLT.out).trans p0;have x1:=(hb2'.cell (p:=⟨w1.heap.size,1,none⟩) HLT.out).trans p1;have x2:=(hb2'.cell (p:=⟨w1.heap.size,2,none⟩) HLT.out).trans p2;have x3:=(hb2'.cell (p:=⟨w1.heap.size,3,none⟩) HLT.out).trans p3;have hb3:=HB2.out.trans (hb2'.mono HZ2.out);have BX:=hid hb2';obtain⟨⟨z0,z1,z2,z3⟩,f0,f1,f2,f3⟩:=Qgc (g:=w.heap.size+1) (by simp) hb3;have B3:=hid hb3;clear hb2 hb2' hb3)
    | fail)
  go_wp2_with fail;refine bodyPost_ret (v:=.tuple #[.agg #[.int .i64 k,.int .u64 (m:Int),.slice D nd cd,.slice AL nl cl],.int .i64 0]) (by simp[results,Tryz.results115,go_sem,z0,z1,z2,z3]) rfl ⟨Qas (HB0.out.trans (B3.out.mono (Nat.le_add_right _ 2))) (Nat.le_succ _),.inl ⟨HC.out,_,rfl,?_⟩⟩;exact RdI.unmask (S:=Qax 0) ((HR.out.grow BX.out zr).put4 (Nat.zero_le _) (Nat.lt_succ_self _) (Nat.le_of_eq size_put4.symm))
 ·
  have HC:=hid hc;have CN:=hid (fun W (hW:Lds A W)=>Qii A 1 (.iface 230 (.agg #[.string tx,snt a])) a W hW (.wrap 0 tx _ _ a (.leaf a ha)) (by decide));clear hc ha;unfold Qb0 Qsz snt at *;go_wp2_with fail;have HA2:=hid (HL1.out.alloc zk0);have HB2:=hid (HB1.out.trans (((Below.refl w1.heap.size w1).alloc zr zk0).mono HZ1.out));have HLT:Hid (w1.heap.size<(w1.alloc zk0).heap.size):=by show _<_;simp
  obtain⟨p0,p1,p2,p3⟩:=Qbh (Below.refl _ (w1.alloc zk0));generalize w1.alloc zk0=W1 at *;have HD:=hid (HA2.out.below (Below.drew_ (B:=W1.heap.size)) zr);have HZ2:=hid (Nat.le_trans HZ1.out (Nat.le_of_lt HLT.out));go_region_held3 (fun W=>W.cell? ⟨w1.heap.size,0,none⟩=some (.int .i64 0)∧W.cell? ⟨w1.heap.size,1,none⟩=some (.int .u64 0)∧W.cell? ⟨w1.heap.size,2,none⟩=some (.slice none 0 0)∧W.cell? ⟨w1.heap.size,3,none⟩=some (.slice none 0 0))
   (first|(with_reducible exact⟨Qau x0 HNE.out,Qau x1 HNE.out,Qau x2 HNE.out,Qau x3 HNE.out⟩)|(with_reducible exact⟨x0,x1,x2,x3⟩)|(exact⟨p0,p1,p2,p3⟩)|fail)
   (first
    | (go_at_call 141;refine(CN.out _ HD.out).mono ?_;rintro e w2 ⟨rfl,hb2⟩;have hb2':Below W1.heap.size W1 w2:=Below.drew_.trans hb2;have x0:=(hb2'.cell (p:=⟨w1.heap.size,0,none⟩) HLT.out).trans p0;have x1:=(hb2'.cell (p:=⟨w1.heap.size,1,none⟩) HLT.out).trans p1;have x2:=(hb2'.cell (p:=⟨w1.heap.size,2,none⟩) HLT.out).trans p2;have x3:=(hb2'.cell (p:=⟨w1.heap.size,3,none⟩) HLT.out).trans p3;have hb3:=HB2.out.trans (hb2'.mono HZ2.out);have BX:=hid hb2';obtain⟨⟨z0,z1,z2,z3⟩,f0,f1,f2,f3⟩:=Qgc (g:=w.heap.size+1) (by simp) hb3;have B3:=hid hb3;clear hb2 hb2' hb3)
    | fail)
  go_wp2_with fail;refine bodyPost_ret (v:=.tuple #[Qb0,.int .i64 40]) (by simp[results,Tryz.results115,go_sem,z0,z1,z2,z3,Qb0]) rfl ⟨Qas (HB0.out.trans (B3.out.mono (Nat.le_add_right _ 2))) (Nat.le_succ _),.inr ⟨HC.out,rfl⟩⟩
end Go.Proofs.YtbnfkjkoinbkgaaGreatDoor
