import Derived.Test.YtbnfkjkoinbkgaaGreatDoorVAbb
import Derived.Test.YtbnfkjkoinbkgaaGreatDoorVShaT
import Derived.Deep.QuietTactic
namespace Go.Proofs.YtbnfkjkoinbkgaaGreatDoor
set_option maxRecDepth 100000
set_option maxHeartbeats 16000000
open Go.RowKit
open Go.Lib (hid)
theorem Ow.eight{w:World}{base g cap:Nat}{t:TypeId}{S:St}(h:Ow w base t (.slice (some ⟨g,0,none⟩) 8 cap) S.list) :
  w.cell? ⟨g,0,none⟩=some (.int .u32 (S.a.toNat:Int))∧w.cell? ⟨g,1,none⟩=some (.int .u32 (S.b.toNat:Int))∧w.cell? ⟨g,2,none⟩=some (.int .u32 (S.c.toNat:Int))∧w.cell? ⟨g,3,none⟩=some (.int .u32 (S.d.toNat:Int)) ∧
  w.cell? ⟨g,4,none⟩=some (.int .u32 (S.e.toNat:Int))∧w.cell? ⟨g,5,none⟩=some (.int .u32 (S.f.toNat:Int))∧w.cell? ⟨g,6,none⟩=some (.int .u32 (S.g.toNat:Int))∧w.cell? ⟨g,7,none⟩=some (.int .u32 (S.h.toNat:Int)) :=
 ⟨h.cell rfl (by decide),h.cell rfl (by decide),h.cell rfl (by decide),h.cell rfl (by decide),h.cell rfl (by decide),h.cell rfl (by decide),h.cell rfl (by decide),h.cell rfl (by decide)⟩
theorem Rw.of_row{w:World}{g n:Nat}{t:TypeId}{K:Array Value}{l:List (BitVec 32)}(hK:K=(wc l).toArray)(hl:l.length=n)(hg:w.heap[g]?=some (.cells K t (0,0))):Rw w (g+1) (some ⟨g,0,none⟩) n l :=
 ⟨hl,fun _=>⟨g,0,rfl,Nat.lt_succ_self g,fun i hi=>by rw[Nat.zero_add];exact World.rowIs.cell (Qey hK hl hg) hi⟩⟩
theorem Q5g(a:BitVec 32):bits BinOp.xor .u32 (if IntKind.u32.signed=true then -1 else IntKind.u32.max) (a.toNat:Int)=((~~~ a).toNat:Int):=Q31 a
theorem Q5a(h t f y x:BitVec 32):(((h.toNat:Int)+t.toNat+f.toNat+y.toNat) % 4294967296+x.toNat) % 4294967296=((h+t+f+y+x).toNat:Int):=by
 simp only[BitVec.toNat_add];omega
def Qui(s S:St)(k:Nat):List (BitVec 32):=(List.range 8).map fun j=>if j<k then S.list.getD j 0+s.list.getD j 0 else S.list.getD j 0
theorem Qfh(s S:St)(k:Nat):(Qui s S k).length=8:=by simp[Qui]
theorem Qug(s S:St):Qui s S 0=S.list:=rfl
theorem Qx2(s S:St)(k:Nat)(hk:k<8):(Qui s S k).getD k 0=S.list.getD k 0:=by
 simp[Qui,List.getD,hk]
theorem Quh(s S:St)(k:Nat)(hk:k<8):Qui s S (k+1)=(Qui s S k).set k (S.list.getD k 0+s.list.getD k 0):=by
 apply List.ext_getElem?;intro j;rw[List.getElem?_set]
 by_cases h:k=j
 ·
  subst h;simp[Qui,hk]
 ·
  rw[if_neg h]
  simp only[Qui,List.getElem?_map];rcases Nat.lt_or_ge j 8 with h8|h8
  ·
   rw[List.getElem?_range h8]
   simp only[Option.map_some];by_cases h2:j<k
   ·
    rw[if_pos h2,if_pos (by omega)]
   ·
    rw[if_neg h2,if_neg (by omega)]
  ·
   rw[List.getElem?_eq_none (by simpa using h8)];rfl
theorem Qx3(s S:St):Qui s S 8=(s.add S).list:=by
 show[S.a+s.a,S.b+s.b,S.c+s.c,S.d+s.d,S.e+s.e,S.f+s.f,S.g+s.g,S.h+s.h]=[s.a+S.a,s.b+S.b,s.c+S.c,s.d+S.d,s.e+S.e,s.f+S.f,s.g+S.g,s.h+S.h];simp only[BitVec.add_comm]
theorem Qrk(s:St)(A1 A:OA)(n1 c B1 B:Nat)(b:LB)(w:World)(hs:Rw w B1 A1 8 s.list)(hr:Rd w B A 64 b)(hB1:B1≤w.heap.size)(hB:B≤w.heap.size)(hc:64≤c)(hc2:c≤9223372036854775807) :
  Calls Tryz.prog 41 #[.slice A1 8 n1,.slice A 64 c] w (Qwq 89 (nxt s b).list w):=by
 have HS:=hid hs;have HB1:=hid hB1;have C1:=hid (Qrd A c B b w hr hB hc hc2);obtain⟨KC,hKC⟩:∃ K,K=(wc kL).toArray:=⟨_,rfl⟩
 have c2:=Q39;rw[← hKC] at c2
 have C2:=hid c2;have HKC:=hid hKC;clear hs hr hB1 hB c2 hKC;go_enter Tryz.func41,Tryz.ntmps41;go_wp2_with fail;refine C1.out.mono ?_;rintro e w1 ⟨v1,rfl,ho1,hb1⟩;obtain⟨gw,cw,rfl,hgw1,hgw2,hcw⟩:=ho1.form (by rw[Qbt];decide);rw[Qbt] at hcw ho1 ⊢
 have O1:=hid ho1;have B1x:=hid hb1;clear ho1 hb1;go_wp2_with fail;refine(C2.out _).mono ?_;rintro e w2 ⟨rfl,rfl⟩;have hz1:w.heap.size≤w1.heap.size:=B1x.out.size;have b2:Below w.heap.size w (w1.alloc (.cells KC 89)):=B1x.out.alloc hz1 _;have k2:(w1.alloc (.cells KC 89)).heap[w1.heap.size]?=some (.cells KC 89 (0,0)):=heap_alloc_new w1 _;have o2:Ow (w1.alloc (.cells KC 89)) w.heap.size 89 (.slice (some ⟨gw,0,none⟩) 64 cw) (wL b 64):=O1.out.alloc _;have z2:(w1.alloc (.cells KC 89)).heap.size=w1.heap.size+1:=by simp
 obtain⟨gk,hgk⟩:∃ g,g=w1.heap.size:=⟨_,rfl⟩
 rw[← hgk] at k2 z2 hgw2 ⊢
 generalize w1.alloc (.cells KC 89)=w2 at *;have hs2:Rw w2 B1 A1 8 s.list:=HS.out.below (b2.mono HB1.out);have K2:=hid k2;have O2:=hid o2;have B2:=hid b2;have Z2:=hid z2;have HGW:=hid hgw2;have HS2:=hid hs2;have hB12:B1≤w2.heap.size:=Nat.le_trans HB1.out b2.size;have HB12:=hid hB12;clear hz1 b2 k2 o2 z2 hgk hgw1 hgw2 hs2 hB12 O1 B1x C1 C2;go_wp2_with (first
  | (at_builtin;refine Qgu rfl (.tmp 25) (.tmp 26) 86 rfl w2.heap.size 89 Tryz.underlying86 Qip _ [] rfl (Ow.lit w2 [] #[] rfl zr 0 rfl (by decide)) B1 A1 8 n1 s.list rfl (HS2.out.alloc HB12.out _) (by decide) (Qaa _ _) ?_;intro v3 w3 ho3 hb3;have O3:=hid ho3;have B3:=hid (((Below.refl _ w2).alloc zr _).trans hb3);clear ho3 hb3)
  | fail)
 go_loopw [7,8] (fun v i wr=>∃ (k:Nat) (S:St),k≤64∧i=.int .i64 k∧Hid (S=rN s (wL b 64) k)∧Hid (Ow wr w2.heap.size 89 v S.list)∧Hid (Below w2.heap.size w2 wr)) (fun _ i _=>64 - (intOf i).toNat)
 case atStart=>exact⟨0,s,by omega,rfl,rfl,by have h:=O3.out;rw[List.nil_append] at h;exact h,B3.out⟩
 case round =>
  obtain⟨k,S,hk,rfl,hS,hob,hbel⟩:=hrel;by_cases hlt:k<64
  ·
   obtain⟨gs,cap,rfl,hgs1,hgs2,hcap⟩:=hob.out.form (by show 0<8;decide);have ho:=hob.out;rw[show S.list.length=8 from rfl] at ho hcap ⊢
   obtain⟨x,hx⟩:∃ x,x=(wL b 64).getD k 0:=⟨_,rfl⟩
   obtain⟨y,hy⟩:∃ y,y=kL.getD k 0:=⟨_,rfl⟩
   have cx:wr.cell? ⟨gw,k,none⟩=some (.int .u32 (x.toNat:Int)):=by
    rw[hx,hbel.out.cell (p:=⟨gw,k,none⟩) (by have h1:=HGW.out;have h2:=Z2.out;show gw<_;omega)]
    exact O2.out.cell (Qbt b 64) hlt
   have cy:wr.cell? ⟨gk,k,none⟩=some (.int .u32 (y.toNat:Int)):=by
    rw[hy,hbel.out.cell (p:=⟨gk,k,none⟩) (by have h2:=Z2.out;show gk<_;omega)]
    exact World.rowIs.cell (Qey HKC.out Qf2 K2.out) hlt
   obtain⟨e0,e1,e2,e3,e4,e5,e6,e7⟩:=ho.eight;have k0:(0:Int)≤(k:Int):=by omega
   have k1:(k:Int)<64:=by omega
   have Hx:=hid hx;have Hy:=hid hy;have HO:=hid ho;clear hx hy ho;go_wp2_with fail;go_region
   have d0:wr.drew.cell? ⟨gs,0,none⟩=some (.int .u32 (S.a.toNat:Int)):=e0;have d1:wr.drew.cell? ⟨gs,1,none⟩=some (.int .u32 (S.b.toNat:Int)):=e1;have d2:wr.drew.cell? ⟨gs,2,none⟩=some (.int .u32 (S.c.toNat:Int)):=e2;have d3:wr.drew.cell? ⟨gs,3,none⟩=some (.int .u32 (S.d.toNat:Int)):=e3;have d4:wr.drew.cell? ⟨gs,4,none⟩=some (.int .u32 (S.e.toNat:Int)):=e4;have d5:wr.drew.cell? ⟨gs,5,none⟩=some (.int .u32 (S.f.toNat:Int)):=e5;have d6:wr.drew.cell? ⟨gs,6,none⟩=some (.int .u32 (S.g.toNat:Int)):=e6;have d7:wr.drew.cell? ⟨gs,7,none⟩=some (.int .u32 (S.h.toNat:Int)):=e7;have dx:wr.drew.cell? ⟨gw,k,none⟩=some (.int .u32 (x.toNat:Int)):=cx
   have dy:wr.drew.cell? ⟨gk,k,none⟩=some (.int .u32 (y.toNat:Int)):=cy;have BZ:Hid (Below w2.heap.size w2 wr.drew):=hbel.out.drew;have HOZ:Hid (Ow wr.drew w2.heap.size 89 (.slice (some ⟨gs,0,none⟩) 8 cap) S.list):=HO.out.drew;clear e0 e1 e2 e3 e4 e5 e6 e7 cx cy HO;generalize wr.drew=wz at *;have T1:=hid (fun n=>Calls.quiet_of_same (n:=n) ((show Calls Tryz.prog 70 #[.int .u32 (S.e.toNat:Int),.int .u32 6] (wz.drewN n) _ from Qcs S.e 6 (by decide) (by decide) (wz.drewN n)).mono (fun _ _ h=>⟨h.1,h.2.symm⟩)));have T2:=hid (fun n=>Calls.quiet_of_same (n:=n) ((show Calls Tryz.prog 70 #[.int .u32 (S.e.toNat:Int),.int .u32 11] (wz.drewN n) _ from Qcs S.e 11 (by decide) (by decide) (wz.drewN n)).mono (fun _ _ h=>⟨h.1,h.2.symm⟩)))
   have T3:=hid (fun n=>Calls.quiet_of_same (n:=n) ((show Calls Tryz.prog 70 #[.int .u32 (S.e.toNat:Int),.int .u32 25] (wz.drewN n) _ from Qcs S.e 25 (by decide) (by decide) (wz.drewN n)).mono (fun _ _ h=>⟨h.1,h.2.symm⟩)));go_wp2_with fail;go_quiet (first|(go_at_call 70;with_reducible exact T1.out _)|(go_at_call 70;with_reducible exact T2.out _)|(go_at_call 70;with_reducible exact T3.out _)|fail)
   obtain⟨t1,ht1⟩:∃ t,t=S.t1 y x:=⟨_,rfl⟩
   simp only[Q5g,Qy3,Qfm];rw[Q5a,show S.h+(rr S.e 6 ^^^ rr S.e 11 ^^^ rr S.e 25)+(S.e &&& S.f ^^^ ~~~S.e &&& S.g)+y+x=t1 from ht1.symm]
   have BY:Hid (Below w2.heap.size w2 (wz.drewN nq)):=BZ.out.trans (Qhp _ _ _);have HOY:Hid (Ow (wz.drewN nq) w2.heap.size 89 (.slice (some ⟨gs,0,none⟩) 8 cap) S.list):=HOZ.out;have HT1:=hid ht1;clear d0 d1 d2 d3 d4 d5 d6 d7 dx dy T1 T2 T3 BZ HOZ ht1;generalize wz.drewN nq=wy at *;obtain⟨d0,d1,d2,d3,d4,d5,d6,d7⟩:=HOY.out.eight;have T1:=hid (fun n=>Calls.quiet_of_same (n:=n) ((show Calls Tryz.prog 70 #[.int .u32 (S.a.toNat:Int),.int .u32 2] (wy.drewN n) _ from Qcs S.a 2 (by decide) (by decide) (wy.drewN n)).mono (fun _ _ h=>⟨h.1,h.2.symm⟩)));have T2:=hid (fun n=>Calls.quiet_of_same (n:=n) ((show Calls Tryz.prog 70 #[.int .u32 (S.a.toNat:Int),.int .u32 13] (wy.drewN n) _ from Qcs S.a 13 (by decide) (by decide) (wy.drewN n)).mono (fun _ _ h=>⟨h.1,h.2.symm⟩)))
   have T3:=hid (fun n=>Calls.quiet_of_same (n:=n) ((show Calls Tryz.prog 70 #[.int .u32 (S.a.toNat:Int),.int .u32 22] (wy.drewN n) _ from Qcs S.a 22 (by decide) (by decide) (wy.drewN n)).mono (fun _ _ h=>⟨h.1,h.2.symm⟩)));go_wp2_with fail;go_quiet (first|(go_at_call 70;with_reducible exact T1.out _)|(go_at_call 70;with_reducible exact T2.out _)|(go_at_call 70;with_reducible exact T3.out _)|fail)
   obtain⟨t2,ht2⟩:∃ t,t=S.t2:=⟨_,rfl⟩
   simp only[Qy3,Qfm,Q29];rw[show(rr S.a 2 ^^^ rr S.a 13 ^^^ rr S.a 22)+(S.a &&& S.b ^^^ S.a &&& S.c ^^^ S.b &&& S.c)=t2 from ht2.symm]
   have BX:Hid (Below w2.heap.size w2 (wy.drewN nq)):=BY.out.trans (Qhp _ _ _);have HOX:Hid (Ow (wy.drewN nq) w2.heap.size 89 (.slice (some ⟨gs,0,none⟩) 8 cap) S.list):=HOY.out;have HT2:=hid ht2;clear d0 d1 d2 d3 d4 d5 d6 d7 T1 T2 T3 BY HOY ht2;generalize wy.drewN nq=wx at *;obtain⟨d0,d1,d2,d3,d4,d5,d6,d7⟩:=HOX.out.eight;go_wp2_with fail;go_region
   clear d0 d1 d2 d3 d4 d5 d6 d7;go_wp2_with fail;go_roundw
   case rel =>
    refine⟨k+1,S.rnd y x,by omega,by go_num,?_,?_,(BX.out.alloc BX.out.size _).drew⟩
    ·
     show _=_;rw[hS.out,Hx.out,Hy.out];rfl
    ·
     refine(Ow.lit wx (S.rnd y x).list _ ?_ BX.out.size 8 rfl (by decide)).drew;show _=#[Value.int .u32 ((S.t1 y x+S.t2).toNat:Int),.int .u32 (S.a.toNat:Int),.int .u32 (S.b.toNat:Int),.int .u32 (S.c.toNat:Int),.int .u32 ((S.d+S.t1 y x).toNat:Int),.int .u32 (S.e.toNat:Int),.int .u32 (S.f.toNat:Int),.int .u32 (S.g.toNat:Int)];rw[← HT1.out,← HT2.out,Q29,Q29]
   case measure=>simp[intOf];omega
  ·
   obtain rfl:k=64:=by omega
   have hfin:s.add S=nxt s b:=by rw[hS.out];rfl
   have HF:=hid hfin;obtain⟨gs,cap,rfl,hgs1,hgs2,hcap⟩:=hob.out.form (by show 0<8;decide);have ho:=hob.out;rw[show S.list.length=8 from rfl] at ho hcap ⊢
   obtain⟨b1,o1,rfl,hb1,hc1⟩:=HS2.out.2 (by decide);have HO:=hid ho;have HC1:=hid hc1;have HBB1:=hid hb1;obtain⟨wq,hwq⟩:∃ W,W=wr:=⟨_,rfl⟩
   subst hwq;clear hfin ho hb1 hc1 hgs1 hgs2;go_wp2_with fail;go_loopw [13] (fun i wy=>∃ q:Nat,q≤8∧i=.int .i64 q∧Hid (Ow wy w2.heap.size 89 (.slice (some ⟨gs,0,none⟩) 8 cap) (Qui s S q))∧Hid (Below w2.heap.size w2 wy)) (fun i _=>8 - (intOf i).toNat)
   case atStart=>exact⟨0,by omega,rfl,by rw[Qug];exact HO.out,hbel.out⟩
   case round =>
    obtain⟨q,hq,rfl,hoq,hbq⟩:=hrel;by_cases hlt:q<8
    ·
     obtain⟨x,hx⟩:∃ x,x=S.list.getD q 0:=⟨_,rfl⟩
     obtain⟨y,hy⟩:∃ y,y=s.list.getD q 0:=⟨_,rfl⟩
     have cx:wr.cell? ⟨gs,q,none⟩=some (.int .u32 (x.toNat:Int)):=by
      rw[hx,← Qx2 s S q hlt]
      exact hoq.out.cell (Qfh s S q) hlt
     have fx:wr.frozen? ⟨gs,q,none⟩=false:=hoq.out.frozen (Qfh s S q) q;have cy:wr.cell? ⟨b1,o1+q,none⟩=some (.int .u32 (y.toNat:Int)):=by
      rw[hy,hbq.out.cell (p:=⟨b1,o1+q,none⟩) (Nat.lt_of_lt_of_le HBB1.out HB12.out)]
      exact HC1.out q hlt
     have k0:(0:Int)≤(q:Int):=by omega
     have k1:(q:Int)<8:=by omega
     have Hx:=hid hx;have Hy:=hid hy;clear hx hy;go_wp2_with fail;go_region
     go_wp2_with fail;go_roundw
     case rel =>
      refine⟨q+1,by omega,by go_num,?_,((hbq.out.setCell (p:=⟨gs,q,none⟩) ?_ _)).drew⟩
      ·
       show Ow _ _ _ _ _;rw[Quh s S q hlt,← Hx.out,← Hy.out]
       exact(hoq.out.stored (Qfh s S q) q (x+y) (iu (Q29 x y))).drew
      ·
       exact(World.ownsRow.lt hoq.out gs rfl).1
     case measure=>simp[intOf];omega
    ·
     obtain rfl:q=8:=by omega
     go_wp2_with fail;go_ret;refine⟨_,rfl,?_,B2.out.trans (hbq.out.mono B2.out.size)⟩;have h:=hoq.out;rw[Qx3,HF.out] at h
     exact h.low B2.out.size
end Go.Proofs.YtbnfkjkoinbkgaaGreatDoor
