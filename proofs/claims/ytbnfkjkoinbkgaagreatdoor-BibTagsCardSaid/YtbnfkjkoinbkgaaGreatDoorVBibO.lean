import Derived.Test.YtbnfkjkoinbkgaaGreatDoorVAbb
import Derived.Test.YtbnfkjkoinbkgaaGreatDoorVBibI
import Derived.Test.YtbnfkjkoinbkgaaGreatDoorVCfBibTags
import Derived.Test.YtbnfkjkoinbkgaaGreatDoorVIpN
import Derived.Test.YtbnfkjkoinbkgaaGreatDoorVRfW
import Derived.Test.YtbnfkjkoinbkgaaGreatDoorVShaP
import Derived.Test.YtbnfkjkoinbkgaaGreatDoorVShaT
namespace Go.Proofs.YtbnfkjkoinbkgaaGreatDoor
set_option maxRecDepth 100000
set_option maxHeartbeats 16000000
open Go.RowKit
open Go.Lib (hid)
theorem Qj8(S:Snt)(x:Bb)(v:Value)(B:Nat)(w:World)(hS:Lds S w)(h:RdX w B v x)(hB:B≤w.heap.size)(hr:Rgt x) :
  Calls Tryz.prog 45 #[v] w (Qbi 5 (Qjh x) w):=by
 have HSM:Hid (∀ n∈x.tgs,n<18446744073709551616):=by obtain⟨_,_,_,_,_,_,_,_,_,_,_,_,_,_,h5,_⟩:=h;exact h5
 have hx:=h;obtain⟨A,n,c,sc,s,nd,sv,At,nt,ct,rfl,-⟩:=h;have hB0:Below w.heap.size w (w.alloc (zo2 A n c sc s nd sv x.sco At nt ct)):=zb;have CI:=hid (Qsa S x _ B (w.alloc (zo2 A n c sc s nd sv x.sco At nt ct)) (hS.alloc _) (hx.below (hB0.mono hB)) (Nat.le_trans hB hB0.size) hr);obtain⟨so,hso⟩:∃ so,so=x.sco:=⟨_,rfl⟩
 rw[← hso] at hB0 CI
 rw[← hso]
 have HB0:=hid hB0;have HW0:Hid (Below (w.heap.size+1) (w.alloc (zo2 A n c sc s nd sv so At nt ct)) (w.alloc (zo2 A n c sc s nd sv so At nt ct))):=Below.refl _ _;have HRW:=hid (fun (W:World) (hb:Below (w.heap.size+1) (w.alloc (zo2 A n c sc s nd sv so At nt ct)) W)=>Qad (w:=w) rfl hb);have HFS:Hid (FS (Qd5 x)):=Qp4 hr HSM.out;have HLN:Hid ((Qd5 x).length=6):=rfl;have HBL:Hid ((wrs (Qd5 x)).length≤2000):=Qho hr;have HE:Hid (wrs (Qd5 x)=Qjh x):=rfl;obtain⟨L,hL⟩:∃ L,L=Qd5 x:=⟨_,rfl⟩
 rw[← hL] at CI HFS HLN HBL HE
 rw[← HE.out]
 clear hS hx hB hr hso hB0 hL HSM HE;unfold Qlh at *;go_enter Tryz.func45,Tryz.ntmps45;go_wp2_with (first
  | (refine Qb8 rfl (.tmp 1) rfl _ rfl _ _ (HRW.out _ HW0.out) rfl ?_)
  | fail)
 refine CI.out.mono ?_;rintro e w1 ⟨g,rfl,hg,hris,hb⟩;have T1:=hid (HB0.out.trans (hb.mono HB0.out.size));have HG:=hid hg;have HRI:=hid hris;clear hb hg hris CI;go_wp2_with fail;go_loopw [3,11] (fun s3 s11 wl=>∃ i:Nat,i≤6∧s11=.int .i64 (i:Int)∧Hid (Ob wl w1.heap.size 5 s3 (wrs (L.take i)))∧Hid (Below w1.heap.size w1 wl)) (fun _ s11 _=>6 - (intOf s11).toNat)
 case atStart=>exact⟨0,Nat.zero_le _,rfl,by rw[List.take_zero];exact Ob.nil_ _ _ _,Below.refl _ _⟩
 case round =>
  obtain⟨i,hi,rfl,HO,HB⟩:=hrel;have HSZ:=hid HB.out.size;by_cases hlt:i<6
  ·
   have hil:i<L.length:=by rw[HLN.out];exact hlt
   obtain⟨k1,n1,A1,nd1,cd1,AL1,nl1,cl1,g0,g1,g2,g3,gx⟩:=HRI.out.get4 i hil;have hmem:=HFS.out _ (List.getElem_mem hil);have htk:wrs (L.take (i+1))=wrs (L.take i)++wri L[i]:=by rw[List.take_add_one,List.getElem?_eq_getElem hil,Qgd];simp[wrs]
   have hle:(wrs (L.take (i+1))).length≤2000:=by
    have e:wrs L=wrs (L.take (i+1))++wrs (L.drop (i+1)):=by rw[← Qgd,List.take_append_drop]
    have:=HBL.out
    rw[e,List.length_append] at this
    omega
   obtain⟨y,hy⟩:∃ y,y=L[i]:=⟨_,rfl⟩
   rw[← hy] at gx hmem htk
   rw[htk,List.length_append] at hle
   have hbig:=HB.out;have y0:=(hbig.cell (p:=⟨g,0+i*4,none⟩) HG.out).trans g0;have y1:=(hbig.cell (p:=⟨g,0+i*4+1,none⟩) HG.out).trans g1;have y2:=(hbig.cell (p:=⟨g,0+i*4+2,none⟩) HG.out).trans g2;have y3:=(hbig.cell (p:=⟨g,0+i*4+3,none⟩) HG.out).trans g3;rw[Nat.zero_add] at y0 y1 y2 y3
   have BW:Hid (Below wr.heap.size wr (wr.alloc (zo1 k1 n1 A1 nd1 cd1 AL1 nl1 cl1))):=zb;have K0:=hid (Qcx (w:=wr) (Below.refl _ (wr.alloc (zo1 k1 n1 A1 nd1 cd1 AL1 nl1 cl1))));have C1:=hid (Qet y _ (wr.alloc (zo1 k1 n1 A1 nd1 cd1 AL1 nl1 cl1)) w1.heap.size hmem.1 (by omega) (Nat.le_trans HSZ.out BW.out.size) ((gx.below hbig).below (BW.out.mono HSZ.out)));have TK:=hid htk;have HLE:=hid hle;obtain⟨m0,m1,m2,m3⟩:=K0.out;clear g0 g1 g2 g3 gx hmem htk hle hy hbig hil K0;go_wp2_with fail;refine C1.out.mono ?_;rintro e w2 ⟨v2,rfl,hob,hb⟩;obtain⟨A2,c2,rfl,-,-,hrd⟩:=Ob.rdn hob rfl;have D2:=hid (BW.out.trans (hb.mono BW.out.size))
   have RD2:=hid hrd;have O2:Hid (Ob w2 w1.heap.size 5 u3 (wrs (L.take i))):=Qem HO.out D2.out;have BS:Hid (w1.heap.size≤w2.heap.size):=Nat.le_trans HSZ.out D2.out.size;clear hob hb hrd C1 HO y0 y1 y2 y3 m0 m1 m2 m3;go_wp2_with (first
    | (at_builtin;refine Qam rfl (.tmp 20) (.tmp 21) 29 rfl w1.heap.size 5 Tryz.underlying29 Qak _ _ rfl O2.out _ _ _ _ _ rfl RD2.out (by have:=HLE.out;omega) BS.out ?_;intro v3 w3 ho3 hb3;have O3:=hid ho3;have B3:=hid hb3;clear ho3 hb3)
    | fail)
   have OE:Hid (Ob w3 w1.heap.size 5 v3 (wrs (L.take (i+1)))):=by show Ob _ _ _ _ _;rw[TK.out];exact O3.out
   have BE:=hid (HB.out.trans ((D2.out.mono HSZ.out).trans B3.out));clear O3 TK O2 RD2;go_roundw
   case rel=>exact⟨i+1,by omega,by go_num,OE.out,BE.out⟩
   case measure=>simp[intOf];omega
  ·
   obtain rfl:i=6:=by omega
   have OE:Hid (Ob wr w.heap.size 5 u3 (wrs L)):=by
    have h:=HO.out;rw[List.take_of_length_le (by rw[HLN.out];exact Nat.le_refl _)] at h
    exact h.low T1.out.size
   have BE:=hid (T1.out.trans (HB.out.mono T1.out.size));clear HO;go_wp2_with fail;go_ret;exact⟨_,rfl,OE.out,BE.out⟩
theorem Qmw(T:Snb)(t:ByteArray)(w:World)(hT:Ldb T w):Calls Tryz.prog 16 #[Qer T.t t] w fun e w'=>e=.returned (.int .i64 100)∧Below w.heap.size w w':=by
 have h:=Qmx T T.t t w hT (.inl rfl);rwa[if_pos rfl] at h
theorem Qve(S:Snt)(T:Snb)(x:Bb)(v:Value)(B:Nat)(w:World)(hS:Lds S w)(hT:Ldb T w)(h:RdX w B v x)(hB:B≤w.heap.size) :
  Calls Tryz.prog 24 #[v] w fun e w'=>Below w.heap.size w w'∧((Qgb x=true∧∃ v',e=.returned (.tuple #[v',.int .i64 0])∧Ob w' w.heap.size 5 v' (Qjh x))∨(Qgb x=false∧e=.returned (.tuple #[.slice none 0 0,.int .i64 100]))):=by
 have hx:=h;obtain⟨A,n,c,sc,s,nd,sv,At,nt,ct,rfl,-⟩:=h;have hB0:Below w.heap.size w (w.alloc (zo2 A n c sc s nd sv x.sco At nt ct)):=zb;have CK:=hid (Qka S T x _ B (w.alloc (zo2 A n c sc s nd sv x.sco At nt ct)) (hS.alloc _) (hT.alloc _) (hx.below (hB0.mono hB)) (Nat.le_trans hB hB0.size));have CW:=hid (fun (hr:Rgt x) (W:World) (hb:Below w.heap.size w W)=>Qj8 S x _ B W (hS.below hb zr) (hx.below (hb.mono hB)) (Nat.le_trans hB hb.size) hr);have CN:=hid (fun (t:ByteArray) (W:World) (hb:Below w.heap.size w W)=>Qmw T t W (hT.below hb zr));have q1:=fun (W:World) (u:TypeId) (x:Value)=>run_neq_iface_nil (P:=Tryz.prog) (w:=W) 53 (by kernel_rfl) u x
 obtain⟨so,hso⟩:∃ so,so=x.sco:=⟨_,rfl⟩
 rw[← hso] at hB0 CK CW
 rw[← hso]
 have HB0:=hid hB0;have HW0:Hid (Below (w.heap.size+1) (w.alloc (zo2 A n c sc s nd sv so At nt ct)) (w.alloc (zo2 A n c sc s nd sv so At nt ct))):=Below.refl _ _;have HS0:Hid ((w.alloc (zo2 A n c sc s nd sv so At nt ct)).heap.size=w.heap.size+1):=by show _=_;simp
 have HRW:=hid (fun (W:World) (hb:Below (w.heap.size+1) (w.alloc (zo2 A n c sc s nd sv so At nt ct)) W)=>Qad (w:=w) rfl hb);have HR:Hid (Qgb x=true→Rgt x):=Qb7.1;have HG:Hid (∀ (e:Ending) (w':World),Below w.heap.size w w'→((Qgb x=true∧∃ v',e=.returned (.tuple #[v',.int .i64 0])∧Ob w' w.heap.size 5 v' (Qjh x))∨(Qgb x=false∧e=.returned (.tuple #[.slice none 0 0,.int .i64 100])))→(Below w.heap.size w w'∧((Qgb x=true∧∃ v',e=.returned (.tuple #[v',.int .i64 0])∧Ob w' w.heap.size 5 v' (Qjh x))∨(Qgb x=false∧e=.returned (.tuple #[.slice none 0 0,.int .i64 100]))))):=fun _ _ h1 h2=>⟨h1,h2⟩
 clear hS hT hx hB hso hB0;unfold Qlh Qer at *;go_enter Tryz.func24,Tryz.ntmps24;go_wp2_with (first
  | (refine Qb8 rfl (.tmp 1) rfl _ rfl _ _ (HRW.out _ HW0.out) rfl ?_)
  | fail)
 refine CK.out.mono ?_;rintro e w1 ⟨hb,⟨hr,rfl⟩|⟨hr,t,rfl⟩⟩
 ·
  have B1:=hid (Below.push HW0.out (Nat.le_of_eq HS0.out.symm) hb);have T1:=hid (HB0.out.trans (B1.out.mono (Nat.le_succ _)));have R1:=hid (HRW.out _ B1.out);have HRR:=hid hr;clear hb hr;go_wp2_with (first
   | (refine Qb8 rfl (.tmp 1) rfl _ rfl _ _ R1.out rfl ?_)
   | fail)
  refine(CW.out (HR.out HRR.out) _ T1.out).mono ?_;rintro e w2 ⟨v2,rfl,hob,hb⟩;have O2:=hid (hob.low T1.out.size);have T2:=hid (T1.out.trans (hb.mono T1.out.size));clear hb hob;go_wp2_with fail;refine bodyPost_ret (v:=.tuple #[v2,.int .i64 0]) (by simp[results,Tryz.results24,go_sem]) rfl (HG.out _ _ T2.out (.inl ⟨HRR.out,v2,rfl,O2.out⟩))
 ·
  have B1:=hid (Below.push HW0.out (Nat.le_of_eq HS0.out.symm) hb);have T1:=hid (HB0.out.trans (B1.out.mono (Nat.le_succ _)));have HRR:=hid hr;have C3:=CN.out t _ T1.out;have C3:=hid C3;clear hb hr;unfold Qer;go_wp2_with fail;refine C3.out.mono ?_;rintro e w2 ⟨rfl,hb⟩;have T2:=hid (T1.out.trans (hb.mono T1.out.size));clear hb;go_wp2_with fail;refine bodyPost_ret (v:=.tuple #[.slice none 0 0,.int .i64 100]) (by simp[results,Tryz.results24,go_sem]) rfl (HG.out _ _ T2.out (.inr ⟨HRR.out,rfl⟩))
theorem Qx6{X:Itm}(h:Qkk X):X.list.length≤4096:=by
 obtain⟨k,n,d,l⟩:=X;have h1:=h.2.2;have h2:=Qdy l;rw[par] at h1
 show l.length≤4096;omega
def Q46(T:Snb)(bs:LB)(w:World)(e:Ending)(w':World):Prop:=Below w.heap.size w w' ∧
 ((∃ (L:List Itm) (r:LB) (g cap:Nat),Qg9 6 bs=some (L,r)∧e=.returned (.tuple #[.slice (some ⟨g,0,none⟩) 6 cap,.nilIface])∧g<w'.heap.size∧RdIs (Qap (Qax w.heap.size) w') w'.heap.size g 0 L∧L.length=6∧∀ y∈L,y.list.length≤4096) ∨
  (Qg9 6 bs=none∧∃ s,e=.returned (.tuple #[.slice none 0 0,Qer T.t s])))
theorem Qr5(T:Snb)(A:OA)(n c B:Nat)(bs:LB)(w:World)(hT:Ldb T w)(hL:LaidE w)(hB:B≤w.heap.size)(h:Rd w B A n bs)(hc:n≤c)(hn:n≤140737488355328) :
  Calls Tryz.prog 92 #[.slice A n c] w (Q46 T bs w):=by
 have HB:=hid hB;have HL:=hid (fun (W:World) (hb:Below w.heap.size w W)=>hL.below hb hL.lt);have CN:=hid (fun (t:ByteArray) (W:World) (hb:Below w.heap.size w W)=>Qeq T t W (hT.below hb zr));have H0:=hid (And.intro h (And.intro hc hn));obtain⟨i0,hi0,hz0,hz1,hz2⟩:=info_parts Qbr;have HI:=hid hi0;have HI0:=hid hz0;have HI1:=hid hz1;have HI2:=hid hz2;have HG:Hid (∀ (e:Ending) (w':World),Below w.heap.size w w'→((∃ (L:List Itm) (r:LB) (g cap:Nat),Qg9 6 bs=some (L,r)∧e=.returned (.tuple #[.slice (some ⟨g,0,none⟩) 6 cap,.nilIface])∧g<w'.heap.size∧RdIs (Qap (Qax w.heap.size) w') w'.heap.size g 0 L∧L.length=6∧∀ y∈L,y.list.length≤4096)∨(Qg9 6 bs=none∧∃ s,e=.returned (.tuple #[.slice none 0 0,Qer T.t s])))→Q46 T bs w e w'):=fun _ _ h1 h2=>⟨h1,h2⟩
 clear hT hL hB h hc hn hi0 hz0 hz1 hz2;go_enter Tryz.func92,Tryz.ntmps92;go_wp2_with fail;go_loopw [0,4,8] (fun s0 s4 s8 wl=>∃ (i:Nat) (L:List Itm) (A1:OA) (m c1:Nat) (b1:LB),i≤6∧s0=.slice A1 m c1∧s8=.int .i64 (i:Int)∧Hid (OwI 119 w.heap.size wl s4 L∧L.length=i∧∀ y∈L,y.list.length≤4096)∧Hid (Rd w B A1 m b1∧m≤c1∧m≤140737488355328)∧Hid (Qg9 6 bs=Qje L (Qg9 (6 - i) b1))∧Hid (Below w.heap.size w wl)) (fun _ _ s8 _=>6 - (intOf s8).toNat)
 case atStart=>exact⟨0,[],A,n,c,bs,by decide,rfl,rfl,⟨OwI.nil_,rfl,fun y hy=>by cases hy⟩,H0.out,by show _=Qje [] _;rw[Qt4],Below.refl _ _⟩
 case round =>
  obtain⟨i,L,A1,m,c1,b1,hi,rfl,rfl,HO,HR,HD,HT⟩:=hrel;by_cases hlt:i<6
  ·
   have hi1:(i:Int)<6:=by omega
   have hii:decide ((i:Int)<6)=true:=decide_eq_true (by omega);have CD:=hid (Qnh A1 m c1 B b1 wr (Nat.le_trans HB.out HT.out.size) (HR.out.1.below (HT.out.mono HB.out)) HR.out.2.2 HR.out.2.1 (HL.out _ HT.out));have hd6:Qg9 (6 - i) b1=Qg9 (5 - i+1) b1:=by rw[show 6 - i=5 - i+1 by omega]
   rw[hd6] at HD
   have hnx:6 - (i+1)=5 - i:=by omega
   have hcase:=Qm7 b1;obtain⟨X,hX⟩:∃ X,X=(Qba b1).1:=⟨_,rfl⟩
   obtain⟨N,hN⟩:∃ N,N=(Qba b1).2.1:=⟨_,rfl⟩
   obtain⟨z,hz⟩:∃ z,z=(Qba b1).2.2:=⟨_,rfl⟩
   rw[← hX,← hN,← hz] at CD
   have HX:=hid hX;have HN:=hid hN;have HZ:=hid hz;have HNX:=hid hnx;have HC:=hid hcase;clear hX hN hz hd6 hnx hcase;go_wp2_with fail;refine CD.out.mono ?_;rintro e w1 ⟨v,rfl,hv,hb⟩;obtain⟨k1,n1,A1,nd1,cd1,AL1,nl1,cl1,rfl⟩:=hv.unmask.form;have V1:=hid hv;have D1:=hid hb;clear hb hv CD;by_cases hz0:z=0
   ·
    have t1:(z != 0)=false:=by rw[hz0];rfl
    have hXF:Qkk X∧N=((wri X).length:Int)∧(wri X).length≤m∧b1.drop N.toNat=b1.drop (wri X).length:=by
     rcases HC.out with ⟨e,he,hd⟩|⟨x,r,hb1,hf,-,hd⟩
     ·
      have:=HZ.out;rw[hd] at this;simp only at this;omega
     ·
      have e1:=HX.out;have e2:=HN.out;rw[hd] at e1 e2
      simp only at e1 e2;subst e1;have hl:=HR.out.1.1;rw[hb1,List.length_append] at hl
      exact⟨hf,e2,by omega,by rw[e2,Int.toNat_natCast]⟩
    obtain⟨A3,c3,hsl,hle3,-,hr3⟩:=Q01 (P:=Tryz.prog) 29 5 Tryz.underlying29 (fun W=>by kernel_rfl) c1 HR.out.1 N (wri X).length hXF.2.1 hXF.2.2.1 HR.out.2.1;have HR3:Hid (Rd w B A3 (m - (wri X).length) (b1.drop (wri X).length)∧m - (wri X).length≤c3∧m - (wri X).length≤140737488355328):=⟨hr3,hle3,by have:=HR.out.2.2;omega⟩
    have HD3:Hid (Qg9 6 bs=Qje (L++[X]) (Qg9 (6 - (i+1)) (b1.drop (wri X).length))):=by
     show _=_;rw[HD.out,Qro L (5 - i) b1 (by rw[← HZ.out];exact hz0),← HX.out,← HN.out,hXF.2.2.2,HNX.out]
    have HXF:=hid hXF;obtain⟨cells,hown,hits⟩:=HO.out.1;have hll:=HO.out.2.1;rw[hll] at hown
    have OWN0:=hid hown;have ITS:=hid hits;have LL:=hid hll;have LM:=hid HO.out.2.2;have DA:Hid (Below w1.heap.size w1 (w1.alloc (zo1 k1 n1 A1 nd1 cd1 AL1 nl1 cl1))):=zb;have DB:Hid (Below w1.heap.size w1 ((w1.alloc (zo1 k1 n1 A1 nd1 cd1 AL1 nl1 cl1)).alloc (zo1 k1 n1 A1 nd1 cd1 AL1 nl1 cl1))):=DA.out.alloc DA.out.size _;have DW:Hid (Below wr.heap.size wr ((w1.alloc (zo1 k1 n1 A1 nd1 cd1 AL1 nl1 cl1)).alloc (zo1 k1 n1 A1 nd1 cd1 AL1 nl1 cl1))):=D1.out.trans (DB.out.mono D1.out.size);have XW:Hid (RdI (Qap (Qax wr.heap.size) ((w1.alloc (zo1 k1 n1 A1 nd1 cd1 AL1 nl1 cl1)).alloc (zo1 k1 n1 A1 nd1 cd1 AL1 nl1 cl1))) ((w1.alloc (zo1 k1 n1 A1 nd1 cd1 AL1 nl1 cl1)).alloc (zo1 k1 n1 A1 nd1 cd1 AL1 nl1 cl1)).heap.size (zv6 k1 n1 A1 nd1 cd1 AL1 nl1 cl1) X):=Qah V1.out DB.out
    have OWN:=hid (Qem OWN0.out DW.out);have ROW:Hid (∀ q u,([.int .i64 k1,.int .u64 (n1:Int),.slice A1 nd1 cd1,.slice AL1 nl1 cl1]:List Value)[q]?=some u→((w1.alloc (zo1 k1 n1 A1 nd1 cd1 AL1 nl1 cl1)).alloc (zo1 k1 n1 A1 nd1 cd1 AL1 nl1 cl1)).cell? ((⟨(w1.alloc (zo1 k1 n1 A1 nd1 cd1 AL1 nl1 cl1)).heap.size,0,none⟩:Addr).add q)=some u):=Qk2 rfl;have HSN:Hid ((w1.alloc (zo1 k1 n1 A1 nd1 cd1 AL1 nl1 cl1)).heap.size=w1.heap.size+1):=by show _=_;simp
    rw[HSN.out] at ROW
    have ONE:Hid (∀ u∈([.int .i64 k1,.int .u64 (n1:Int),.slice A1 nd1 cd1,.slice AL1 nl1 cl1]:List Value),u.oneCell'=true):=fun u hu=>List.all_eq_true.1 (show([.int .i64 k1,.int .u64 (n1:Int),.slice A1 nd1 cd1,.slice AL1 nl1 cl1]:List Value).all (·.oneCell')=true from rfl) u hu
    have BSZ:Hid (w.heap.size≤((w1.alloc (zo1 k1 n1 A1 nd1 cd1 AL1 nl1 cl1)).alloc (zo1 k1 n1 A1 nd1 cd1 AL1 nl1 cl1)).heap.size):=Nat.le_trans HT.out.size DW.out.size;obtain⟨m0,m1,m2,m3⟩:=Qcx (w:=w1) (Below.refl _ (w1.alloc (zo1 k1 n1 A1 nd1 cd1 AL1 nl1 cl1)));generalize (wri X).length=NW at *;generalize b1.drop NW=b3 at *;generalize m - NW=m3' at *;clear hXF hr3 hle3 hown hits hll HO HR HD V1 DA DB HX HN HZ HC;go_wp2_with (first
     | (at_builtin;refine wpList_append_lies _ rfl (.tmp 19) (.tmp 21) 80 rfl w.heap.size 119 i0 _ 4 64 Tryz.underlying80 HI.out HI0.out HI1.out HI2.out rfl (by decide) u4 i cells rfl OWN.out ⟨_,0,none⟩ 1 1 _ rfl rfl ROW.out ONE.out (by decide) (by unfold maxLen;omega) (by omega) BSZ.out _ rfl ?_;intro g2 cap2 w3 ho3 hg3 hat hlt3;have O3:=hid ho3;have G3:=hid hg3;have AT:=hid hat;clear ho3 hg3 hat hlt3 m0 m1 m2 m3)
     | fail)
    have PUSH:=hid (OwI.push (base:=w.heap.size) (by rw[LL.out];exact OWN0.out) ITS.out (x:=X) XW.out DW.out (by rw[LL.out]) O3.out G3.out (Qqg rfl AT.out) HT.out.size);have BEL:=hid (HT.out.trans (Qis OWN0.out DW.out G3.out HT.out.size));clear OWN0 ITS OWN O3 G3 AT XW ROW ONE DW;go_roundw
    case rel=>exact⟨i+1,L++[X],A3,m3',c3,b3,by omega,rfl,by go_num,⟨PUSH.out,by rw[List.length_append,LL.out];rfl,fun y hy=>by rcases List.mem_append.1 hy with h|h;exact LM.out y h;rw[List.mem_singleton.1 h];exact Qx6 HXF.out.1⟩,HR3.out,HD3.out,BEL.out⟩
    case measure=>simp[intOf];omega
   ·
    have t1:(z != 0)=true:=by rw[bne_iff_ne];exact hz0
    have HD3:Hid (Qg9 6 bs=none):=by
     show _=_;rw[HD.out]
     exact Qrp L (5 - i) b1 (by rw[← HZ.out];exact hz0)
    have TW:Hid (Below w.heap.size w (w1.alloc (zo1 k1 n1 A1 nd1 cd1 AL1 nl1 cl1))):=(HT.out.trans (D1.out.mono HT.out.size)).alloc (Nat.le_trans HT.out.size D1.out.size) _;have CN2:=hid (fun t=>CN.out t _ TW.out);clear HO HR HD V1 HX HN HZ HC hz0;unfold Qer at *;go_wp2_with fail;refine(CN2.out _).mono ?_;rintro e w4 ⟨rfl,hb⟩;have T4:=hid (TW.out.trans (hb.mono TW.out.size));clear hb;go_wp2_with fail
    (try rw[Exit.noGoto_ret]);refine bodyPost_ret (v:=.tuple #[.slice none 0 0,Qer T.t _]) (by simp[results,Tryz.results92,go_sem,Qer];rfl) rfl (HG.out _ _ T4.out (.inr ⟨HD3.out,_,rfl⟩))
  ·
   obtain rfl:i=6:=by omega
   have hii:decide (((6:Nat):Int)<6)=false:=decide_eq_false (by omega);obtain⟨g,cap,rfl,hg1,hg2,hcap,hris⟩:=HO.out.1.lie (n:=6) HO.out.2.1 (by decide);have HE:Hid (Qg9 6 bs=some (L,b1)):=by
    show _=_;rw[HD.out]
    show Qje L (some ([],b1))=_;simp[Qje]
   have HRI:=hid hris;have HGS:=hid hg2;have HLL:=hid HO.out.2;have HTT:=hid HT.out;clear hg1 hg2 hcap hris HO HR HD HT;go_wp2_with fail;refine bodyPost_ret (v:=.tuple #[.slice (some ⟨g,0,none⟩) 6 cap,.nilIface]) (by simp[results,Tryz.results92,go_sem]) rfl (HG.out _ _ HTT.out (.inl ⟨L,b1,g,cap,HE.out,rfl,HGS.out,HRI.out,HLL.out.1,HLL.out.2⟩))
end Go.Proofs.YtbnfkjkoinbkgaaGreatDoor
