import Derived.Test.YtbnfkjkoinbkgaaGreatDoorVAbb
import Derived.Test.YtbnfkjkoinbkgaaGreatDoorVBunB
import Derived.Test.YtbnfkjkoinbkgaaGreatDoorVShaP
namespace Go.Proofs.YtbnfkjkoinbkgaaGreatDoor
set_option maxRecDepth 100000
set_option maxHeartbeats 16000000
open Go.RowKit
open Go.Lib (hid)
theorem Qj0(h:BH)(l:List Blk):Qfw (h.bun l)=(decide (0≤h.crc∧h.crc≤2)&&((Qag h.dst&&(Qag h.src&&Qag h.rep))&&((!(Qby h.dst))&&(!(Qby h.src && !(Qgv h.flg)))))):=rfl
theorem Qny(S:Snt)(h:BH)(l:List Blk)(A:OA)(n c:Nat)(w:World)(hS:Wd S w)(hd:h.Bd) :
  Calls Tryz.prog 87 #[Qbl h A n c] w (Q3l (if Qfw (h.bun l)=true then 0 else 60) w):=by
 have HB0:=hid ((Below.refl w.heap.size w).alloc zr (hbx h h.crc A n c));have HW0:Hid (Below (w.heap.size+1) (w.alloc (hbx h h.crc A n c)) (w.alloc (hbx h h.crc A n c))):=Below.refl _ _;have HX:=hid (fun (W:World) (hb:Below (w.heap.size+1) (w.alloc (hbx h h.crc A n c)) W)=>Qpf rfl hb);have HL:Hid (∀ W,Below (w.heap.size+1) (w.alloc (hbx h h.crc A n c)) W→Lds S W):=fun W hb=>(hS.lds.alloc _).below hb (by simp)
 have K1:=hid (fun W hb=>Qe2 S h.dsc h.dnm h.dn h.dv W (HL.out W hb) hd.dnm);have K2:=hid (fun W hb=>Qe2 S h.ssc h.snm h.sn h.sv W (HL.out W hb) hd.snm);have K3:=hid (fun W hb=>Qe2 S h.rsc h.rnm h.rn h.rv W (HL.out W hb) hd.rnm);have N1:=hid (fun W=>Qhf h.dsc h.dnm h.dn h.dv W);have N2:=hid (fun W=>Qhf h.ssc h.snm h.sn h.sv W);have HS:Hid ((w.alloc (hbx h h.crc A n c)).heap.size=w.heap.size+1):=by show _=_;simp
 have HE:Hid (∀ (z:Int) W e,Below (w.heap.size+1) (w.alloc (hbx h h.crc A n c)) W→(z=0∧e=.returned .nilIface∨z≠0∧∃ s,e=.returned (ufl z s))→Q3l z w e W):=fun z W e hb hh=>⟨HB0.out.trans (hb.mono (Nat.le_succ _)),hh⟩
 have CN:=hid Qlw;rw[Qj0]
 have e1:Qag (ep h.dsc h.dnm h.dn h.dv)=Qag h.dst:=rfl;have e2:Qag (ep h.ssc h.snm h.sn h.sv)=Qag h.src:=rfl;have e3:Qag (ep h.rsc h.rnm h.rn h.rv)=Qag h.rep:=rfl;have e4:Qby (ep h.dsc h.dnm h.dn h.dv)=Qby h.dst:=rfl;have e5:Qby (ep h.ssc h.snm h.sn h.sv)=Qby h.src:=rfl;rw[e1] at K1
 rw[e2] at K2
 rw[e3] at K3
 rw[e4] at N1
 rw[e5] at N2
 have hwh:(bits BinOp.and IntKind.u64 (h.flg:Int) 475140 != 4) = !(Qgv h.flg):=rfl;generalize Qag h.dst=c1 at *;generalize Qag h.src=c2 at *;generalize Qag h.rep=c3 at *;generalize Qby h.dst=n1 at *;generalize Qby h.src=n2 at *;generalize Qgv h.flg=wh at *;have H0:Hid (∀ b:Bool,b=false→(if b=true then (0:Int) else 60)=60):=fun b hb=>by rw[hb];rfl
 obtain⟨Z,hZ⟩:∃ Z,Z=(if (decide (0≤h.crc∧h.crc≤2)&&((c1&&(c2&&c3))&&((!n1)&&(!(n2 && !wh)))))=true then (0:Int) else 60):=⟨_,rfl⟩
 rw[← hZ]
 clear e1 e2 e3 e4 e5 hS hd;unfold Qbl Qbq at *;by_cases h1:h.crc<0
 ·
  have hz:Z=60:=by rw[hZ,decide_eq_false (by omega)];rfl
  clear hZ hwh;subst hz;go_enter Tryz.func87,Tryz.ntmps87;go_wp2_with (first
   | (go_at_call 122;refine(CN.out _ _).mono ?_;rintro e w1 ⟨rfl,rfl⟩)
   | (go_at_call 83;(first|(with_reducible refine(K1.out _ HW0.out).mono ?_)|(with_reducible refine(K2.out _ HW0.out).mono ?_)|(with_reducible refine(K3.out _ HW0.out).mono ?_));rintro e w1 ⟨rfl,hb⟩;have HW1:=hid (Below.push HW0.out (Nat.le_of_eq HS.out.symm) hb);(try clear x0 x1 x2 x3 x4 x5 x6 x7 x8 x9 x10 x11 x12 x13 x14 x15 x16 x17);clear hb HW0;obtain⟨x0,x1,x2,x3,x4,x5,x6,x7,x8,x9,x10,x11,x12,x13,x14,x15,x16,x17⟩:=HX.out _ HW1.out;have HW0:=HW1;clear HW1)
   | (go_at_call 84;(first|(with_reducible refine(N1.out _).mono ?_)|(with_reducible refine(N2.out _).mono ?_));rintro e w1 ⟨rfl,hb⟩;have HW1:=hid (Below.push HW0.out (Nat.le_of_eq HS.out.symm) hb);(try clear x0 x1 x2 x3 x4 x5 x6 x7 x8 x9 x10 x11 x12 x13 x14 x15 x16 x17);clear hb HW0;obtain⟨x0,x1,x2,x3,x4,x5,x6,x7,x8,x9,x10,x11,x12,x13,x14,x15,x16,x17⟩:=HX.out _ HW1.out;have HW0:=HW1;clear HW1)
   | fail)
  go_ret;exact HE.out _ _ _ HW0.out (.inr ⟨by decide,_,rfl⟩)
 have h1':decide (h.crc<0)=false:=decide_eq_false h1;by_cases h2:2<h.crc
 ·
  have hz:Z=60:=by rw[hZ,decide_eq_false (by omega)];rfl
  clear hZ hwh;subst hz;go_enter Tryz.func87,Tryz.ntmps87;go_wp2_with (first
   | (go_at_call 122;refine(CN.out _ _).mono ?_;rintro e w1 ⟨rfl,rfl⟩)
   | (go_at_call 83;(first|(with_reducible refine(K1.out _ HW0.out).mono ?_)|(with_reducible refine(K2.out _ HW0.out).mono ?_)|(with_reducible refine(K3.out _ HW0.out).mono ?_));rintro e w1 ⟨rfl,hb⟩;have HW1:=hid (Below.push HW0.out (Nat.le_of_eq HS.out.symm) hb);(try clear x0 x1 x2 x3 x4 x5 x6 x7 x8 x9 x10 x11 x12 x13 x14 x15 x16 x17);clear hb HW0;obtain⟨x0,x1,x2,x3,x4,x5,x6,x7,x8,x9,x10,x11,x12,x13,x14,x15,x16,x17⟩:=HX.out _ HW1.out;have HW0:=HW1;clear HW1)
   | (go_at_call 84;(first|(with_reducible refine(N1.out _).mono ?_)|(with_reducible refine(N2.out _).mono ?_));rintro e w1 ⟨rfl,hb⟩;have HW1:=hid (Below.push HW0.out (Nat.le_of_eq HS.out.symm) hb);(try clear x0 x1 x2 x3 x4 x5 x6 x7 x8 x9 x10 x11 x12 x13 x14 x15 x16 x17);clear hb HW0;obtain⟨x0,x1,x2,x3,x4,x5,x6,x7,x8,x9,x10,x11,x12,x13,x14,x15,x16,x17⟩:=HX.out _ HW1.out;have HW0:=HW1;clear HW1)
   | fail)
  go_ret;exact HE.out _ _ _ HW0.out (.inr ⟨by decide,_,rfl⟩)
 have h2':decide (2<h.crc)=false:=decide_eq_false h2;rw[decide_eq_true (by omega),Bool.true_and] at hZ
 cases c1 with
 | false =>
  have hz:Z=60:=by rw[hZ];rfl
  clear hZ hwh;subst hz;go_enter Tryz.func87,Tryz.ntmps87;go_wp2_with (first
   | (go_at_call 122;refine(CN.out _ _).mono ?_;rintro e w1 ⟨rfl,rfl⟩)
   | (go_at_call 83;(first|(with_reducible refine(K1.out _ HW0.out).mono ?_)|(with_reducible refine(K2.out _ HW0.out).mono ?_)|(with_reducible refine(K3.out _ HW0.out).mono ?_));rintro e w1 ⟨rfl,hb⟩;have HW1:=hid (Below.push HW0.out (Nat.le_of_eq HS.out.symm) hb);(try clear x0 x1 x2 x3 x4 x5 x6 x7 x8 x9 x10 x11 x12 x13 x14 x15 x16 x17);clear hb HW0;obtain⟨x0,x1,x2,x3,x4,x5,x6,x7,x8,x9,x10,x11,x12,x13,x14,x15,x16,x17⟩:=HX.out _ HW1.out;have HW0:=HW1;clear HW1)
   | (go_at_call 84;(first|(with_reducible refine(N1.out _).mono ?_)|(with_reducible refine(N2.out _).mono ?_));rintro e w1 ⟨rfl,hb⟩;have HW1:=hid (Below.push HW0.out (Nat.le_of_eq HS.out.symm) hb);(try clear x0 x1 x2 x3 x4 x5 x6 x7 x8 x9 x10 x11 x12 x13 x14 x15 x16 x17);clear hb HW0;obtain⟨x0,x1,x2,x3,x4,x5,x6,x7,x8,x9,x10,x11,x12,x13,x14,x15,x16,x17⟩:=HX.out _ HW1.out;have HW0:=HW1;clear HW1)
   | fail)
  go_ret;exact HE.out _ _ _ HW0.out (.inr ⟨by decide,_,rfl⟩)
 | true =>
 cases c2 with
 | false =>
  have hz:Z=60:=by rw[hZ];rfl
  clear hZ hwh;subst hz;go_enter Tryz.func87,Tryz.ntmps87;go_wp2_with (first
   | (go_at_call 122;refine(CN.out _ _).mono ?_;rintro e w1 ⟨rfl,rfl⟩)
   | (go_at_call 83;(first|(with_reducible refine(K1.out _ HW0.out).mono ?_)|(with_reducible refine(K2.out _ HW0.out).mono ?_)|(with_reducible refine(K3.out _ HW0.out).mono ?_));rintro e w1 ⟨rfl,hb⟩;have HW1:=hid (Below.push HW0.out (Nat.le_of_eq HS.out.symm) hb);(try clear x0 x1 x2 x3 x4 x5 x6 x7 x8 x9 x10 x11 x12 x13 x14 x15 x16 x17);clear hb HW0;obtain⟨x0,x1,x2,x3,x4,x5,x6,x7,x8,x9,x10,x11,x12,x13,x14,x15,x16,x17⟩:=HX.out _ HW1.out;have HW0:=HW1;clear HW1)
   | (go_at_call 84;(first|(with_reducible refine(N1.out _).mono ?_)|(with_reducible refine(N2.out _).mono ?_));rintro e w1 ⟨rfl,hb⟩;have HW1:=hid (Below.push HW0.out (Nat.le_of_eq HS.out.symm) hb);(try clear x0 x1 x2 x3 x4 x5 x6 x7 x8 x9 x10 x11 x12 x13 x14 x15 x16 x17);clear hb HW0;obtain⟨x0,x1,x2,x3,x4,x5,x6,x7,x8,x9,x10,x11,x12,x13,x14,x15,x16,x17⟩:=HX.out _ HW1.out;have HW0:=HW1;clear HW1)
   | fail)
  go_ret;exact HE.out _ _ _ HW0.out (.inr ⟨by decide,_,rfl⟩)
 | true =>
 cases c3 with
 | false =>
  have hz:Z=60:=by rw[hZ];rfl
  clear hZ hwh;subst hz;go_enter Tryz.func87,Tryz.ntmps87;go_wp2_with (first
   | (go_at_call 122;refine(CN.out _ _).mono ?_;rintro e w1 ⟨rfl,rfl⟩)
   | (go_at_call 83;(first|(with_reducible refine(K1.out _ HW0.out).mono ?_)|(with_reducible refine(K2.out _ HW0.out).mono ?_)|(with_reducible refine(K3.out _ HW0.out).mono ?_));rintro e w1 ⟨rfl,hb⟩;have HW1:=hid (Below.push HW0.out (Nat.le_of_eq HS.out.symm) hb);(try clear x0 x1 x2 x3 x4 x5 x6 x7 x8 x9 x10 x11 x12 x13 x14 x15 x16 x17);clear hb HW0;obtain⟨x0,x1,x2,x3,x4,x5,x6,x7,x8,x9,x10,x11,x12,x13,x14,x15,x16,x17⟩:=HX.out _ HW1.out;have HW0:=HW1;clear HW1)
   | (go_at_call 84;(first|(with_reducible refine(N1.out _).mono ?_)|(with_reducible refine(N2.out _).mono ?_));rintro e w1 ⟨rfl,hb⟩;have HW1:=hid (Below.push HW0.out (Nat.le_of_eq HS.out.symm) hb);(try clear x0 x1 x2 x3 x4 x5 x6 x7 x8 x9 x10 x11 x12 x13 x14 x15 x16 x17);clear hb HW0;obtain⟨x0,x1,x2,x3,x4,x5,x6,x7,x8,x9,x10,x11,x12,x13,x14,x15,x16,x17⟩:=HX.out _ HW1.out;have HW0:=HW1;clear HW1)
   | fail)
  go_ret;exact HE.out _ _ _ HW0.out (.inr ⟨by decide,_,rfl⟩)
 | true =>
 cases n1 with
 | true =>
  have hz:Z=60:=by rw[hZ];rfl
  clear hZ hwh;subst hz;go_enter Tryz.func87,Tryz.ntmps87;go_wp2_with (first
   | (go_at_call 122;refine(CN.out _ _).mono ?_;rintro e w1 ⟨rfl,rfl⟩)
   | (go_at_call 83;(first|(with_reducible refine(K1.out _ HW0.out).mono ?_)|(with_reducible refine(K2.out _ HW0.out).mono ?_)|(with_reducible refine(K3.out _ HW0.out).mono ?_));rintro e w1 ⟨rfl,hb⟩;have HW1:=hid (Below.push HW0.out (Nat.le_of_eq HS.out.symm) hb);(try clear x0 x1 x2 x3 x4 x5 x6 x7 x8 x9 x10 x11 x12 x13 x14 x15 x16 x17);clear hb HW0;obtain⟨x0,x1,x2,x3,x4,x5,x6,x7,x8,x9,x10,x11,x12,x13,x14,x15,x16,x17⟩:=HX.out _ HW1.out;have HW0:=HW1;clear HW1)
   | (go_at_call 84;(first|(with_reducible refine(N1.out _).mono ?_)|(with_reducible refine(N2.out _).mono ?_));rintro e w1 ⟨rfl,hb⟩;have HW1:=hid (Below.push HW0.out (Nat.le_of_eq HS.out.symm) hb);(try clear x0 x1 x2 x3 x4 x5 x6 x7 x8 x9 x10 x11 x12 x13 x14 x15 x16 x17);clear hb HW0;obtain⟨x0,x1,x2,x3,x4,x5,x6,x7,x8,x9,x10,x11,x12,x13,x14,x15,x16,x17⟩:=HX.out _ HW1.out;have HW0:=HW1;clear HW1)
   | fail)
  go_ret;exact HE.out _ _ _ HW0.out (.inr ⟨by decide,_,rfl⟩)
 | false =>
 cases n2 with
 | false =>
  have hz:Z=0:=by rw[hZ];rfl
  clear hZ hwh;subst hz;go_enter Tryz.func87,Tryz.ntmps87;go_wp2_with (first
   | (go_at_call 122;refine(CN.out _ _).mono ?_;rintro e w1 ⟨rfl,rfl⟩)
   | (go_at_call 83;(first|(with_reducible refine(K1.out _ HW0.out).mono ?_)|(with_reducible refine(K2.out _ HW0.out).mono ?_)|(with_reducible refine(K3.out _ HW0.out).mono ?_));rintro e w1 ⟨rfl,hb⟩;have HW1:=hid (Below.push HW0.out (Nat.le_of_eq HS.out.symm) hb);(try clear x0 x1 x2 x3 x4 x5 x6 x7 x8 x9 x10 x11 x12 x13 x14 x15 x16 x17);clear hb HW0;obtain⟨x0,x1,x2,x3,x4,x5,x6,x7,x8,x9,x10,x11,x12,x13,x14,x15,x16,x17⟩:=HX.out _ HW1.out;have HW0:=HW1;clear HW1)
   | (go_at_call 84;(first|(with_reducible refine(N1.out _).mono ?_)|(with_reducible refine(N2.out _).mono ?_));rintro e w1 ⟨rfl,hb⟩;have HW1:=hid (Below.push HW0.out (Nat.le_of_eq HS.out.symm) hb);(try clear x0 x1 x2 x3 x4 x5 x6 x7 x8 x9 x10 x11 x12 x13 x14 x15 x16 x17);clear hb HW0;obtain⟨x0,x1,x2,x3,x4,x5,x6,x7,x8,x9,x10,x11,x12,x13,x14,x15,x16,x17⟩:=HX.out _ HW1.out;have HW0:=HW1;clear HW1)
   | fail)
  go_ret;exact HE.out _ _ _ HW0.out (.inl ⟨rfl,rfl⟩)
 | true =>
 cases wh with
 | true =>
  have hz:Z=0:=by rw[hZ];rfl
  clear hZ;subst hz;go_enter Tryz.func87,Tryz.ntmps87;go_wp2_with (first
   | (go_at_call 122;refine(CN.out _ _).mono ?_;rintro e w1 ⟨rfl,rfl⟩)
   | (go_at_call 83;(first|(with_reducible refine(K1.out _ HW0.out).mono ?_)|(with_reducible refine(K2.out _ HW0.out).mono ?_)|(with_reducible refine(K3.out _ HW0.out).mono ?_));rintro e w1 ⟨rfl,hb⟩;have HW1:=hid (Below.push HW0.out (Nat.le_of_eq HS.out.symm) hb);(try clear x0 x1 x2 x3 x4 x5 x6 x7 x8 x9 x10 x11 x12 x13 x14 x15 x16 x17);clear hb HW0;obtain⟨x0,x1,x2,x3,x4,x5,x6,x7,x8,x9,x10,x11,x12,x13,x14,x15,x16,x17⟩:=HX.out _ HW1.out;have HW0:=HW1;clear HW1)
   | (go_at_call 84;(first|(with_reducible refine(N1.out _).mono ?_)|(with_reducible refine(N2.out _).mono ?_));rintro e w1 ⟨rfl,hb⟩;have HW1:=hid (Below.push HW0.out (Nat.le_of_eq HS.out.symm) hb);(try clear x0 x1 x2 x3 x4 x5 x6 x7 x8 x9 x10 x11 x12 x13 x14 x15 x16 x17);clear hb HW0;obtain⟨x0,x1,x2,x3,x4,x5,x6,x7,x8,x9,x10,x11,x12,x13,x14,x15,x16,x17⟩:=HX.out _ HW1.out;have HW0:=HW1;clear HW1)
   | fail)
  go_ret;exact HE.out _ _ _ HW0.out (.inl ⟨rfl,rfl⟩)
 | false =>
  have hz:Z=60:=by rw[hZ];rfl
  clear hZ;subst hz;go_enter Tryz.func87,Tryz.ntmps87;go_wp2_with (first
   | (go_at_call 122;refine(CN.out _ _).mono ?_;rintro e w1 ⟨rfl,rfl⟩)
   | (go_at_call 83;(first|(with_reducible refine(K1.out _ HW0.out).mono ?_)|(with_reducible refine(K2.out _ HW0.out).mono ?_)|(with_reducible refine(K3.out _ HW0.out).mono ?_));rintro e w1 ⟨rfl,hb⟩;have HW1:=hid (Below.push HW0.out (Nat.le_of_eq HS.out.symm) hb);(try clear x0 x1 x2 x3 x4 x5 x6 x7 x8 x9 x10 x11 x12 x13 x14 x15 x16 x17);clear hb HW0;obtain⟨x0,x1,x2,x3,x4,x5,x6,x7,x8,x9,x10,x11,x12,x13,x14,x15,x16,x17⟩:=HX.out _ HW1.out;have HW0:=HW1;clear HW1)
   | (go_at_call 84;(first|(with_reducible refine(N1.out _).mono ?_)|(with_reducible refine(N2.out _).mono ?_));rintro e w1 ⟨rfl,hb⟩;have HW1:=hid (Below.push HW0.out (Nat.le_of_eq HS.out.symm) hb);(try clear x0 x1 x2 x3 x4 x5 x6 x7 x8 x9 x10 x11 x12 x13 x14 x15 x16 x17);clear hb HW0;obtain⟨x0,x1,x2,x3,x4,x5,x6,x7,x8,x9,x10,x11,x12,x13,x14,x15,x16,x17⟩:=HX.out _ HW1.out;have HW0:=HW1;clear HW1)
   | fail)
  go_ret;exact HE.out _ _ _ HW0.out (.inr ⟨by decide,_,rfl⟩)
end Go.Proofs.YtbnfkjkoinbkgaaGreatDoor
