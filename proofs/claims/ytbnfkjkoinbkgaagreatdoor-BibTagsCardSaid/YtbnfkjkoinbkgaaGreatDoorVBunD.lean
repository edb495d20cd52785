import Derived.Test.YtbnfkjkoinbkgaaGreatDoorVAbb
import Derived.Test.YtbnfkjkoinbkgaaGreatDoorVBunC
namespace Go.Proofs.YtbnfkjkoinbkgaaGreatDoor
set_option maxRecDepth 100000
set_option maxHeartbeats 16000000
open Go.RowKit
open Go.Lib (hid)
theorem Qpo(W:World):(sizeOf 43).run Tryz.prog W=.ok 5 W:=Tryz.sizeOf43 W
theorem Q2h(A:OA)(n c k:Nat)(hk:k≤n)(hc:n≤c)(h0:0<c)(W:World):(Instr.slice 26 (.slice A n c) none (some (.int .i64 (k:Int))) none).run Tryz.prog W=.ok (.slice A k c) W:=by
 have hz:=Qpo;have ht:=Tryz.underlying26;have hkc:k≤c:=by omega
 have hne:¬ c=0:=by omega
 go_simp
theorem Qqh(l:List Blk)(i n:Nat)(hn:l.length=n)(hi:i<n) :
  frm (l.take i) (l.drop i)=(Qdj (l[i]'(by omega))&&((decide ((l[i]'(by omega)).typ=1)==decide (i+1=n))&&((!((l.take i).any (Qbu (l[i]'(by omega)).num)))&&((!(Qcl (l[i]'(by omega)).typ&&(l.take i).any (Qdf (l[i]'(by omega)).typ)))&&frm (l.take (i+1)) (l.drop (i+1)))))):=by
 have hil:i<l.length:=by omega
 rw[List.drop_eq_getElem_cons hil,frm,← List.take_succ_eq_append_getElem hil]
 have he:(l.drop (i+1)).isEmpty=decide (i+1=n):=by
  rw[Bool.eq_iff_iff,List.isEmpty_iff,List.drop_eq_nil_iff,decide_eq_true_eq]
  omega
 rw[he]
 rfl
theorem Qnz(A:OA)(n c B:Nat)(l:List Blk)(w:World)(h:RdL w B A n l)(hB:B≤w.heap.size)(hc:n≤c) :
  Calls Tryz.prog 88 #[.slice A n c] w (Q3l (if Qcy l=true then 0 else 60) w):=by
 have CN:=hid Qlw;have hl:=h.1;by_cases hn:1≤n∧n≤16
 ·
  obtain⟨h1,h16⟩:=hn;have hR0:Qcy l=frm [] l:=by unfold Qcy;rw[decide_eq_true (by omega),Bool.true_and]
  rw[hR0]
  obtain⟨R,hR⟩:∃ R,R=frm [] l:=⟨_,rfl⟩
  rw[← hR]
  obtain⟨Z,hZ⟩:∃ Z:Int,Z=if R=true then (0:Int) else 60:=⟨_,rfl⟩
  rw[← hZ]
  obtain⟨M,hM⟩:∃ M,n=M+1:=⟨n - 1,by omega⟩
  have hM1:(n:Int) - 1=(M:Int):=by omega
  have HM:=hid hM;have HH:=hid h;have HB0:=hid hB;have HR:=hid hR;have HZ:=hid hZ;have HC:=hid hc;clear hR hZ h hB hM hc hR0 hl;have t1:decide ((n:Int)<1)=false:=decide_eq_false (by omega);have t2:decide ((16:Int)<(n:Int))=false:=decide_eq_false (by omega);go_enter Tryz.func88,Tryz.ntmps88;go_wp2_with fail;go_loopw [21] (fun v wl=>∃ i:Nat,i≤n∧v=.int .i64 (i:Int)∧Hid (Below w.heap.size w wl)∧Hid (frm (l.take i) (l.drop i)=R)) (fun v _=>n - (intOf v).toNat)
  case atStart=>exact⟨0,Nat.zero_le _,rfl,Below.refl _ _,HR.out.symm⟩
  case round =>
   obtain⟨i,hi,rfl,HB,HP⟩:=hrel;by_cases hlt:i<n
   ·
    have hil:i<l.length:=by rw[HH.out.1];exact hlt
    obtain⟨b,o,hA,hbB,hks⟩:=HH.out.2.1 (by omega);obtain⟨A1,nd,cd,hk⟩:=hks.get i hil;have hk2:=hk.below (HB.out.mono HB0.out) hbB;have hp:=Qqh l i n HH.out.1 hlt;rw[HP.out] at hp
    have hcut:=Q2h A n c i (Nat.le_of_lt hlt) HC.out (by have:=HC.out;omega);have hRL:RdL wr B A i (l.take i):=(HH.out.below (HB.out.mono HB0.out)).take i (Nat.le_of_lt hlt);generalize l[i]=x at *;have g0:=hk2.k0;have g1:=hk2.k1;have g2:=hk2.k2;have g3:=hk2.k3;have g4:=hk2.k4;have hBr:B≤wr.heap.size:=Nat.le_trans HB0.out HB.out.size;have HS:Hid ((wr.alloc (zo4 x.typ x.num x.flg x.crc A1 nd cd)).heap.size=wr.heap.size+1):=by show _=_;simp
    have HW0:Hid (Below (wr.heap.size+1) (wr.alloc (zo4 x.typ x.num x.flg x.crc A1 nd cd)) (wr.alloc (zo4 x.typ x.num x.flg x.crc A1 nd cd))):=Below.refl _ _;have HX:=hid (fun (W:World) (hb:Below (wr.heap.size+1) (wr.alloc (zo4 x.typ x.num x.flg x.crc A1 nd cd)) W)=>Q21 rfl hb);have HBB:Hid (∀ W,Below (wr.heap.size+1) (wr.alloc (zo4 x.typ x.num x.flg x.crc A1 nd cd)) W→Below wr.heap.size wr W):=fun W hb=>zb.trans (hb.mono (Nat.le_succ _))
    have KB:=hid (fun W=>Qpg x.typ x.num x.flg x.crc A1 nd cd x.dat W hk.rd.1);have KP:=hid (fun (W:World) (hb:Below wr.heap.size wr W)=>Qmf A i c B x.num (l.take i) W (hRL.below (hb.mono hBr)) (Nat.le_trans hBr hb.size));have KT:=hid (fun (W:World) (hb:Below wr.heap.size wr W)=>Qo3 A i c B x.typ (l.take i) W (hRL.below (hb.mono hBr)) (Nat.le_trans hBr hb.size));have KS:=hid (fun W=>Qrc x.typ W);have eob:(⟨x.typ,x.num,x.flg,x.crc,x.dat⟩:Blk)=x:=rfl;rw[eob] at KB
    have ha1:=Qt5 (Qbu x.num) (l.take i) 0;generalize plc (Qbu x.num) (l.take i) 0=P at *;generalize (l.take i).any (Qbu x.num)=a1 at *;generalize (l.take i).any (Qdf x.typ)=a2 at *;generalize Qcl x.typ=s1 at *;generalize Qdj x=o1 at *;obtain⟨R',hR'⟩:∃ R',R'=frm (l.take (i+1)) (l.drop (i+1)):=⟨_,rfl⟩
    rw[← hR'] at hp
    have HR':=hid hR';clear hR';have hbi:((i:Int)==(M:Int))=decide (i+1=n):=by rw[Bool.eq_iff_iff];simp;have:=HM.out;omega
    have hbt:((x.typ:Int)==1)=decide (x.typ=1):=by rw[Bool.eq_iff_iff];simp;omega
    generalize decide (i+1=n)=bi at *;generalize decide (x.typ=1)=bt at *;have HPR:=hid hp;have HRL:=hid hRL;clear hp hRL hk hk2 hks eob hbB hBr;subst hA;have fin:Hid (R=false→Z=60):=fun hr=>by rw[HZ.out,hr];rfl
    cases o1 with
    | false =>
     have hz:Z=60:=fin.out (by rw[HPR.out];rfl);clear fin HZ;subst hz;go_wp2_with (first
      | (go_at_call 122;refine(CN.out _ _).mono ?_;rintro e w1 ⟨rfl,rfl⟩)
      | (go_at_call 123;refine(KB.out _).mono ?_;rintro e w1 ⟨rfl,hb⟩;have HW1:=hid (Below.push HW0.out (Nat.le_of_eq HS.out.symm) hb);(try clear x0 x1 x2 x3 x4);clear hb HW0;obtain⟨x0,x1,x2,x3,x4⟩:=HX.out _ HW1.out;have HW0:=HW1;clear HW1)
      | (go_at_call 51;refine(KP.out _ (HBB.out _ HW0.out)).mono ?_;rintro e w1 ⟨rfl,hb⟩;have HW1:=hid (Below.push HW0.out (Nat.le_of_eq HS.out.symm) hb);(try clear x0 x1 x2 x3 x4);clear hb HW0;obtain⟨x0,x1,x2,x3,x4⟩:=HX.out _ HW1.out;have HW0:=HW1;clear HW1)
      | (go_at_call 124;refine(KS.out _).mono ?_;rintro e w1 ⟨rfl,rfl⟩)
      | (go_at_call 125;refine(KT.out _ (HBB.out _ HW0.out)).mono ?_;rintro e w1 ⟨rfl,hb⟩;have HW1:=hid (Below.push HW0.out (Nat.le_of_eq HS.out.symm) hb);(try clear x0 x1 x2 x3 x4);clear hb HW0;obtain⟨x0,x1,x2,x3,x4⟩:=HX.out _ HW1.out;have HW0:=HW1;clear HW1)
      | fail)
     go_ret;exact⟨HB.out.trans ((HBB.out _ HW0.out).mono HB.out.size),.inr ⟨by decide,_,rfl⟩⟩
    | true =>
    cases bt <;> cases bi
    case false.true =>
     have hz:Z=60:=fin.out (by rw[HPR.out];rfl);clear fin HZ;subst hz;go_wp2_with (first
      | (go_at_call 122;refine(CN.out _ _).mono ?_;rintro e w1 ⟨rfl,rfl⟩)
      | (go_at_call 123;refine(KB.out _).mono ?_;rintro e w1 ⟨rfl,hb⟩;have HW1:=hid (Below.push HW0.out (Nat.le_of_eq HS.out.symm) hb);(try clear x0 x1 x2 x3 x4);clear hb HW0;obtain⟨x0,x1,x2,x3,x4⟩:=HX.out _ HW1.out;have HW0:=HW1;clear HW1)
      | (go_at_call 51;refine(KP.out _ (HBB.out _ HW0.out)).mono ?_;rintro e w1 ⟨rfl,hb⟩;have HW1:=hid (Below.push HW0.out (Nat.le_of_eq HS.out.symm) hb);(try clear x0 x1 x2 x3 x4);clear hb HW0;obtain⟨x0,x1,x2,x3,x4⟩:=HX.out _ HW1.out;have HW0:=HW1;clear HW1)
      | (go_at_call 124;refine(KS.out _).mono ?_;rintro e w1 ⟨rfl,rfl⟩)
      | (go_at_call 125;refine(KT.out _ (HBB.out _ HW0.out)).mono ?_;rintro e w1 ⟨rfl,hb⟩;have HW1:=hid (Below.push HW0.out (Nat.le_of_eq HS.out.symm) hb);(try clear x0 x1 x2 x3 x4);clear hb HW0;obtain⟨x0,x1,x2,x3,x4⟩:=HX.out _ HW1.out;have HW0:=HW1;clear HW1)
      | fail)
     go_ret;exact⟨HB.out.trans ((HBB.out _ HW0.out).mono HB.out.size),.inr ⟨by decide,_,rfl⟩⟩
    case true.false =>
     have hz:Z=60:=fin.out (by rw[HPR.out];rfl);clear fin HZ;subst hz;go_wp2_with (first
      | (go_at_call 122;refine(CN.out _ _).mono ?_;rintro e w1 ⟨rfl,rfl⟩)
      | (go_at_call 123;refine(KB.out _).mono ?_;rintro e w1 ⟨rfl,hb⟩;have HW1:=hid (Below.push HW0.out (Nat.le_of_eq HS.out.symm) hb);(try clear x0 x1 x2 x3 x4);clear hb HW0;obtain⟨x0,x1,x2,x3,x4⟩:=HX.out _ HW1.out;have HW0:=HW1;clear HW1)
      | (go_at_call 51;refine(KP.out _ (HBB.out _ HW0.out)).mono ?_;rintro e w1 ⟨rfl,hb⟩;have HW1:=hid (Below.push HW0.out (Nat.le_of_eq HS.out.symm) hb);(try clear x0 x1 x2 x3 x4);clear hb HW0;obtain⟨x0,x1,x2,x3,x4⟩:=HX.out _ HW1.out;have HW0:=HW1;clear HW1)
      | (go_at_call 124;refine(KS.out _).mono ?_;rintro e w1 ⟨rfl,rfl⟩)
      | (go_at_call 125;refine(KT.out _ (HBB.out _ HW0.out)).mono ?_;rintro e w1 ⟨rfl,hb⟩;have HW1:=hid (Below.push HW0.out (Nat.le_of_eq HS.out.symm) hb);(try clear x0 x1 x2 x3 x4);clear hb HW0;obtain⟨x0,x1,x2,x3,x4⟩:=HX.out _ HW1.out;have HW0:=HW1;clear HW1)
      | fail)
     go_ret;exact⟨HB.out.trans ((HBB.out _ HW0.out).mono HB.out.size),.inr ⟨by decide,_,rfl⟩⟩
    all_goals
     cases a1 with
     | true =>
      have hz:Z=60:=fin.out (by rw[HPR.out];rfl);clear fin HZ;subst hz;go_wp2_with (first
       | (go_at_call 122;refine(CN.out _ _).mono ?_;rintro e w1 ⟨rfl,rfl⟩)
       | (go_at_call 123;refine(KB.out _).mono ?_;rintro e w1 ⟨rfl,hb⟩;have HW1:=hid (Below.push HW0.out (Nat.le_of_eq HS.out.symm) hb);(try clear x0 x1 x2 x3 x4);clear hb HW0;obtain⟨x0,x1,x2,x3,x4⟩:=HX.out _ HW1.out;have HW0:=HW1;clear HW1)
       | (go_at_call 51;refine(KP.out _ (HBB.out _ HW0.out)).mono ?_;rintro e w1 ⟨rfl,hb⟩;have HW1:=hid (Below.push HW0.out (Nat.le_of_eq HS.out.symm) hb);(try clear x0 x1 x2 x3 x4);clear hb HW0;obtain⟨x0,x1,x2,x3,x4⟩:=HX.out _ HW1.out;have HW0:=HW1;clear HW1)
       | (go_at_call 124;refine(KS.out _).mono ?_;rintro e w1 ⟨rfl,rfl⟩)
       | (go_at_call 125;refine(KT.out _ (HBB.out _ HW0.out)).mono ?_;rintro e w1 ⟨rfl,hb⟩;have HW1:=hid (Below.push HW0.out (Nat.le_of_eq HS.out.symm) hb);(try clear x0 x1 x2 x3 x4);clear hb HW0;obtain⟨x0,x1,x2,x3,x4⟩:=HX.out _ HW1.out;have HW0:=HW1;clear HW1)
       | fail)
      go_ret;exact⟨HB.out.trans ((HBB.out _ HW0.out).mono HB.out.size),.inr ⟨by decide,_,rfl⟩⟩
     | false =>
     cases s1 <;> cases a2
     case true.true =>
      have hz:Z=60:=fin.out (by rw[HPR.out];rfl);clear fin HZ;subst hz;go_wp2_with (first
       | (go_at_call 122;refine(CN.out _ _).mono ?_;rintro e w1 ⟨rfl,rfl⟩)
       | (go_at_call 123;refine(KB.out _).mono ?_;rintro e w1 ⟨rfl,hb⟩;have HW1:=hid (Below.push HW0.out (Nat.le_of_eq HS.out.symm) hb);(try clear x0 x1 x2 x3 x4);clear hb HW0;obtain⟨x0,x1,x2,x3,x4⟩:=HX.out _ HW1.out;have HW0:=HW1;clear HW1)
       | (go_at_call 51;refine(KP.out _ (HBB.out _ HW0.out)).mono ?_;rintro e w1 ⟨rfl,hb⟩;have HW1:=hid (Below.push HW0.out (Nat.le_of_eq HS.out.symm) hb);(try clear x0 x1 x2 x3 x4);clear hb HW0;obtain⟨x0,x1,x2,x3,x4⟩:=HX.out _ HW1.out;have HW0:=HW1;clear HW1)
       | (go_at_call 124;refine(KS.out _).mono ?_;rintro e w1 ⟨rfl,rfl⟩)
       | (go_at_call 125;refine(KT.out _ (HBB.out _ HW0.out)).mono ?_;rintro e w1 ⟨rfl,hb⟩;have HW1:=hid (Below.push HW0.out (Nat.le_of_eq HS.out.symm) hb);(try clear x0 x1 x2 x3 x4);clear hb HW0;obtain⟨x0,x1,x2,x3,x4⟩:=HX.out _ HW1.out;have HW0:=HW1;clear HW1)
       | fail)
      go_ret;exact⟨HB.out.trans ((HBB.out _ HW0.out).mono HB.out.size),.inr ⟨by decide,_,rfl⟩⟩
     all_goals
      have HRR:Hid (frm (l.take (i+1)) (l.drop (i+1))=R):=by show _=_;rw[HPR.out,← HR'.out];rfl
      clear fin;go_wp2_with (first
       | (go_at_call 122;refine(CN.out _ _).mono ?_;rintro e w1 ⟨rfl,rfl⟩)
       | (go_at_call 123;refine(KB.out _).mono ?_;rintro e w1 ⟨rfl,hb⟩;have HW1:=hid (Below.push HW0.out (Nat.le_of_eq HS.out.symm) hb);(try clear x0 x1 x2 x3 x4);clear hb HW0;obtain⟨x0,x1,x2,x3,x4⟩:=HX.out _ HW1.out;have HW0:=HW1;clear HW1)
       | (go_at_call 51;refine(KP.out _ (HBB.out _ HW0.out)).mono ?_;rintro e w1 ⟨rfl,hb⟩;have HW1:=hid (Below.push HW0.out (Nat.le_of_eq HS.out.symm) hb);(try clear x0 x1 x2 x3 x4);clear hb HW0;obtain⟨x0,x1,x2,x3,x4⟩:=HX.out _ HW1.out;have HW0:=HW1;clear HW1)
       | (go_at_call 124;refine(KS.out _).mono ?_;rintro e w1 ⟨rfl,rfl⟩)
       | (go_at_call 125;refine(KT.out _ (HBB.out _ HW0.out)).mono ?_;rintro e w1 ⟨rfl,hb⟩;have HW1:=hid (Below.push HW0.out (Nat.le_of_eq HS.out.symm) hb);(try clear x0 x1 x2 x3 x4);clear hb HW0;obtain⟨x0,x1,x2,x3,x4⟩:=HX.out _ HW1.out;have HW0:=HW1;clear HW1)
       | fail)
      go_roundw
      case rel=>exact⟨i+1,by omega,by go_num,HB.out.trans ((HBB.out _ HW0.out).mono HB.out.size),HRR.out⟩
      case measure=>simp[intOf];omega
   ·
    obtain rfl:i=n:=by omega
    have hr:R=true:=by
     rw[← HP.out,List.drop_eq_nil_of_le (by rw[HH.out.1];exact Nat.le_refl _)];rfl
    have hz:Z=0:=by rw[HZ.out,hr];rfl
    clear HZ;subst hz;have HBE:=hid HB.out;go_wp2_with fail;go_ret;exact⟨HBE.out,.inl ⟨rfl,rfl⟩⟩
 ·
  have hb:Qcy l=false:=by unfold Qcy;rw[decide_eq_false (by omega),Bool.false_and]
  rw[hb,if_neg (by decide)]
  clear hb hB hc;by_cases h0:n<1
  ·
   have t1:decide ((n:Int)<1)=true:=decide_eq_true (by omega);clear hn h h0 hl;go_enter Tryz.func88,Tryz.ntmps88;go_wp2_with (first
    | (go_at_call 122;refine(CN.out _ _).mono ?_;rintro e w1 ⟨rfl,rfl⟩)
    | fail)
   go_ret;exact⟨Below.refl _ _,.inr ⟨by decide,_,rfl⟩⟩
  ·
   have t1:decide ((n:Int)<1)=false:=decide_eq_false (by omega);have t2:decide ((16:Int)<(n:Int))=true:=decide_eq_true (by omega);clear hn h h0 hl;go_enter Tryz.func88,Tryz.ntmps88;go_wp2_with (first
    | (go_at_call 122;refine(CN.out _ _).mono ?_;rintro e w1 ⟨rfl,rfl⟩)
    | fail)
   go_ret;exact⟨Below.refl _ _,.inr ⟨by decide,_,rfl⟩⟩
theorem Qew(S:Snt)(h:BH)(l:List Blk)(A:OA)(n c B:Nat)(w:World)(hS:Wd S w)(hd:h.Bd)(hr:RdL w B A n l)(hB:B≤w.heap.size)(hc:n≤c) :
  Calls Tryz.prog 46 #[Qbl h A n c] w (Q3l (Qa3 (h.bun l)) w):=by
 have HB0:=hid ((Below.refl w.heap.size w).alloc zr (hbx h h.crc A n c));have CP:=hid (Qny S h l A n c (w.alloc (hbx h h.crc A n c)) (hS.alloc _) hd);have CB:=hid (fun (W:World) (hb:Below w.heap.size w W)=>Qnz A n c B l W (hr.below (hb.mono hB)) (Nat.le_trans hB hb.size) hc);obtain⟨Z,hZ⟩:∃ Z,Z=Qa3 (h.bun l):=⟨_,rfl⟩
 rw[← hZ]
 have hZ2:Z=if Qlb h.flg=true then 62 else if Qfw (h.bun l)=true∧Qcy l=true then 0 else 60:=hZ
 have q1:=fun (W:World) (u:TypeId) (x:Value)=>run_neq_iface_nil (P:=Tryz.prog) (w:=W) 53 (by kernel_rfl) u x
 have hfr:(bits BinOp.and IntKind.u64 (h.flg:Int) 1 != 0)=Qlb h.flg:=rfl;generalize Qfw (h.bun l)=p at *;generalize Qcy l=b at *;generalize Qlb h.flg=f at *;clear hZ hS hr hB hc hd;unfold Qbl at *;cases f with
 | true =>
  have hz:Z=62:=hZ2;clear hZ2 CP CB;subst hz;go_enter Tryz.func46,Tryz.ntmps46;go_wp2_with fail;go_ret;exact⟨HB0.out,.inr ⟨by decide,_,rfl⟩⟩
 | false =>
 cases p with
 | false =>
  have hz:Z=60:=by rw[hZ2];simp
  clear hZ2 CB;subst hz;go_enter Tryz.func46,Tryz.ntmps46;go_wp2_with fail;refine CP.out.mono ?_;rintro e w1 ⟨hb,⟨h0,-⟩|⟨-,s,rfl⟩⟩
  ·
   exact absurd h0 (by decide)
  have HB1:=hid (HB0.out.trans (hb.mono (Qaa _ _)));clear hb;unfold ufl at *;go_wp2_with fail;go_ret;exact⟨HB1.out,.inr ⟨by decide,_,rfl⟩⟩
 | true =>
  have hz:Z=if b=true then 0 else 60:=by rw[hZ2];cases b <;> rfl
  clear hZ2;rw[← hz] at CB
  clear hz;go_enter Tryz.func46,Tryz.ntmps46;go_wp2_with fail;refine CP.out.mono ?_;rintro e w1 ⟨hb,⟨-,rfl⟩|⟨h0,-⟩⟩
  case inr=>exact absurd rfl h0
  have HB1:=hid (HB0.out.trans (hb.mono (Qaa _ _)));obtain⟨x0,x1,x2,x3,x4,x5,x6,x7,x8,x9,x10,x11,x12,x13,x14,x15,x16,x17⟩:=Qpf rfl (hb.mono (show w.heap.size+1≤_ by simp));clear hb;go_wp2_with fail;refine(CB.out _ HB1.out).mono ?_;rintro e w2 ⟨hb,hcase⟩;have HB2:=hid (HB1.out.trans (hb.mono HB1.out.size));clear hb x0 x1 x2 x3 x4 x5 x6 x7 x8 x9 x10 x11 x12 x13 x14 x15 x16 x17;obtain⟨h0,rfl⟩|⟨h0,s,rfl⟩:=hcase
  ·
   have HE:=hid h0;clear h0;go_wp2_with fail;go_ret;exact⟨HB2.out,.inl ⟨HE.out,rfl⟩⟩
  ·
   have HE:=hid h0;clear h0;go_wp2_with fail;go_ret;exact⟨HB2.out,.inr ⟨HE.out,s,rfl⟩⟩
theorem Qhw(S:Snt)(h:BH)(l:List Blk)(A:OA)(n c B:Nat)(w:World)(hS:Wd S w)(hd:h.Bd)(hr:RdL w B A n l)(hB:B≤w.heap.size)(hc:n≤c) :
  Calls Tryz.prog 26 #[Qbl h A n c] w fun e w'=>e=.returned (.int .i64 (Qa3 (h.bun l)))∧Below w.heap.size w w':=by
 have HB0:=hid ((Below.refl w.heap.size w).alloc zr (hbx h h.crc A n c));have C1:=hid (Qew S h l A n c B (w.alloc (hbx h h.crc A n c)) (hS.alloc _) hd (hr.below (HB0.out.mono hB)) (Nat.le_trans hB (Qaa _ _)) hc);have hcz:Qa3 (h.bun l)=0∨Qg3 (Qa3 (h.bun l))=Qa3 (h.bun l):=by
  unfold Qa3;split
  ·
   exact .inr rfl
  ·
   split
   ·
    exact .inl rfl
   ·
    exact .inr rfl
 generalize Qa3 (h.bun l)=Z at *;clear hS hd hr hB hc;unfold Qbl at *;go_enter Tryz.func26,Tryz.ntmps26;go_wp2_with fail;refine C1.out.mono ?_;rintro e w1 ⟨hb,⟨rfl,rfl⟩|⟨h0,s,rfl⟩⟩
 ·
  have HB1:=hid (HB0.out.trans (hb.mono (Qaa _ _)));clear hb hcz;have CN:=hid Qnw;go_wp2_with fail;refine(CN.out _).mono ?_;rintro e w2 ⟨rfl,rfl⟩;go_wp2_with fail;go_ret;exact⟨rfl,HB1.out⟩
 ·
  have HB1:=hid (HB0.out.trans (hb.mono (Qaa _ _)));have CN:=hid (fun W=>Qfe Z s W);rw[hcz.resolve_left h0] at CN
  clear hb hcz h0;go_wp2_with fail;refine(CN.out _).mono ?_;rintro e w2 ⟨rfl,hb⟩;have HB2:=hid (HB1.out.trans (hb.mono HB1.out.size));clear hb;go_wp2_with fail;go_ret;exact⟨rfl,HB2.out⟩
end Go.Proofs.YtbnfkjkoinbkgaaGreatDoor
