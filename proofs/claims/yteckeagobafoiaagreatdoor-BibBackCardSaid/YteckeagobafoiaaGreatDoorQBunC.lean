import Derived.Test.YteckeagobafoiaaGreatDoorQBunB
import Derived.Test.YteckeagobafoiaaGreatDoorQShaP
namespace Go.Proofs.YteckeagobafoiaaGreatDoor
set_option maxRecDepth 100000
set_option maxHeartbeats 16000000
open Go.RowKit
open Go.Lib (hid)
theorem primOk_dec (h:BH) (l:List Blk):primOk (h.bun l)=(decide (0≤h.crc∧h.crc≤2)&&((checkB h.dst&&(checkB h.src&&checkB h.rep))&&((!(noneB h.dst))&&(!(noneB h.src && !(wholeB h.flg)))))):=rfl
theorem ucheckP_any (S:Snt) (h:BH) (l:List Blk) (A:Option Addr) (n c:Nat) (w:World) (hS:Wd S w) (hd:h.Bd) :
  Calls Tryz.prog 142 #[bunV h A n c] w (WhyU (if primOk (h.bun l)=true then 0 else 60) w):=by
 have HB0:=hid ((Below.refl w.heap.size w).alloc (Nat.le_refl _) (.cells #[.int .u64 (h.flg:Int),.int .i64 h.crc,.int .i64 h.dsc,.string h.dnm,.int .u64 (h.dn:Int),.int .u64 (h.dv:Int),.int .i64 h.ssc,.string h.snm,.int .u64 (h.sn:Int),.int .u64 (h.sv:Int),.int .i64 h.rsc,.string h.rnm,.int .u64 (h.rn:Int),.int .u64 (h.rv:Int),.int .u64 (h.tim:Int),.int .u64 (h.seq:Int),.int .u64 (h.lif:Int),.slice A n c] 28))
 have HW0:Hid (Below (w.heap.size+1) (w.alloc (.cells #[.int .u64 (h.flg:Int),.int .i64 h.crc,.int .i64 h.dsc,.string h.dnm,.int .u64 (h.dn:Int),.int .u64 (h.dv:Int),.int .i64 h.ssc,.string h.snm,.int .u64 (h.sn:Int),.int .u64 (h.sv:Int),.int .i64 h.rsc,.string h.rnm,.int .u64 (h.rn:Int),.int .u64 (h.rv:Int),.int .u64 (h.tim:Int),.int .u64 (h.seq:Int),.int .u64 (h.lif:Int),.slice A n c] 28)) (w.alloc (.cells #[.int .u64 (h.flg:Int),.int .i64 h.crc,.int .i64 h.dsc,.string h.dnm,.int .u64 (h.dn:Int),.int .u64 (h.dv:Int),.int .i64 h.ssc,.string h.snm,.int .u64 (h.sn:Int),.int .u64 (h.sv:Int),.int .i64 h.rsc,.string h.rnm,.int .u64 (h.rn:Int),.int .u64 (h.rv:Int),.int .u64 (h.tim:Int),.int .u64 (h.seq:Int),.int .u64 (h.lif:Int),.slice A n c] 28))):=Below.refl _ _
 have HX:=hid (fun (W:World) (hb:Below (w.heap.size+1) (w.alloc (.cells #[.int .u64 (h.flg:Int),.int .i64 h.crc,.int .i64 h.dsc,.string h.dnm,.int .u64 (h.dn:Int),.int .u64 (h.dv:Int),.int .i64 h.ssc,.string h.snm,.int .u64 (h.sn:Int),.int .u64 (h.sv:Int),.int .i64 h.rsc,.string h.rnm,.int .u64 (h.rn:Int),.int .u64 (h.rv:Int),.int .u64 (h.tim:Int),.int .u64 (h.seq:Int),.int .u64 (h.lif:Int),.slice A n c] 28)) W)=>box18 rfl hb)
 have HL:Hid (∀ W,Below (w.heap.size+1) (w.alloc (.cells #[.int .u64 (h.flg:Int),.int .i64 h.crc,.int .i64 h.dsc,.string h.dnm,.int .u64 (h.dn:Int),.int .u64 (h.dv:Int),.int .i64 h.ssc,.string h.snm,.int .u64 (h.sn:Int),.int .u64 (h.sv:Int),.int .i64 h.rsc,.string h.rnm,.int .u64 (h.rn:Int),.int .u64 (h.rv:Int),.int .u64 (h.tim:Int),.int .u64 (h.seq:Int),.int .u64 (h.lif:Int),.slice A n c] 28)) W→Lds S W):=fun W hb=>(hS.lds.alloc _).below hb (by simp)
 have K1:=hid (fun W hb=>ccheck_any S h.dsc h.dnm h.dn h.dv W (HL.out W hb) hd.dnm)
 have K2:=hid (fun W hb=>ccheck_any S h.ssc h.snm h.sn h.sv W (HL.out W hb) hd.snm)
 have K3:=hid (fun W hb=>ccheck_any S h.rsc h.rnm h.rn h.rv W (HL.out W hb) hd.rnm)
 have N1:=hid (fun W=>none_any h.dsc h.dnm h.dn h.dv W)
 have N2:=hid (fun W=>none_any h.ssc h.snm h.sn h.sv W)
 have HS:Hid ((w.alloc (.cells #[.int .u64 (h.flg:Int),.int .i64 h.crc,.int .i64 h.dsc,.string h.dnm,.int .u64 (h.dn:Int),.int .u64 (h.dv:Int),.int .i64 h.ssc,.string h.snm,.int .u64 (h.sn:Int),.int .u64 (h.sv:Int),.int .i64 h.rsc,.string h.rnm,.int .u64 (h.rn:Int),.int .u64 (h.rv:Int),.int .u64 (h.tim:Int),.int .u64 (h.seq:Int),.int .u64 (h.lif:Int),.slice A n c] 28)).heap.size=w.heap.size+1):=by show _=_;simp
 have HE:Hid (∀ (z:Int) W e,Below (w.heap.size+1) (w.alloc (.cells #[.int .u64 (h.flg:Int),.int .i64 h.crc,.int .i64 h.dsc,.string h.dnm,.int .u64 (h.dn:Int),.int .u64 (h.dv:Int),.int .i64 h.ssc,.string h.snm,.int .u64 (h.sn:Int),.int .u64 (h.sv:Int),.int .i64 h.rsc,.string h.rnm,.int .u64 (h.rn:Int),.int .u64 (h.rv:Int),.int .u64 (h.tim:Int),.int .u64 (h.seq:Int),.int .u64 (h.lif:Int),.slice A n c] 28)) W→(z=0∧e=.returned .nilIface∨z≠0∧∃ s,e=.returned (ufl z s))→WhyU z w e W):=fun z W e hb hh=>⟨HB0.out.trans (hb.mono (Nat.le_succ _)),hh⟩
 have CN:=hid unone_any
 rw [primOk_dec]
 have e1:checkB (ep h.dsc h.dnm h.dn h.dv)=checkB h.dst:=rfl
 have e2:checkB (ep h.ssc h.snm h.sn h.sv)=checkB h.src:=rfl
 have e3:checkB (ep h.rsc h.rnm h.rn h.rv)=checkB h.rep:=rfl
 have e4:noneB (ep h.dsc h.dnm h.dn h.dv)=noneB h.dst:=rfl
 have e5:noneB (ep h.ssc h.snm h.sn h.sv)=noneB h.src:=rfl
 rw [e1] at K1
 rw [e2] at K2
 rw [e3] at K3
 rw [e4] at N1
 rw [e5] at N2
 have hwh:(bits BinOp.and IntKind.u64 (h.flg:Int) 475140 != 4) = !(wholeB h.flg):=rfl
 generalize checkB h.dst=c1 at *
 generalize checkB h.src=c2 at *
 generalize checkB h.rep=c3 at *
 generalize noneB h.dst=n1 at *
 generalize noneB h.src=n2 at *
 generalize wholeB h.flg=wh at *
 have H0:Hid (∀ b:Bool,b=false→(if b=true then (0:Int) else 60)=60):=fun b hb=>by rw [hb];rfl
 obtain ⟨Z,hZ⟩:∃ Z,Z=(if (decide (0≤h.crc∧h.crc≤2)&&((c1&&(c2&&c3))&&((!n1)&&(!(n2 && !wh)))))=true then (0:Int) else 60):=⟨_,rfl⟩
 rw [← hZ]
 clear e1 e2 e3 e4 e5 hS hd
 unfold bunV epdV at *
 by_cases h1:h.crc<0
 ·
  have hz:Z=60:=by rw [hZ,decide_eq_false (by omega)];rfl
  clear hZ hwh
  subst hz
  go_enter Tryz.func142,Tryz.ntmps142
  go_wp2_with (first
   | (go_at_call 181;refine (CN.out _ _).mono ?_;rintro e w1 ⟨rfl,rfl⟩)
   | (go_at_call 77;(first|(with_reducible refine (K1.out _ HW0.out).mono ?_)|(with_reducible refine (K2.out _ HW0.out).mono ?_)|(with_reducible refine (K3.out _ HW0.out).mono ?_));rintro e w1 ⟨rfl,hb⟩;have HW1:=hid (Below.push HW0.out (Nat.le_of_eq HS.out.symm) hb);(try clear x0 x1 x2 x3 x4 x5 x6 x7 x8 x9 x10 x11 x12 x13 x14 x15 x16 x17);clear hb HW0;obtain ⟨x0,x1,x2,x3,x4,x5,x6,x7,x8,x9,x10,x11,x12,x13,x14,x15,x16,x17⟩:=HX.out _ HW1.out;have HW0:=HW1;clear HW1)
   | (go_at_call 97;(first|(with_reducible refine (N1.out _).mono ?_)|(with_reducible refine (N2.out _).mono ?_));rintro e w1 ⟨rfl,hb⟩;have HW1:=hid (Below.push HW0.out (Nat.le_of_eq HS.out.symm) hb);(try clear x0 x1 x2 x3 x4 x5 x6 x7 x8 x9 x10 x11 x12 x13 x14 x15 x16 x17);clear hb HW0;obtain ⟨x0,x1,x2,x3,x4,x5,x6,x7,x8,x9,x10,x11,x12,x13,x14,x15,x16,x17⟩:=HX.out _ HW1.out;have HW0:=HW1;clear HW1)
   | fail)
  go_ret
  exact HE.out _ _ _ HW0.out (.inr ⟨by decide,_,rfl⟩)
 have h1':decide (h.crc<0)=false:=decide_eq_false h1
 by_cases h2:2<h.crc
 ·
  have hz:Z=60:=by rw [hZ,decide_eq_false (by omega)];rfl
  clear hZ hwh
  subst hz
  go_enter Tryz.func142,Tryz.ntmps142
  go_wp2_with (first
   | (go_at_call 181;refine (CN.out _ _).mono ?_;rintro e w1 ⟨rfl,rfl⟩)
   | (go_at_call 77;(first|(with_reducible refine (K1.out _ HW0.out).mono ?_)|(with_reducible refine (K2.out _ HW0.out).mono ?_)|(with_reducible refine (K3.out _ HW0.out).mono ?_));rintro e w1 ⟨rfl,hb⟩;have HW1:=hid (Below.push HW0.out (Nat.le_of_eq HS.out.symm) hb);(try clear x0 x1 x2 x3 x4 x5 x6 x7 x8 x9 x10 x11 x12 x13 x14 x15 x16 x17);clear hb HW0;obtain ⟨x0,x1,x2,x3,x4,x5,x6,x7,x8,x9,x10,x11,x12,x13,x14,x15,x16,x17⟩:=HX.out _ HW1.out;have HW0:=HW1;clear HW1)
   | (go_at_call 97;(first|(with_reducible refine (N1.out _).mono ?_)|(with_reducible refine (N2.out _).mono ?_));rintro e w1 ⟨rfl,hb⟩;have HW1:=hid (Below.push HW0.out (Nat.le_of_eq HS.out.symm) hb);(try clear x0 x1 x2 x3 x4 x5 x6 x7 x8 x9 x10 x11 x12 x13 x14 x15 x16 x17);clear hb HW0;obtain ⟨x0,x1,x2,x3,x4,x5,x6,x7,x8,x9,x10,x11,x12,x13,x14,x15,x16,x17⟩:=HX.out _ HW1.out;have HW0:=HW1;clear HW1)
   | fail)
  go_ret
  exact HE.out _ _ _ HW0.out (.inr ⟨by decide,_,rfl⟩)
 have h2':decide (2<h.crc)=false:=decide_eq_false h2
 rw [decide_eq_true (by omega),Bool.true_and] at hZ
 cases c1 with
 | false =>
  have hz:Z=60:=by rw [hZ];rfl
  clear hZ hwh
  subst hz
  go_enter Tryz.func142,Tryz.ntmps142
  go_wp2_with (first
   | (go_at_call 181;refine (CN.out _ _).mono ?_;rintro e w1 ⟨rfl,rfl⟩)
   | (go_at_call 77;(first|(with_reducible refine (K1.out _ HW0.out).mono ?_)|(with_reducible refine (K2.out _ HW0.out).mono ?_)|(with_reducible refine (K3.out _ HW0.out).mono ?_));rintro e w1 ⟨rfl,hb⟩;have HW1:=hid (Below.push HW0.out (Nat.le_of_eq HS.out.symm) hb);(try clear x0 x1 x2 x3 x4 x5 x6 x7 x8 x9 x10 x11 x12 x13 x14 x15 x16 x17);clear hb HW0;obtain ⟨x0,x1,x2,x3,x4,x5,x6,x7,x8,x9,x10,x11,x12,x13,x14,x15,x16,x17⟩:=HX.out _ HW1.out;have HW0:=HW1;clear HW1)
   | (go_at_call 97;(first|(with_reducible refine (N1.out _).mono ?_)|(with_reducible refine (N2.out _).mono ?_));rintro e w1 ⟨rfl,hb⟩;have HW1:=hid (Below.push HW0.out (Nat.le_of_eq HS.out.symm) hb);(try clear x0 x1 x2 x3 x4 x5 x6 x7 x8 x9 x10 x11 x12 x13 x14 x15 x16 x17);clear hb HW0;obtain ⟨x0,x1,x2,x3,x4,x5,x6,x7,x8,x9,x10,x11,x12,x13,x14,x15,x16,x17⟩:=HX.out _ HW1.out;have HW0:=HW1;clear HW1)
   | fail)
  go_ret
  exact HE.out _ _ _ HW0.out (.inr ⟨by decide,_,rfl⟩)
 | true =>
 cases c2 with
 | false =>
  have hz:Z=60:=by rw [hZ];rfl
  clear hZ hwh
  subst hz
  go_enter Tryz.func142,Tryz.ntmps142
  go_wp2_with (first
   | (go_at_call 181;refine (CN.out _ _).mono ?_;rintro e w1 ⟨rfl,rfl⟩)
   | (go_at_call 77;(first|(with_reducible refine (K1.out _ HW0.out).mono ?_)|(with_reducible refine (K2.out _ HW0.out).mono ?_)|(with_reducible refine (K3.out _ HW0.out).mono ?_));rintro e w1 ⟨rfl,hb⟩;have HW1:=hid (Below.push HW0.out (Nat.le_of_eq HS.out.symm) hb);(try clear x0 x1 x2 x3 x4 x5 x6 x7 x8 x9 x10 x11 x12 x13 x14 x15 x16 x17);clear hb HW0;obtain ⟨x0,x1,x2,x3,x4,x5,x6,x7,x8,x9,x10,x11,x12,x13,x14,x15,x16,x17⟩:=HX.out _ HW1.out;have HW0:=HW1;clear HW1)
   | (go_at_call 97;(first|(with_reducible refine (N1.out _).mono ?_)|(with_reducible refine (N2.out _).mono ?_));rintro e w1 ⟨rfl,hb⟩;have HW1:=hid (Below.push HW0.out (Nat.le_of_eq HS.out.symm) hb);(try clear x0 x1 x2 x3 x4 x5 x6 x7 x8 x9 x10 x11 x12 x13 x14 x15 x16 x17);clear hb HW0;obtain ⟨x0,x1,x2,x3,x4,x5,x6,x7,x8,x9,x10,x11,x12,x13,x14,x15,x16,x17⟩:=HX.out _ HW1.out;have HW0:=HW1;clear HW1)
   | fail)
  go_ret
  exact HE.out _ _ _ HW0.out (.inr ⟨by decide,_,rfl⟩)
 | true =>
 cases c3 with
 | false =>
  have hz:Z=60:=by rw [hZ];rfl
  clear hZ hwh
  subst hz
  go_enter Tryz.func142,Tryz.ntmps142
  go_wp2_with (first
   | (go_at_call 181;refine (CN.out _ _).mono ?_;rintro e w1 ⟨rfl,rfl⟩)
   | (go_at_call 77;(first|(with_reducible refine (K1.out _ HW0.out).mono ?_)|(with_reducible refine (K2.out _ HW0.out).mono ?_)|(with_reducible refine (K3.out _ HW0.out).mono ?_));rintro e w1 ⟨rfl,hb⟩;have HW1:=hid (Below.push HW0.out (Nat.le_of_eq HS.out.symm) hb);(try clear x0 x1 x2 x3 x4 x5 x6 x7 x8 x9 x10 x11 x12 x13 x14 x15 x16 x17);clear hb HW0;obtain ⟨x0,x1,x2,x3,x4,x5,x6,x7,x8,x9,x10,x11,x12,x13,x14,x15,x16,x17⟩:=HX.out _ HW1.out;have HW0:=HW1;clear HW1)
   | (go_at_call 97;(first|(with_reducible refine (N1.out _).mono ?_)|(with_reducible refine (N2.out _).mono ?_));rintro e w1 ⟨rfl,hb⟩;have HW1:=hid (Below.push HW0.out (Nat.le_of_eq HS.out.symm) hb);(try clear x0 x1 x2 x3 x4 x5 x6 x7 x8 x9 x10 x11 x12 x13 x14 x15 x16 x17);clear hb HW0;obtain ⟨x0,x1,x2,x3,x4,x5,x6,x7,x8,x9,x10,x11,x12,x13,x14,x15,x16,x17⟩:=HX.out _ HW1.out;have HW0:=HW1;clear HW1)
   | fail)
  go_ret
  exact HE.out _ _ _ HW0.out (.inr ⟨by decide,_,rfl⟩)
 | true =>
 cases n1 with
 | true =>
  have hz:Z=60:=by rw [hZ];rfl
  clear hZ hwh
  subst hz
  go_enter Tryz.func142,Tryz.ntmps142
  go_wp2_with (first
   | (go_at_call 181;refine (CN.out _ _).mono ?_;rintro e w1 ⟨rfl,rfl⟩)
   | (go_at_call 77;(first|(with_reducible refine (K1.out _ HW0.out).mono ?_)|(with_reducible refine (K2.out _ HW0.out).mono ?_)|(with_reducible refine (K3.out _ HW0.out).mono ?_));rintro e w1 ⟨rfl,hb⟩;have HW1:=hid (Below.push HW0.out (Nat.le_of_eq HS.out.symm) hb);(try clear x0 x1 x2 x3 x4 x5 x6 x7 x8 x9 x10 x11 x12 x13 x14 x15 x16 x17);clear hb HW0;obtain ⟨x0,x1,x2,x3,x4,x5,x6,x7,x8,x9,x10,x11,x12,x13,x14,x15,x16,x17⟩:=HX.out _ HW1.out;have HW0:=HW1;clear HW1)
   | (go_at_call 97;(first|(with_reducible refine (N1.out _).mono ?_)|(with_reducible refine (N2.out _).mono ?_));rintro e w1 ⟨rfl,hb⟩;have HW1:=hid (Below.push HW0.out (Nat.le_of_eq HS.out.symm) hb);(try clear x0 x1 x2 x3 x4 x5 x6 x7 x8 x9 x10 x11 x12 x13 x14 x15 x16 x17);clear hb HW0;obtain ⟨x0,x1,x2,x3,x4,x5,x6,x7,x8,x9,x10,x11,x12,x13,x14,x15,x16,x17⟩:=HX.out _ HW1.out;have HW0:=HW1;clear HW1)
   | fail)
  go_ret
  exact HE.out _ _ _ HW0.out (.inr ⟨by decide,_,rfl⟩)
 | false =>
 cases n2 with
 | false =>
  have hz:Z=0:=by rw [hZ];rfl
  clear hZ hwh
  subst hz
  go_enter Tryz.func142,Tryz.ntmps142
  go_wp2_with (first
   | (go_at_call 181;refine (CN.out _ _).mono ?_;rintro e w1 ⟨rfl,rfl⟩)
   | (go_at_call 77;(first|(with_reducible refine (K1.out _ HW0.out).mono ?_)|(with_reducible refine (K2.out _ HW0.out).mono ?_)|(with_reducible refine (K3.out _ HW0.out).mono ?_));rintro e w1 ⟨rfl,hb⟩;have HW1:=hid (Below.push HW0.out (Nat.le_of_eq HS.out.symm) hb);(try clear x0 x1 x2 x3 x4 x5 x6 x7 x8 x9 x10 x11 x12 x13 x14 x15 x16 x17);clear hb HW0;obtain ⟨x0,x1,x2,x3,x4,x5,x6,x7,x8,x9,x10,x11,x12,x13,x14,x15,x16,x17⟩:=HX.out _ HW1.out;have HW0:=HW1;clear HW1)
   | (go_at_call 97;(first|(with_reducible refine (N1.out _).mono ?_)|(with_reducible refine (N2.out _).mono ?_));rintro e w1 ⟨rfl,hb⟩;have HW1:=hid (Below.push HW0.out (Nat.le_of_eq HS.out.symm) hb);(try clear x0 x1 x2 x3 x4 x5 x6 x7 x8 x9 x10 x11 x12 x13 x14 x15 x16 x17);clear hb HW0;obtain ⟨x0,x1,x2,x3,x4,x5,x6,x7,x8,x9,x10,x11,x12,x13,x14,x15,x16,x17⟩:=HX.out _ HW1.out;have HW0:=HW1;clear HW1)
   | fail)
  go_ret
  exact HE.out _ _ _ HW0.out (.inl ⟨rfl,rfl⟩)
 | true =>
 cases wh with
 | true =>
  have hz:Z=0:=by rw [hZ];rfl
  clear hZ
  subst hz
  go_enter Tryz.func142,Tryz.ntmps142
  go_wp2_with (first
   | (go_at_call 181;refine (CN.out _ _).mono ?_;rintro e w1 ⟨rfl,rfl⟩)
   | (go_at_call 77;(first|(with_reducible refine (K1.out _ HW0.out).mono ?_)|(with_reducible refine (K2.out _ HW0.out).mono ?_)|(with_reducible refine (K3.out _ HW0.out).mono ?_));rintro e w1 ⟨rfl,hb⟩;have HW1:=hid (Below.push HW0.out (Nat.le_of_eq HS.out.symm) hb);(try clear x0 x1 x2 x3 x4 x5 x6 x7 x8 x9 x10 x11 x12 x13 x14 x15 x16 x17);clear hb HW0;obtain ⟨x0,x1,x2,x3,x4,x5,x6,x7,x8,x9,x10,x11,x12,x13,x14,x15,x16,x17⟩:=HX.out _ HW1.out;have HW0:=HW1;clear HW1)
   | (go_at_call 97;(first|(with_reducible refine (N1.out _).mono ?_)|(with_reducible refine (N2.out _).mono ?_));rintro e w1 ⟨rfl,hb⟩;have HW1:=hid (Below.push HW0.out (Nat.le_of_eq HS.out.symm) hb);(try clear x0 x1 x2 x3 x4 x5 x6 x7 x8 x9 x10 x11 x12 x13 x14 x15 x16 x17);clear hb HW0;obtain ⟨x0,x1,x2,x3,x4,x5,x6,x7,x8,x9,x10,x11,x12,x13,x14,x15,x16,x17⟩:=HX.out _ HW1.out;have HW0:=HW1;clear HW1)
   | fail)
  go_ret
  exact HE.out _ _ _ HW0.out (.inl ⟨rfl,rfl⟩)
 | false =>
  have hz:Z=60:=by rw [hZ];rfl
  clear hZ
  subst hz
  go_enter Tryz.func142,Tryz.ntmps142
  go_wp2_with (first
   | (go_at_call 181;refine (CN.out _ _).mono ?_;rintro e w1 ⟨rfl,rfl⟩)
   | (go_at_call 77;(first|(with_reducible refine (K1.out _ HW0.out).mono ?_)|(with_reducible refine (K2.out _ HW0.out).mono ?_)|(with_reducible refine (K3.out _ HW0.out).mono ?_));rintro e w1 ⟨rfl,hb⟩;have HW1:=hid (Below.push HW0.out (Nat.le_of_eq HS.out.symm) hb);(try clear x0 x1 x2 x3 x4 x5 x6 x7 x8 x9 x10 x11 x12 x13 x14 x15 x16 x17);clear hb HW0;obtain ⟨x0,x1,x2,x3,x4,x5,x6,x7,x8,x9,x10,x11,x12,x13,x14,x15,x16,x17⟩:=HX.out _ HW1.out;have HW0:=HW1;clear HW1)
   | (go_at_call 97;(first|(with_reducible refine (N1.out _).mono ?_)|(with_reducible refine (N2.out _).mono ?_));rintro e w1 ⟨rfl,hb⟩;have HW1:=hid (Below.push HW0.out (Nat.le_of_eq HS.out.symm) hb);(try clear x0 x1 x2 x3 x4 x5 x6 x7 x8 x9 x10 x11 x12 x13 x14 x15 x16 x17);clear hb HW0;obtain ⟨x0,x1,x2,x3,x4,x5,x6,x7,x8,x9,x10,x11,x12,x13,x14,x15,x16,x17⟩:=HX.out _ HW1.out;have HW0:=HW1;clear HW1)
   | fail)
  go_ret
  exact HE.out _ _ _ HW0.out (.inr ⟨by decide,_,rfl⟩)
end Go.Proofs.YteckeagobafoiaaGreatDoor
