import Derived.Test.YtlecbblmaadpiaaGreatDoorKBunC
import Derived.Test.YtlecbblmaadpiaaGreatDoorKBunU
import Derived.Test.YtlecbblmaadpiaaGreatDoorKRfG
import Derived.Test.YtlecbblmaadpiaaGreatDoorKRfI
import Derived.Test.YtlecbblmaadpiaaGreatDoorKRfU
import Derived.Laws.Bits64b
namespace Go.Proofs.YtlecbblmaadpiaaGreatDoor
set_option maxRecDepth 100000
set_option maxHeartbeats 16000000
open Go.RowKit
open Go.Lib (hid)
theorem and4_or (f:Nat):f &&& 4=0∨f &&& 4=4:=by
 have h1:f &&& 4≤4:=Nat.and_le_right
 have h2:(f &&& 4) &&& 4=f &&& 4:=by rw [Nat.and_assoc,Nat.and_self]
 generalize f &&& 4=x at *
 match x,h1,h2 with
 | 0,_,_=>exact .inl rfl
 | 1,_,h=>exact absurd h (by decide)
 | 2,_,h=>exact absurd h (by decide)
 | 3,_,h=>exact absurd h (by decide)
 | 4,_,_=>exact .inr rfl
theorem and_whole (f:Nat):(f &&& 475140=4)↔(f &&& 4≠0∧f &&& 475136=0):=by
 have e:f &&& 475140=(f &&& 4) ||| (f &&& 475136):=by rw [show (475140:Nat)=4 ||| 475136 by decide,Nat.and_or_distrib_left]
 have h2:(f &&& 475136) &&& 475136=f &&& 475136:=by rw [Nat.and_assoc,Nat.and_self]
 rcases and4_or f with h0|h4
 ·
  rw [e,h0,Nat.zero_or]
  generalize f &&& 475136=y at *
  constructor
  ·
   intro h;subst h;exact absurd h2 (by decide)
  ·
   intro h;exact absurd rfl h.1
 ·
  rw [e,h4]
  have hle:(f &&& 475136)≤4 ||| (f &&& 475136):=Nat.right_le_or
  generalize f &&& 475136=y at *
  constructor
  ·
   intro h
   rw [h] at hle
   refine ⟨by decide,?_⟩
   match y,hle,h2 with
   | 0,_,_=>rfl
   | 1,_,h=>exact absurd h (by decide)
   | 2,_,h=>exact absurd h (by decide)
   | 3,_,h=>exact absurd h (by decide)
   | 4,_,h=>exact absurd h (by decide)
  ·
   rintro ⟨_,rfl⟩;rfl
theorem whole_split (f:Nat) (hf:f<18446744073709551616):wholeB f=(!(bits BinOp.and IntKind.u64 (f:Int) 4==0) && !(bits BinOp.and IntKind.u64 (f:Int) 475136 != 0)):=by
 unfold wholeB
 have e1:=bits_and_u64_nat f 475140 hf (by decide)
 have e2:=bits_and_u64_nat f 4 hf (by decide)
 have e3:=bits_and_u64_nat f 475136 hf (by decide)
 have c1:((475140:Nat):Int)=475140:=rfl
 have c2:((4:Nat):Int)=4:=rfl
 have c3:((475136:Nat):Int)=475136:=rfl
 rw [c1] at e1
 rw [c2] at e2
 rw [c3] at e3
 rw [e1,e2,e3,Bool.eq_iff_iff]
 have:=and_whole f
 simp
 omega
theorem rcheckU_any (h:BH) (l:List Blk) (A:Option Addr) (n c B:Nat) (w:World) (hd:h.Bd) (hr:RdL w B A n l) (hB:B≤w.heap.size) :
  Calls Tryz.prog 53 #[bunV h A n c] w fun e w'=>e=.returned (.int .i64 (cauU (h.bun l)))∧Below w.heap.size w w':=by
 have HB0:=hid ((Below.refl w.heap.size w).alloc nlr (.cells #[.int .u64 (h.flg:Int),.int .i64 h.crc,.int .i64 h.dsc,.string h.dnm,.int .u64 (h.dn:Int),.int .u64 (h.dv:Int),.int .i64 h.ssc,.string h.snm,.int .u64 (h.sn:Int),.int .u64 (h.sv:Int),.int .i64 h.rsc,.string h.rnm,.int .u64 (h.rn:Int),.int .u64 (h.rv:Int),.int .u64 (h.tim:Int),.int .u64 (h.seq:Int),.int .u64 (h.lif:Int),.slice A n c] 73))
 have HW0:Hid (Below (w.heap.size+1) (w.alloc (.cells #[.int .u64 (h.flg:Int),.int .i64 h.crc,.int .i64 h.dsc,.string h.dnm,.int .u64 (h.dn:Int),.int .u64 (h.dv:Int),.int .i64 h.ssc,.string h.snm,.int .u64 (h.sn:Int),.int .u64 (h.sv:Int),.int .i64 h.rsc,.string h.rnm,.int .u64 (h.rn:Int),.int .u64 (h.rv:Int),.int .u64 (h.tim:Int),.int .u64 (h.seq:Int),.int .u64 (h.lif:Int),.slice A n c] 73)) (w.alloc (.cells #[.int .u64 (h.flg:Int),.int .i64 h.crc,.int .i64 h.dsc,.string h.dnm,.int .u64 (h.dn:Int),.int .u64 (h.dv:Int),.int .i64 h.ssc,.string h.snm,.int .u64 (h.sn:Int),.int .u64 (h.sv:Int),.int .i64 h.rsc,.string h.rnm,.int .u64 (h.rn:Int),.int .u64 (h.rv:Int),.int .u64 (h.tim:Int),.int .u64 (h.seq:Int),.int .u64 (h.lif:Int),.slice A n c] 73))):=Below.refl _ _
 have HX:=hid (fun (W:World) (hb:Below (w.heap.size+1) (w.alloc (.cells #[.int .u64 (h.flg:Int),.int .i64 h.crc,.int .i64 h.dsc,.string h.dnm,.int .u64 (h.dn:Int),.int .u64 (h.dv:Int),.int .i64 h.ssc,.string h.snm,.int .u64 (h.sn:Int),.int .u64 (h.sv:Int),.int .i64 h.rsc,.string h.rnm,.int .u64 (h.rn:Int),.int .u64 (h.rv:Int),.int .u64 (h.tim:Int),.int .u64 (h.seq:Int),.int .u64 (h.lif:Int),.slice A n c] 73)) W)=>box18 rfl hb)
 have K1:=hid (fun W=>rcheckE_any h.dsc h.dnm h.dn h.dv W hd.dnm)
 have K2:=hid (fun W=>rcheckE_any h.ssc h.snm h.sn h.sv W hd.snm)
 have K3:=hid (fun W=>rcheckE_any h.rsc h.rnm h.rn h.rv W hd.rnm)
 have N1:=hid (fun W=>rnone_any h.dsc h.dnm h.dn h.dv W)
 have N2:=hid (fun W=>rnone_any h.ssc h.snm h.sn h.sv W)
 have HS:Hid ((w.alloc (.cells #[.int .u64 (h.flg:Int),.int .i64 h.crc,.int .i64 h.dsc,.string h.dnm,.int .u64 (h.dn:Int),.int .u64 (h.dv:Int),.int .i64 h.ssc,.string h.snm,.int .u64 (h.sn:Int),.int .u64 (h.sv:Int),.int .i64 h.rsc,.string h.rnm,.int .u64 (h.rn:Int),.int .u64 (h.rv:Int),.int .u64 (h.tim:Int),.int .u64 (h.seq:Int),.int .u64 (h.lif:Int),.slice A n c] 73)).heap.size=w.heap.size+1):=by show _=_;simp
 have KO:=hid (fun (W:World) (hb:Below w.heap.size w W) (h1:1≤n) (h2:n≤1000)=>ronce_any A n c B l W (hr.below (hb.mono hB)) (Nat.le_trans hB hb.size) h1 h2)
 obtain ⟨Z,hZ0⟩:∃ Z,Z=cauU (h.bun l):=⟨_,rfl⟩
 rw [← hZ0]
 have hZ:Z=if fragB h.flg=true then 62 else if (decide (0≤h.crc∧h.crc≤2)&&((checkB h.dst&&(checkB h.src&&checkB h.rep))&&((!(noneB h.dst))&&(!(noneB h.src && !(wholeB h.flg))))))=true∧(decide (1≤n∧n≤16)&&frm [] l)=true then 0 else 60:=by
  rw [hZ0]
  unfold cauU
  rw [primOk_dec]
  unfold blksOk
  rw [show (h.bun l).blks.length=n from hr.1]
  rfl
 rw [whole_split h.flg hd.flg] at hZ
 have e1:checkB (ep h.dsc h.dnm h.dn h.dv)=checkB h.dst:=rfl
 have e2:checkB (ep h.ssc h.snm h.sn h.sv)=checkB h.src:=rfl
 have e3:checkB (ep h.rsc h.rnm h.rn h.rv)=checkB h.rep:=rfl
 have e4:noneB (ep h.dsc h.dnm h.dn h.dv)=noneB h.dst:=rfl
 have e5:noneB (ep h.ssc h.snm h.sn h.sv)=noneB h.src:=rfl
 rw [e1] at K1
 rw [e2] at K2
 rw [e3] at K3
 rw [e4] at N1
 rw [e5] at N2
 have hfr:(bits BinOp.and IntKind.u64 (h.flg:Int) 1 != 0)=fragB h.flg:=rfl
 generalize fragB h.flg=fr at *
 generalize checkB h.dst=c1 at *
 generalize checkB h.src=c2 at *
 generalize checkB h.rep=c3 at *
 generalize noneB h.dst=n1 at *
 generalize noneB h.src=n2 at *
 generalize hb4:(bits BinOp.and IntKind.u64 (h.flg:Int) 4==0)=b4 at *
 generalize hbR:(bits BinOp.and IntKind.u64 (h.flg:Int) 475136 != 0)=bR at *
 generalize frm [] l=fm at *
 clear e1 e2 e3 e4 e5 hd hr hB hZ0
 unfold bunV epdV at *
 cases fr with
 | true =>
  obtain rfl:Z=62:=hZ
  clear hb4 hbR
  go_enter Tryz.func53,Tryz.ntmps53
  go_wp2_with fail
  go_ret
  exact ⟨rfl,HB0.out⟩
 | false =>
 rw [if_neg (by decide)] at hZ
 by_cases h1:h.crc<0
 ·
  obtain rfl:Z=60:=by rw [hZ,decide_eq_false (by omega)];rfl
  clear hZ
  go_enter Tryz.func53,Tryz.ntmps53
  go_wp2_with fail
  go_ret
  exact ⟨rfl,HB0.out⟩
 have h1':decide (h.crc<0)=false:=decide_eq_false h1
 by_cases h2:2<h.crc
 ·
  obtain rfl:Z=60:=by rw [hZ,decide_eq_false (by omega)];rfl
  clear hZ
  go_enter Tryz.func53,Tryz.ntmps53
  go_wp2_with fail
  go_ret
  exact ⟨rfl,HB0.out⟩
 have h2':decide (2<h.crc)=false:=decide_eq_false h2
 rw [decide_eq_true (by omega),Bool.true_and] at hZ
 go_enter Tryz.func53,Tryz.ntmps53
 go_wp2_with fail
 refine (K1.out _).mono ?_
 rintro e w1 ⟨rfl,hb⟩
 have Bw1:=hid (Below.push HW0.out (Nat.le_of_eq HS.out.symm) hb)
 have Tw1:=hid (HB0.out.trans (Bw1.out.mono (Nat.le_succ _)))
 clear hb
 obtain ⟨x0,x1,x2,x3,x4,x5,x6,x7,x8,x9,x10,x11,x12,x13,x14,x15,x16,x17⟩:=HX.out _ Bw1.out
 cases c1 with
 | false =>
  obtain rfl:Z=60:=by rw [hZ];simp
  clear hZ
  go_wp2_with fail
  go_ret
  exact ⟨rfl,Tw1.out⟩
 | true =>
 go_wp2_with fail
 refine (K2.out _).mono ?_
 rintro e w2 ⟨rfl,hb⟩
 have Bw2:=hid (Below.push Bw1.out (Nat.le_of_eq HS.out.symm) hb)
 have Tw2:=hid (HB0.out.trans (Bw2.out.mono (Nat.le_succ _)))
 clear hb
 clear x0 x1 x2 x3 x4 x5 x6 x7 x8 x9 x10 x11 x12 x13 x14 x15 x16 x17
 obtain ⟨x0,x1,x2,x3,x4,x5,x6,x7,x8,x9,x10,x11,x12,x13,x14,x15,x16,x17⟩:=HX.out _ Bw2.out
 cases c2 with
 | false =>
  obtain rfl:Z=60:=by rw [hZ];simp
  clear hZ
  go_wp2_with fail
  go_ret
  exact ⟨rfl,Tw2.out⟩
 | true =>
 go_wp2_with fail
 refine (K3.out _).mono ?_
 rintro e w3 ⟨rfl,hb⟩
 have Bw3:=hid (Below.push Bw2.out (Nat.le_of_eq HS.out.symm) hb)
 have Tw3:=hid (HB0.out.trans (Bw3.out.mono (Nat.le_succ _)))
 clear hb
 clear x0 x1 x2 x3 x4 x5 x6 x7 x8 x9 x10 x11 x12 x13 x14 x15 x16 x17
 obtain ⟨x0,x1,x2,x3,x4,x5,x6,x7,x8,x9,x10,x11,x12,x13,x14,x15,x16,x17⟩:=HX.out _ Bw3.out
 cases c3 with
 | false =>
  obtain rfl:Z=60:=by rw [hZ];simp
  clear hZ
  go_wp2_with fail
  go_ret
  exact ⟨rfl,Tw3.out⟩
 | true =>
 go_wp2_with fail
 refine (N1.out _).mono ?_
 rintro e w4 ⟨rfl,hb⟩
 have Bw4:=hid (Below.push Bw3.out (Nat.le_of_eq HS.out.symm) hb)
 have Tw4:=hid (HB0.out.trans (Bw4.out.mono (Nat.le_succ _)))
 clear hb
 clear x0 x1 x2 x3 x4 x5 x6 x7 x8 x9 x10 x11 x12 x13 x14 x15 x16 x17
 obtain ⟨x0,x1,x2,x3,x4,x5,x6,x7,x8,x9,x10,x11,x12,x13,x14,x15,x16,x17⟩:=HX.out _ Bw4.out
 cases n1 with
 | true =>
  obtain rfl:Z=60:=by rw [hZ];simp
  clear hZ
  go_wp2_with fail
  go_ret
  exact ⟨rfl,Tw4.out⟩
 | false =>
 by_cases hn1:n<1
 ·
  have q1:(n:Int)<1:=by omega
  have q2:decide ((n:Int)<1)=true:=decide_eq_true q1
  obtain rfl:Z=60:=by rw [hZ,decide_eq_false (show ¬ (1≤n∧n≤16) by omega)];simp
  clear hZ
  go_wp2_with fail
  go_ret
  exact ⟨rfl,Tw4.out⟩
 have q1:¬ (n:Int)<1:=by omega
 have q2:decide ((n:Int)<1)=false:=decide_eq_false q1
 by_cases hn16:16<n
 ·
  have q3:(16:Int)<(n:Int):=by omega
  have q4:decide ((16:Int)<(n:Int))=true:=decide_eq_true q3
  obtain rfl:Z=60:=by rw [hZ,decide_eq_false (show ¬ (1≤n∧n≤16) by omega)];simp
  clear hZ
  go_wp2_with fail
  go_ret
  exact ⟨rfl,Tw4.out⟩
 have q3:¬ (16:Int)<(n:Int):=by omega
 have q4:decide ((16:Int)<(n:Int))=false:=decide_eq_false q3
 rw [decide_eq_true (show 1≤n∧n≤16 by omega),Bool.true_and] at hZ
 go_wp2_with fail
 refine (KO.out _ Tw4.out (by omega) (by omega)).mono ?_
 rintro e w5 ⟨rfl,hb⟩
 have Bw5:=hid (Below.push Bw4.out (Nat.le_of_eq HS.out.symm) hb)
 have Tw5:=hid (HB0.out.trans (Bw5.out.mono (Nat.le_succ _)))
 clear hb x0 x1 x2 x3 x4 x5 x6 x7 x8 x9 x10 x11 x12 x13 x14 x15 x16 x17
 obtain ⟨x0,x1,x2,x3,x4,x5,x6,x7,x8,x9,x10,x11,x12,x13,x14,x15,x16,x17⟩:=HX.out _ Bw5.out
 cases fm with
 | false =>
  obtain rfl:Z=60:=by rw [hZ];simp
  clear hZ
  go_wp2_with fail
  go_ret
  exact ⟨rfl,Tw5.out⟩
 | true =>
 go_wp2_with fail
 refine (N2.out _).mono ?_
 rintro e w6 ⟨rfl,hb⟩
 have Bw6:=hid (Below.push Bw5.out (Nat.le_of_eq HS.out.symm) hb)
 have Tw6:=hid (HB0.out.trans (Bw6.out.mono (Nat.le_succ _)))
 clear hb x0 x1 x2 x3 x4 x5 x6 x7 x8 x9 x10 x11 x12 x13 x14 x15 x16 x17
 obtain ⟨x0,x1,x2,x3,x4,x5,x6,x7,x8,x9,x10,x11,x12,x13,x14,x15,x16,x17⟩:=HX.out _ Bw6.out
 cases n2 with
 | false =>
  obtain rfl:Z=0:=by rw [hZ];simp
  clear hZ
  go_wp2_with fail
  go_ret
  exact ⟨rfl,Tw6.out⟩
 | true =>
 cases b4 with
 | true =>
  obtain rfl:Z=60:=by rw [hZ];simp
  clear hZ
  go_wp2_with fail
  go_ret
  exact ⟨rfl,Tw6.out⟩
 | false =>
 cases bR with
 | true =>
  obtain rfl:Z=60:=by rw [hZ];simp
  clear hZ
  go_wp2_with fail
  go_ret
  exact ⟨rfl,Tw6.out⟩
 | false =>
  obtain rfl:Z=0:=by rw [hZ];simp
  clear hZ
  go_wp2_with fail
  go_ret
  exact ⟨rfl,Tw6.out⟩
open Go.Lib (decDigits)
theorem rpayU_any (h:BH) (l:List Blk) (A:Option Addr) (n c B:Nat) (w:World) (hd:h.Bd) (hr:RdL w B A n l) (hB:B≤w.heap.size) :
  Calls Tryz.prog 57 #[bunV h A n c] w (Gives (payU (h.bun l)) w):=by
 have HB0:=hid ((Below.refl w.heap.size w).alloc nlr (.cells #[.int .u64 (h.flg:Int),.int .i64 h.crc,.int .i64 h.dsc,.string h.dnm,.int .u64 (h.dn:Int),.int .u64 (h.dv:Int),.int .i64 h.ssc,.string h.snm,.int .u64 (h.sn:Int),.int .u64 (h.sv:Int),.int .i64 h.rsc,.string h.rnm,.int .u64 (h.rn:Int),.int .u64 (h.rv:Int),.int .u64 (h.tim:Int),.int .u64 (h.seq:Int),.int .u64 (h.lif:Int),.slice A n c] 73))
 have HRW:=hid (fun (W:World) (hb:Below (w.heap.size+1) (w.alloc (.cells #[.int .u64 (h.flg:Int),.int .i64 h.crc,.int .i64 h.dsc,.string h.dnm,.int .u64 (h.dn:Int),.int .u64 (h.dv:Int),.int .i64 h.ssc,.string h.snm,.int .u64 (h.sn:Int),.int .u64 (h.sv:Int),.int .i64 h.rsc,.string h.rnm,.int .u64 (h.rn:Int),.int .u64 (h.rv:Int),.int .u64 (h.tim:Int),.int .u64 (h.seq:Int),.int .u64 (h.lif:Int),.slice A n c] 73)) W)=>row_of_box (w:=w) rfl hb)
 have HS0:Hid ((w.alloc (.cells #[.int .u64 (h.flg:Int),.int .i64 h.crc,.int .i64 h.dsc,.string h.dnm,.int .u64 (h.dn:Int),.int .u64 (h.dv:Int),.int .i64 h.ssc,.string h.snm,.int .u64 (h.sn:Int),.int .u64 (h.sv:Int),.int .i64 h.rsc,.string h.rnm,.int .u64 (h.rn:Int),.int .u64 (h.rv:Int),.int .u64 (h.tim:Int),.int .u64 (h.seq:Int),.int .u64 (h.lif:Int),.slice A n c] 73)).heap.size=w.heap.size+1):=by show _=_;simp
 have HW0:Hid (Below (w.heap.size+1) (w.alloc (.cells #[.int .u64 (h.flg:Int),.int .i64 h.crc,.int .i64 h.dsc,.string h.dnm,.int .u64 (h.dn:Int),.int .u64 (h.dv:Int),.int .i64 h.ssc,.string h.snm,.int .u64 (h.sn:Int),.int .u64 (h.sv:Int),.int .i64 h.rsc,.string h.rnm,.int .u64 (h.rn:Int),.int .u64 (h.rv:Int),.int .u64 (h.tim:Int),.int .u64 (h.seq:Int),.int .u64 (h.lif:Int),.slice A n c] 73)) (w.alloc (.cells #[.int .u64 (h.flg:Int),.int .i64 h.crc,.int .i64 h.dsc,.string h.dnm,.int .u64 (h.dn:Int),.int .u64 (h.dv:Int),.int .i64 h.ssc,.string h.snm,.int .u64 (h.sn:Int),.int .u64 (h.sv:Int),.int .i64 h.rsc,.string h.rnm,.int .u64 (h.rn:Int),.int .u64 (h.rv:Int),.int .u64 (h.tim:Int),.int .u64 (h.seq:Int),.int .u64 (h.lif:Int),.slice A n c] 73))):=Below.refl _ _
 have C1:=hid (rcheckU_any h l A n c B (w.alloc (.cells #[.int .u64 (h.flg:Int),.int .i64 h.crc,.int .i64 h.dsc,.string h.dnm,.int .u64 (h.dn:Int),.int .u64 (h.dv:Int),.int .i64 h.ssc,.string h.snm,.int .u64 (h.sn:Int),.int .u64 (h.sv:Int),.int .i64 h.rsc,.string h.rnm,.int .u64 (h.rn:Int),.int .u64 (h.rv:Int),.int .u64 (h.tim:Int),.int .u64 (h.seq:Int),.int .u64 (h.lif:Int),.slice A n c] 73)) hd (hr.below (HB0.out.mono hB)) (Nat.le_trans hB HB0.out.size))
 have HR:=hid hr
 have HB:=hid hB
 have HP:Hid (payU (h.bun l)=if cauU (h.bun l)≠0 then [] else (l.getLast?.map (·.dat)).getD []):=rfl
 by_cases hz:cauU (h.bun l)=0
 case neg =>
  have hz1:(cauU (h.bun l) != 0)=true:=by simp [hz]
  have hz2:(cauU (h.bun l)==0)=false:=by simp [hz]
  have HE:Hid (payU (h.bun l)=[]):=by show _=_;rw [HP.out,if_pos hz]
  rw [HE.out]
  clear hr hB hd hz HE HP
  generalize cauU (h.bun l)=z at *
  unfold bunV at *
  go_enter Tryz.func57,Tryz.ntmps57
  go_wp2_with (first
   | (refine wpList_ld18 rfl (.tmp 1) rfl _ rfl _ _ (HRW.out _ HW0.out) rfl ?_)
   | fail)
  refine C1.out.mono ?_
  rintro e w1 ⟨rfl,hb⟩
  have B1:=hid (HB0.out.trans (hb.mono HB0.out.size))
  clear hb
  go_wp2_with fail
  go_ret
  exact ⟨_,_,_,rfl,Rd.nil_,Nat.le_refl _,B1.out⟩
 have hl1:=(blksOk_len (cauU_0.1 hz).2.2).1
 have e16:(h.bun l).blks=l:=rfl
 rw [e16] at hl1
 rw [hz] at C1
 rw [if_neg (by simpa using hz)] at HP
 have hn1:1≤n:=by rw [← HR.out.1];exact hl1
 obtain ⟨M,hM⟩:∃ M,n=M+1:=⟨n - 1,by omega⟩
 have hM1:(n:Int) - 1=(M:Int):=by omega
 have hMl:M<l.length:=by rw [HR.out.1];omega
 obtain ⟨b,o,rfl,hbB,hks⟩:=HR.out.2.1 (by omega)
 obtain ⟨A1,nd,cd,hk⟩:=hks.get M hMl
 have hlast:(l.getLast?.map (·.dat)).getD []=(l[M]'hMl).dat:=by
  rw [List.getLast?_eq_getElem?,HR.out.1,hM,Nat.add_sub_cancel,List.getElem?_eq_getElem hMl];rfl
 rw [hlast] at HP
 rw [HP.out]
 generalize l[M]=x at *
 have hi1:(M:Int)<(n:Int):=by omega
 have hwM:wrap64 (M:Int)=(M:Int):=by have:=HR.out.2.2;unfold wrap64;omega
 have HK:=hid hk
 have HLT:=hid hbB
 clear hz hl1 e16 hks hk hlast hM hbB hMl HP hr hB hd
 unfold bunV at *
 go_enter Tryz.func57,Tryz.ntmps57
 go_wp2_with (first
  | (refine wpList_ld18 rfl (.tmp 1) rfl _ rfl _ _ (HRW.out _ HW0.out) rfl ?_)
  | fail)
 refine C1.out.mono ?_
 rintro e w1 ⟨rfl,hb⟩
 have B1:=hid (Below.push HW0.out (Nat.le_of_eq HS0.out.symm) hb)
 have T1:=hid (HB0.out.trans (B1.out.mono (Nat.le_succ _)))
 have T2:=hid (T1.out.alloc T1.out.size (.cells #[] 5))
 have x17:(w1.alloc (.cells #[] 5)).cell? ⟨w.heap.size,17,none⟩=some (.slice (some ⟨b,o,none⟩) n c):=cell_row (HRW.out _ (B1.out.alloc (by have h1:=B1.out.size;rw [HS0.out] at h1;exact h1) _)) 17 rfl
 have hk1:=HK.out.below (T2.out.mono HB.out) HLT.out
 have g4:=hk1.k4
 have RD:=hid hk1.rd
 have HND:Hid (nd≤140737488355328):=hk1.le.2
 have O1:Hid (Ob (w1.alloc (.cells #[] 5)) w.heap.size 5 (.slice (some ⟨w1.heap.size,0,none⟩) 0 0) []):=Ob.lit w1 [] #[] rfl T1.out.size 0 rfl (by decide)
 clear hb hk1
 go_wp2_with (first
  | (at_builtin;refine wpList_appB rfl (.tmp 6) (.tmp 15) 27 rfl w.heap.size 5 rfl info_u8 _ [] rfl O1.out _ _ _ _ x.dat rfl RD.out (by have:=HND.out;simp;omega) T2.out.size ?_;intro v3 w3 ho3 hb3;have O3:=hid ho3;have B3:=hid (T2.out.trans hb3);clear ho3 hb3)
  | fail)
 have ho:=O3.out
 rw [List.nil_append] at ho
 obtain ⟨A3,c3,rfl,hc3,-,hr3⟩:=ho.rd
 go_ret
 exact ⟨_,_,_,rfl,hr3,hc3,B3.out⟩
theorem rkeyU_any (h:BH) (l:List Blk) (A:Option Addr) (n c B:Nat) (w:World) (hd:h.Bd) (hr:RdL w B A n l) (hB:B≤w.heap.size) :
  Calls Tryz.prog 55 #[bunV h A n c] w (fun e w'=>e=.returned (.string (strL (keyU (h.bun l))))∧Below w.heap.size w w'):=by
 have HB0:=hid ((Below.refl w.heap.size w).alloc nlr (.cells #[.int .u64 (h.flg:Int),.int .i64 h.crc,.int .i64 h.dsc,.string h.dnm,.int .u64 (h.dn:Int),.int .u64 (h.dv:Int),.int .i64 h.ssc,.string h.snm,.int .u64 (h.sn:Int),.int .u64 (h.sv:Int),.int .i64 h.rsc,.string h.rnm,.int .u64 (h.rn:Int),.int .u64 (h.rv:Int),.int .u64 (h.tim:Int),.int .u64 (h.seq:Int),.int .u64 (h.lif:Int),.slice A n c] 73))
 have HRW:=hid (fun (W:World) (hb:Below (w.heap.size+1) (w.alloc (.cells #[.int .u64 (h.flg:Int),.int .i64 h.crc,.int .i64 h.dsc,.string h.dnm,.int .u64 (h.dn:Int),.int .u64 (h.dv:Int),.int .i64 h.ssc,.string h.snm,.int .u64 (h.sn:Int),.int .u64 (h.sv:Int),.int .i64 h.rsc,.string h.rnm,.int .u64 (h.rn:Int),.int .u64 (h.rv:Int),.int .u64 (h.tim:Int),.int .u64 (h.seq:Int),.int .u64 (h.lif:Int),.slice A n c] 73)) W)=>row_of_box (w:=w) rfl hb)
 have HS0:Hid ((w.alloc (.cells #[.int .u64 (h.flg:Int),.int .i64 h.crc,.int .i64 h.dsc,.string h.dnm,.int .u64 (h.dn:Int),.int .u64 (h.dv:Int),.int .i64 h.ssc,.string h.snm,.int .u64 (h.sn:Int),.int .u64 (h.sv:Int),.int .i64 h.rsc,.string h.rnm,.int .u64 (h.rn:Int),.int .u64 (h.rv:Int),.int .u64 (h.tim:Int),.int .u64 (h.seq:Int),.int .u64 (h.lif:Int),.slice A n c] 73)).heap.size=w.heap.size+1):=by show _=_;simp
 have HW0:Hid (Below (w.heap.size+1) (w.alloc (.cells #[.int .u64 (h.flg:Int),.int .i64 h.crc,.int .i64 h.dsc,.string h.dnm,.int .u64 (h.dn:Int),.int .u64 (h.dv:Int),.int .i64 h.ssc,.string h.snm,.int .u64 (h.sn:Int),.int .u64 (h.sv:Int),.int .i64 h.rsc,.string h.rnm,.int .u64 (h.rn:Int),.int .u64 (h.rv:Int),.int .u64 (h.tim:Int),.int .u64 (h.seq:Int),.int .u64 (h.lif:Int),.slice A n c] 73)) (w.alloc (.cells #[.int .u64 (h.flg:Int),.int .i64 h.crc,.int .i64 h.dsc,.string h.dnm,.int .u64 (h.dn:Int),.int .u64 (h.dv:Int),.int .i64 h.ssc,.string h.snm,.int .u64 (h.sn:Int),.int .u64 (h.sv:Int),.int .i64 h.rsc,.string h.rnm,.int .u64 (h.rn:Int),.int .u64 (h.rv:Int),.int .u64 (h.tim:Int),.int .u64 (h.seq:Int),.int .u64 (h.lif:Int),.slice A n c] 73))):=Below.refl _ _
 have C1:=hid (rcheckU_any h l A n c B (w.alloc (.cells #[.int .u64 (h.flg:Int),.int .i64 h.crc,.int .i64 h.dsc,.string h.dnm,.int .u64 (h.dn:Int),.int .u64 (h.dv:Int),.int .i64 h.ssc,.string h.snm,.int .u64 (h.sn:Int),.int .u64 (h.sv:Int),.int .i64 h.rsc,.string h.rnm,.int .u64 (h.rn:Int),.int .u64 (h.rv:Int),.int .u64 (h.tim:Int),.int .u64 (h.seq:Int),.int .u64 (h.lif:Int),.slice A n c] 73)) hd (hr.below (HB0.out.mono hB)) (Nat.le_trans hB HB0.out.size))
 have HR:=hid hr
 have HB:=hid hB
 have HP:Hid (keyU (h.bun l)=if cauU (h.bun l)≠0 then [] else textE h.src++[32]++decDigits h.tim++[32]++decDigits h.seq):=rfl
 by_cases hz:cauU (h.bun l)=0
 case neg =>
  have hz1:(cauU (h.bun l) != 0)=true:=by simp [hz]
  have hz2:(cauU (h.bun l)==0)=false:=by simp [hz]
  have HE:Hid (keyU (h.bun l)=[]):=by show _=_;rw [HP.out,if_pos hz]
  rw [HE.out]
  clear hr hB hd hz HE HP
  generalize cauU (h.bun l)=z at *
  unfold bunV at *
  go_enter Tryz.func55,Tryz.ntmps55
  go_wp2_with (first
   | (refine wpList_ld18 rfl (.tmp 1) rfl _ rfl _ _ (HRW.out _ HW0.out) rfl ?_)
   | fail)
  refine C1.out.mono ?_
  rintro e w1 ⟨rfl,hb⟩
  have B1:=hid (HB0.out.trans (hb.mono HB0.out.size))
  clear hb
  go_wp2_with fail
  go_ret
  exact ⟨rfl,B1.out⟩
 rw [hz] at C1
 rw [if_neg (by simpa using hz)] at HP
 have CT:=hid (fun W=>rtextE_any h.ssc h.snm h.sn h.sv W hd.snm hd.sn hd.sv)
 have CD1:=hid (fun W=>rdec_any h.tim W hd.tim)
 have CD2:=hid (fun W=>rdec_any h.seq W hd.seq)
 have e1:ep h.ssc h.snm h.sn h.sv=h.src:=rfl
 rw [e1] at CT
 have HKS:Hid (strL (keyU (h.bun l))=strL (textE h.src)++⟨#[32]⟩++strL (decDigits h.tim)++⟨#[32]⟩++strL (decDigits h.seq)):=by
  show _=_
  rw [HP.out,show (⟨#[32]⟩:ByteArray)=strL [32] from rfl,strL_app,strL_app,strL_app,strL_app]
 rw [HKS.out]
 have htl:(strL (textE h.src)).size≤200:=by
  rw [strL_size]
  have hck:checkB h.src=true:=(primOk_iff.1 (cauU_0.1 hz).2.1).1.2.2.1
  by_cases h1:h.src.scheme=1
  ·
   obtain ⟨-,-,hm⟩:=check_dtn hck h1
   by_cases h0:h.src.name=[]
   ·
    rw [textE_none hck h1 h0];decide
   ·
    rw [textE_dtn hck h1 h0,List.length_append]
    obtain ⟨r,hr,-,-,-,hl⟩:=name_head (hm.resolve_left h0)
    have:dtnL.length=4:=rfl
    omega
  ·
   obtain ⟨h2,hm,-,h3,h4⟩:=check_ipn hck h1
   rw [textE_ipn hck h2,List.length_append,List.length_append,List.length_cons]
   have a1:=nd20 h.src.node (by omega)
   have a2:=nd20 h.src.service (by omega)
   have:ipnL.length=4:=rfl
   omega
 have hd1:(strL (decDigits h.tim)).size≤20:=by rw [strL_size];exact nd20 _ hd.tim
 have hd2:(strL (decDigits h.seq)).size≤20:=by rw [strL_size];exact nd20 _ hd.seq
 clear hr hB hd hz e1 HKS HP HR HB
 generalize strL (textE h.src)=tx at *
 generalize strL (decDigits h.tim)=d1 at *
 generalize strL (decDigits h.seq)=d2 at *
 have z1:¬ 9223372036854775807<tx.size+1:=by omega
 have z2:¬ 9223372036854775807<tx.size+1+d1.size:=by omega
 have z3:¬ 9223372036854775807<tx.size+1+d1.size+1:=by omega
 have z4:¬ 9223372036854775807<tx.size+1+d1.size+1+d2.size:=by omega
 unfold bunV epdV at *
 go_enter Tryz.func55,Tryz.ntmps55
 go_wp2_with (first
  | (refine wpList_ld18 rfl (.tmp 1) rfl _ rfl _ _ (HRW.out _ HW0.out) rfl ?_)
  | fail)
 refine C1.out.mono ?_
 rintro e w1 ⟨rfl,hb⟩
 have B1:=hid (Below.push HW0.out (Nat.le_of_eq HS0.out.symm) hb)
 have T1:=hid (HB0.out.trans (B1.out.mono (Nat.le_succ _)))
 have R1:=hid (HRW.out _ B1.out)
 clear hb
 go_wp2_with fail
 refine wp_region_held_drew (S:=fun W=>Below w1.heap.size w1 W) (by kernel_rfl) Below.drew_ (fun hHeld=>?_)
 have BC:=hid hHeld
 refine takeR (i:=0) (v:=?v0) rfl (by kernel_rfl) (by kernel_rfl) (by kernel_rfl) (fun _ _ _ h=>h) (by rfl) ?hy0 (by assumption) ?rest0
 case hy0=>(intro W hSw;go_simp;try with_reducible rfl)
 try simp only [Act.put]
 try simp only [List.setIfInBounds_toArray]
 try simp only [List.set_cons_succ]
 try simp only [List.set_cons_zero]
 refine takeR (i:=1) (v:=?v1) rfl (by kernel_rfl) (by kernel_rfl) (by kernel_rfl) (fun _ _ _ h=>h) (by rfl) ?hy1 (by assumption) ?rest1
 case hy1=>(intro W hSw;have x6:=cell_row (rowBelow R1.out hSw (row_lt R1.out)) 6 rfl;have x7:=cell_row (rowBelow R1.out hSw (row_lt R1.out)) 7 rfl;have x8:=cell_row (rowBelow R1.out hSw (row_lt R1.out)) 8 rfl;have x9:=cell_row (rowBelow R1.out hSw (row_lt R1.out)) 9 rfl;go_simp;try with_reducible rfl)
 try simp only [Act.put]
 try simp only [List.setIfInBounds_toArray]
 try simp only [List.set_cons_succ]
 try simp only [List.set_cons_zero]
 refine takeR (i:=4) (v:=?v4) rfl (by kernel_rfl) (by kernel_rfl) (by kernel_rfl) (fun _ _ _ h=>h) (by rfl) ?hy4 (by assumption) ?rest4
 case hy4=>(intro W hSw;go_simp;try with_reducible rfl)
 try simp only [Act.put]
 try simp only [List.setIfInBounds_toArray]
 try simp only [List.set_cons_succ]
 try simp only [List.set_cons_zero]
 refine takeR (i:=5) (v:=?v5) rfl (by kernel_rfl) (by kernel_rfl) (by kernel_rfl) (fun _ _ _ h=>h) (by rfl) ?hy5 (by assumption) ?rest5
 case hy5=>(intro W hSw;have x14:=cell_row (rowBelow R1.out hSw (row_lt R1.out)) 14 rfl;go_simp;try with_reducible rfl)
 try simp only [Act.put]
 try simp only [List.setIfInBounds_toArray]
 try simp only [List.set_cons_succ]
 try simp only [List.set_cons_zero]
 refine takeR (i:=9) (v:=?v9) rfl (by kernel_rfl) (by kernel_rfl) (by kernel_rfl) (fun _ _ _ h=>h) (by rfl) ?hy9 (by assumption) ?rest9
 case hy9=>(intro W hSw;go_simp;try with_reducible rfl)
 try simp only [Act.put]
 try simp only [List.setIfInBounds_toArray]
 try simp only [List.set_cons_succ]
 try simp only [List.set_cons_zero]
 refine takeR (i:=10) (v:=?v10) rfl (by kernel_rfl) (by kernel_rfl) (by kernel_rfl) (fun _ _ _ h=>h) (by rfl) ?hy10 (by assumption) ?rest10
 case hy10=>(intro W hSw;have x15:=cell_row (rowBelow R1.out hSw (row_lt R1.out)) 15 rfl;go_simp;try with_reducible rfl)
 try simp only [Act.put]
 try simp only [List.setIfInBounds_toArray]
 try simp only [List.set_cons_succ]
 try simp only [List.set_cons_zero]
 refine wpAnyH_ready (rs:=[2]) (by kernel_rfl) (by simp) ?_
 refine AllReadyH.cons rfl (fun K hK=>?_) AllReadyH.nil
 rw [if_pos (by rfl)]
 go_simp
 refine (CT.out _).mono ?_
 rintro e w2 ⟨rfl,hb⟩
 replace BC:=hid (BC.out.trans (hb.mono BC.out.size))
 clear hb
 go_simp
 refine hK.out _ _ BC.out (fun hHeld=>?_)
 try simp only [Act.put]
 try simp only [List.setIfInBounds_toArray]
 try simp only [List.set_cons_succ]
 try simp only [List.set_cons_zero]
 clear hK K
 refine takeR (i:=3) (v:=?v3) rfl (by kernel_rfl) (by kernel_rfl) (by kernel_rfl) (fun _ _ _ h=>h) (by rfl) ?hy3 (by assumption) ?rest3
 case hy3=>(intro W hSw;go_simp;try with_reducible rfl)
 try simp only [Act.put]
 try simp only [List.setIfInBounds_toArray]
 try simp only [List.set_cons_succ]
 try simp only [List.set_cons_zero]
 refine wpAnyH_ready (rs:=[6]) (by kernel_rfl) (by simp) ?_
 refine AllReadyH.cons rfl (fun K hK=>?_) AllReadyH.nil
 rw [if_pos (by rfl)]
 go_simp
 refine (CD1.out _).mono ?_
 rintro e w3 ⟨rfl,rfl⟩
 go_simp
 refine hK.out _ _ BC.out (fun hHeld=>?_)
 try simp only [Act.put]
 try simp only [List.setIfInBounds_toArray]
 try simp only [List.set_cons_succ]
 try simp only [List.set_cons_zero]
 clear hK K
 refine takeR (i:=7) (v:=?v7) rfl (by kernel_rfl) (by kernel_rfl) (by kernel_rfl) (fun _ _ _ h=>h) (by rfl) ?hy7 (by assumption) ?rest7
 case hy7=>(intro W hSw;go_simp;try with_reducible rfl)
 try simp only [Act.put]
 try simp only [List.setIfInBounds_toArray]
 try simp only [List.set_cons_succ]
 try simp only [List.set_cons_zero]
 refine takeR (i:=8) (v:=?v8) rfl (by kernel_rfl) (by kernel_rfl) (by kernel_rfl) (fun _ _ _ h=>h) (by rfl) ?hy8 (by assumption) ?rest8
 case hy8=>(intro W hSw;go_simp;try with_reducible rfl)
 try simp only [Act.put]
 try simp only [List.setIfInBounds_toArray]
 try simp only [List.set_cons_succ]
 try simp only [List.set_cons_zero]
 refine wpAnyH_ready (rs:=[11]) (by kernel_rfl) (by simp) ?_
 refine AllReadyH.cons rfl (fun K hK=>?_) AllReadyH.nil
 rw [if_pos (by rfl)]
 go_simp
 refine (CD2.out _).mono ?_
 rintro e w3 ⟨rfl,rfl⟩
 go_simp
 refine hK.out _ _ BC.out (fun hHeld=>?_)
 try simp only [Act.put]
 try simp only [List.setIfInBounds_toArray]
 try simp only [List.set_cons_succ]
 try simp only [List.set_cons_zero]
 clear hK K
 refine takeR (i:=12) (v:=?v12) rfl (by kernel_rfl) (by kernel_rfl) (by kernel_rfl) (fun _ _ _ h=>h) (by rfl) ?hy12 (by assumption) ?rest12
 case hy12=>(intro W hSw;go_simp;try with_reducible rfl)
 try simp only [Act.put]
 try simp only [List.setIfInBounds_toArray]
 try simp only [List.set_cons_succ]
 try simp only [List.set_cons_zero]
 refine takeR (i:=13) (v:=?v13) rfl (by kernel_rfl) (by kernel_rfl) (by kernel_rfl) (fun _ _ _ h=>h) (by rfl) ?hy13 (by assumption) ?rest13
 case hy13=>(intro W hSw;go_simp;try with_reducible rfl)
 try simp only [Act.put]
 try simp only [List.setIfInBounds_toArray]
 try simp only [List.set_cons_succ]
 try simp only [List.set_cons_zero]
 refine wpAnyH_done (by kernel_rfl) ?_ _
 go_wp2_with fail
 go_ret
 exact ⟨rfl,T1.out.trans (BC.out.mono T1.out.size)⟩
end Go.Proofs.YtlecbblmaadpiaaGreatDoor
