/- What Check of layer 6's reference returns. (Made by gen/RfV.py, gen/bun.py.) -/
import Derived.Test.YtldnokgdgafphaaGreatDoorJBunC
import Derived.Test.YtldnokgdgafphaaGreatDoorJBunDr
import Derived.Test.YtldnokgdgafphaaGreatDoorJBunY
import Derived.Test.YtldnokgdgafphaaGreatDoorJRfU
import Derived.Laws.Bits64b
namespace Go.Proofs.YtldnokgdgafphaaGreatDoor
open Go.RowKit
theorem and4_or (f:Nat):f &&& 4=0∨f &&& 4=4:=by
  have h1:f &&& 4≤4:=Nat.and_le_right
  have h2:(f &&& 4) &&& 4=f &&& 4:=by rw [Nat.and_assoc,Nat.and_self]
  generalize f &&& 4=x at *
  match x,h1,h2 with
  | 0,_,_=>exact .inl rfl
  | 1,_,h=>exact absurd h (by decide)
  | 2,_,h=>exact absurd h (by decide)
  | 3,_,h=>exact absurd h (by decide)
  | 4,_,_=>exact .inr rfl
theorem and_whole (f:Nat):(f &&& 475140=4)↔(f &&& 4≠0∧f &&& 475136=0):=by
  have e:f &&& 475140=(f &&& 4) ||| (f &&& 475136):=by rw [show (475140:Nat)=4 ||| 475136 by decide,Nat.and_or_distrib_left]
  have h2:(f &&& 475136) &&& 475136=f &&& 475136:=by rw [Nat.and_assoc,Nat.and_self]
  rcases and4_or f with h0 | h4
  · rw [e,h0,Nat.zero_or]
    generalize f &&& 475136=y at *
    constructor
    · intro h;subst h;exact absurd h2 (by decide)
    · intro h;exact absurd rfl h.1
  · rw [e,h4]
    have hle:(f &&& 475136)≤4 ||| (f &&& 475136):=Nat.right_le_or
    generalize f &&& 475136=y at *
    constructor
    · intro h
      rw [h] at hle
      refine ⟨by decide,?_⟩
      match y,hle,h2 with
      | 0,_,_=>rfl
      | 1,_,h=>exact absurd h (by decide)
      | 2,_,h=>exact absurd h (by decide)
      | 3,_,h=>exact absurd h (by decide)
      | 4,_,h=>exact absurd h (by decide)
    · rintro ⟨_,rfl⟩;rfl
theorem whole_split (f:Nat) (hf:f<18446744073709551616):wholeB f=(!(bits BinOp.and IntKind.u64 (f:Int) 4==0) && !(bits BinOp.and IntKind.u64 (f:Int) 475136 != 0)):=by
  unfold wholeB
  have e1:=bits_and_u64_nat f 475140 hf (by decide)
  have e2:=bits_and_u64_nat f 4 hf (by decide)
  have e3:=bits_and_u64_nat f 475136 hf (by decide)
  have c1:((475140:Nat):Int)=475140:=rfl
  have c2:((4:Nat):Int)=4:=rfl
  have c3:((475136:Nat):Int)=475136:=rfl
  rw [c1] at e1
  rw [c2] at e2
  rw [c3] at e3
  rw [e1,e2,e3,Bool.eq_iff_iff]
  have:=and_whole f
  simp
  omega
set_option maxRecDepth 100000 in
set_option maxHeartbeats 16000000 in
theorem rcheckU_any (h:BH) (l:List Blk) (A:Option Addr) (n c B:Nat) (w:World) (hd:h.Bd) (hr:RdL w B A n l) (hB:B≤w.heap.size) :
    Calls Tryz.prog 13 #[bunV h A n c] w fun e w'=>e=.returned (.int .i64 (cauU (h.bun l)))∧Below w.heap.size w w':=by
  have HB0:=Lib.hid ((Below.refl w.heap.size w).alloc (Nat.le_refl _) (.cells #[.int .u64 (h.flg:Int),.int .i64 h.crc,.int .i64 h.dsc,.string h.dnm,.int .u64 (h.dn:Int),.int .u64 (h.dv:Int),.int .i64 h.ssc,.string h.snm,.int .u64 (h.sn:Int),.int .u64 (h.sv:Int),.int .i64 h.rsc,.string h.rnm,.int .u64 (h.rn:Int),.int .u64 (h.rv:Int),.int .u64 (h.tim:Int),.int .u64 (h.seq:Int),.int .u64 (h.lif:Int),.slice A n c] 28))
  have HW0:Hid (Below (w.heap.size+1) (w.alloc (.cells #[.int .u64 (h.flg:Int),.int .i64 h.crc,.int .i64 h.dsc,.string h.dnm,.int .u64 (h.dn:Int),.int .u64 (h.dv:Int),.int .i64 h.ssc,.string h.snm,.int .u64 (h.sn:Int),.int .u64 (h.sv:Int),.int .i64 h.rsc,.string h.rnm,.int .u64 (h.rn:Int),.int .u64 (h.rv:Int),.int .u64 (h.tim:Int),.int .u64 (h.seq:Int),.int .u64 (h.lif:Int),.slice A n c] 28)) (w.alloc (.cells #[.int .u64 (h.flg:Int),.int .i64 h.crc,.int .i64 h.dsc,.string h.dnm,.int .u64 (h.dn:Int),.int .u64 (h.dv:Int),.int .i64 h.ssc,.string h.snm,.int .u64 (h.sn:Int),.int .u64 (h.sv:Int),.int .i64 h.rsc,.string h.rnm,.int .u64 (h.rn:Int),.int .u64 (h.rv:Int),.int .u64 (h.tim:Int),.int .u64 (h.seq:Int),.int .u64 (h.lif:Int),.slice A n c] 28))):=Below.refl _ _
  have HX:=Lib.hid (fun (W:World) (hb:Below (w.heap.size+1) (w.alloc (.cells #[.int .u64 (h.flg:Int),.int .i64 h.crc,.int .i64 h.dsc,.string h.dnm,.int .u64 (h.dn:Int),.int .u64 (h.dv:Int),.int .i64 h.ssc,.string h.snm,.int .u64 (h.sn:Int),.int .u64 (h.sv:Int),.int .i64 h.rsc,.string h.rnm,.int .u64 (h.rn:Int),.int .u64 (h.rv:Int),.int .u64 (h.tim:Int),.int .u64 (h.seq:Int),.int .u64 (h.lif:Int),.slice A n c] 28)) W)=>box18 rfl hb)
  have K1:=Lib.hid (fun W=>rcheckE_any h.dsc h.dnm h.dn h.dv W hd.dnm)
  have K2:=Lib.hid (fun W=>rcheckE_any h.ssc h.snm h.sn h.sv W hd.snm)
  have K3:=Lib.hid (fun W=>rcheckE_any h.rsc h.rnm h.rn h.rv W hd.rnm)
  have N1:=Lib.hid (fun W=>rnone_any h.dsc h.dnm h.dn h.dv W)
  have N2:=Lib.hid (fun W=>rnone_any h.ssc h.snm h.sn h.sv W)
  have HS:Hid ((w.alloc (.cells #[.int .u64 (h.flg:Int),.int .i64 h.crc,.int .i64 h.dsc,.string h.dnm,.int .u64 (h.dn:Int),.int .u64 (h.dv:Int),.int .i64 h.ssc,.string h.snm,.int .u64 (h.sn:Int),.int .u64 (h.sv:Int),.int .i64 h.rsc,.string h.rnm,.int .u64 (h.rn:Int),.int .u64 (h.rv:Int),.int .u64 (h.tim:Int),.int .u64 (h.seq:Int),.int .u64 (h.lif:Int),.slice A n c] 28)).heap.size=w.heap.size+1):=by show _=_;simp
  have KO:=Lib.hid (fun (W:World) (hb:Below w.heap.size w W) (h1:1≤n) (h2:n≤1000)=>ronce_any A n c B l W (hr.below (hb.mono hB)) (Nat.le_trans hB hb.size) h1 h2)
  obtain ⟨Z,hZ0⟩:∃ Z,Z=cauU (h.bun l):=⟨_,rfl⟩
  rw [← hZ0]
  have hZ:Z=if fragB h.flg=true then 62 else if (decide (0≤h.crc∧h.crc≤2)&&((checkB h.dst&&(checkB h.src&&checkB h.rep))&&((!(noneB h.dst))&&(!(noneB h.src && !(wholeB h.flg))))))=true∧(decide (1≤n∧n≤16)&&frm [] l)=true then 0 else 60:=by
    rw [hZ0]
    unfold cauU
    rw [primOk_dec]
    unfold blksOk
    rw [show (h.bun l).blks.length=n from hr.1]
    rfl
  rw [whole_split h.flg hd.flg] at hZ
  have e1:checkB (ep h.dsc h.dnm h.dn h.dv)=checkB h.dst:=rfl
  have e2:checkB (ep h.ssc h.snm h.sn h.sv)=checkB h.src:=rfl
  have e3:checkB (ep h.rsc h.rnm h.rn h.rv)=checkB h.rep:=rfl
  have e4:noneB (ep h.dsc h.dnm h.dn h.dv)=noneB h.dst:=rfl
  have e5:noneB (ep h.ssc h.snm h.sn h.sv)=noneB h.src:=rfl
  rw [e1] at K1
  rw [e2] at K2
  rw [e3] at K3
  rw [e4] at N1
  rw [e5] at N2
  have hfr:(bits BinOp.and IntKind.u64 (h.flg:Int) 1 != 0)=fragB h.flg:=rfl
  generalize fragB h.flg=fr at *
  generalize checkB h.dst=c1 at *
  generalize checkB h.src=c2 at *
  generalize checkB h.rep=c3 at *
  generalize noneB h.dst=n1 at *
  generalize noneB h.src=n2 at *
  generalize hb4:(bits BinOp.and IntKind.u64 (h.flg:Int) 4==0)=b4 at *
  generalize hbR:(bits BinOp.and IntKind.u64 (h.flg:Int) 475136 != 0)=bR at *
  generalize frm [] l=fm at *
  clear e1 e2 e3 e4 e5 hd hr hB hZ0
  unfold bunV epdV at *
  cases fr with
  | true =>
    obtain rfl:Z=62:=hZ
    clear hb4 hbR
    go_enter Tryz.func13,Tryz.ntmps13
    go_wp2_with fail
    go_ret
    exact ⟨rfl,HB0.out⟩
  | false =>
  rw [if_neg (by decide)] at hZ
  by_cases h1:h.crc<0
  · obtain rfl:Z=60:=by rw [hZ,decide_eq_false (by omega)];rfl
    clear hZ
    go_enter Tryz.func13,Tryz.ntmps13
    go_wp2_with fail
    go_ret
    exact ⟨rfl,HB0.out⟩
  have h1':decide (h.crc<0)=false:=decide_eq_false h1
  by_cases h2:2<h.crc
  · obtain rfl:Z=60:=by rw [hZ,decide_eq_false (by omega)];rfl
    clear hZ
    go_enter Tryz.func13,Tryz.ntmps13
    go_wp2_with fail
    go_ret
    exact ⟨rfl,HB0.out⟩
  have h2':decide (2<h.crc)=false:=decide_eq_false h2
  rw [decide_eq_true (by omega),Bool.true_and] at hZ
  go_enter Tryz.func13,Tryz.ntmps13
  go_wp2_with fail
  refine (K1.out _).mono ?_
  rintro e w1 ⟨rfl,hb⟩
  have Bw1:=Lib.hid (Below.push HW0.out (Nat.le_of_eq HS.out.symm) hb)
  have Tw1:=Lib.hid (HB0.out.trans (Bw1.out.mono (Nat.le_succ _)))
  clear hb
  obtain ⟨x0,x1,x2,x3,x4,x5,x6,x7,x8,x9,x10,x11,x12,x13,x14,x15,x16,x17⟩:=HX.out _ Bw1.out
  cases c1 with
  | false =>
    obtain rfl:Z=60:=by rw [hZ];simp
    clear hZ
    go_wp2_with fail
    go_ret
    exact ⟨rfl,Tw1.out⟩
  | true =>
  go_wp2_with fail
  refine (K2.out _).mono ?_
  rintro e w2 ⟨rfl,hb⟩
  have Bw2:=Lib.hid (Below.push Bw1.out (Nat.le_of_eq HS.out.symm) hb)
  have Tw2:=Lib.hid (HB0.out.trans (Bw2.out.mono (Nat.le_succ _)))
  clear hb
  clear x0 x1 x2 x3 x4 x5 x6 x7 x8 x9 x10 x11 x12 x13 x14 x15 x16 x17
  obtain ⟨x0,x1,x2,x3,x4,x5,x6,x7,x8,x9,x10,x11,x12,x13,x14,x15,x16,x17⟩:=HX.out _ Bw2.out
  cases c2 with
  | false =>
    obtain rfl:Z=60:=by rw [hZ];simp
    clear hZ
    go_wp2_with fail
    go_ret
    exact ⟨rfl,Tw2.out⟩
  | true =>
  go_wp2_with fail
  refine (K3.out _).mono ?_
  rintro e w3 ⟨rfl,hb⟩
  have Bw3:=Lib.hid (Below.push Bw2.out (Nat.le_of_eq HS.out.symm) hb)
  have Tw3:=Lib.hid (HB0.out.trans (Bw3.out.mono (Nat.le_succ _)))
  clear hb
  clear x0 x1 x2 x3 x4 x5 x6 x7 x8 x9 x10 x11 x12 x13 x14 x15 x16 x17
  obtain ⟨x0,x1,x2,x3,x4,x5,x6,x7,x8,x9,x10,x11,x12,x13,x14,x15,x16,x17⟩:=HX.out _ Bw3.out
  cases c3 with
  | false =>
    obtain rfl:Z=60:=by rw [hZ];simp
    clear hZ
    go_wp2_with fail
    go_ret
    exact ⟨rfl,Tw3.out⟩
  | true =>
  go_wp2_with fail
  refine (N1.out _).mono ?_
  rintro e w4 ⟨rfl,hb⟩
  have Bw4:=Lib.hid (Below.push Bw3.out (Nat.le_of_eq HS.out.symm) hb)
  have Tw4:=Lib.hid (HB0.out.trans (Bw4.out.mono (Nat.le_succ _)))
  clear hb
  clear x0 x1 x2 x3 x4 x5 x6 x7 x8 x9 x10 x11 x12 x13 x14 x15 x16 x17
  obtain ⟨x0,x1,x2,x3,x4,x5,x6,x7,x8,x9,x10,x11,x12,x13,x14,x15,x16,x17⟩:=HX.out _ Bw4.out
  cases n1 with
  | true =>
    obtain rfl:Z=60:=by rw [hZ];simp
    clear hZ
    go_wp2_with fail
    go_ret
    exact ⟨rfl,Tw4.out⟩
  | false =>
  by_cases hn1:n<1
  · have q1:(n:Int)<1:=by omega
    have q2:decide ((n:Int)<1)=true:=decide_eq_true q1
    obtain rfl:Z=60:=by rw [hZ,decide_eq_false (show ¬ (1≤n∧n≤16) by omega)];simp
    clear hZ
    go_wp2_with fail
    go_ret
    exact ⟨rfl,Tw4.out⟩
  have q1:¬ (n:Int)<1:=by omega
  have q2:decide ((n:Int)<1)=false:=decide_eq_false q1
  by_cases hn16:16<n
  · have q3:(16:Int)<(n:Int):=by omega
    have q4:decide ((16:Int)<(n:Int))=true:=decide_eq_true q3
    obtain rfl:Z=60:=by rw [hZ,decide_eq_false (show ¬ (1≤n∧n≤16) by omega)];simp
    clear hZ
    go_wp2_with fail
    go_ret
    exact ⟨rfl,Tw4.out⟩
  have q3:¬ (16:Int)<(n:Int):=by omega
  have q4:decide ((16:Int)<(n:Int))=false:=decide_eq_false q3
  rw [decide_eq_true (show 1≤n∧n≤16 by omega),Bool.true_and] at hZ
  go_wp2_with fail
  refine (KO.out _ Tw4.out (by omega) (by omega)).mono ?_
  rintro e w5 ⟨rfl,hb⟩
  have Bw5:=Lib.hid (Below.push Bw4.out (Nat.le_of_eq HS.out.symm) hb)
  have Tw5:=Lib.hid (HB0.out.trans (Bw5.out.mono (Nat.le_succ _)))
  clear hb x0 x1 x2 x3 x4 x5 x6 x7 x8 x9 x10 x11 x12 x13 x14 x15 x16 x17
  obtain ⟨x0,x1,x2,x3,x4,x5,x6,x7,x8,x9,x10,x11,x12,x13,x14,x15,x16,x17⟩:=HX.out _ Bw5.out
  cases fm with
  | false =>
    obtain rfl:Z=60:=by rw [hZ];simp
    clear hZ
    go_wp2_with fail
    go_ret
    exact ⟨rfl,Tw5.out⟩
  | true =>
  go_wp2_with fail
  refine (N2.out _).mono ?_
  rintro e w6 ⟨rfl,hb⟩
  have Bw6:=Lib.hid (Below.push Bw5.out (Nat.le_of_eq HS.out.symm) hb)
  have Tw6:=Lib.hid (HB0.out.trans (Bw6.out.mono (Nat.le_succ _)))
  clear hb x0 x1 x2 x3 x4 x5 x6 x7 x8 x9 x10 x11 x12 x13 x14 x15 x16 x17
  obtain ⟨x0,x1,x2,x3,x4,x5,x6,x7,x8,x9,x10,x11,x12,x13,x14,x15,x16,x17⟩:=HX.out _ Bw6.out
  cases n2 with
  | false =>
    obtain rfl:Z=0:=by rw [hZ];simp
    clear hZ
    go_wp2_with fail
    go_ret
    exact ⟨rfl,Tw6.out⟩
  | true =>
  cases b4 with
  | true =>
    obtain rfl:Z=60:=by rw [hZ];simp
    clear hZ
    go_wp2_with fail
    go_ret
    exact ⟨rfl,Tw6.out⟩
  | false =>
  cases bR with
  | true =>
    obtain rfl:Z=60:=by rw [hZ];simp
    clear hZ
    go_wp2_with fail
    go_ret
    exact ⟨rfl,Tw6.out⟩
  | false =>
    obtain rfl:Z=0:=by rw [hZ];simp
    clear hZ
    go_wp2_with fail
    go_ret
    exact ⟨rfl,Tw6.out⟩
end Go.Proofs.YtldnokgdgafphaaGreatDoor
/- What Drop of layer 6's reference returns. (Made by gen/RfX.py, gen/bun.py.) -/
namespace Go.Proofs.YtldnokgdgafphaaGreatDoor
open Go.RowKit
def DropR (h:BH) (l:List Blk) (q:Nat) (w:World) (e:Ending) (w':World):Prop:=Below w.heap.size w w' ∧
  ((∃ k:Nat,cauU (h.bun l)=0∧plc (pNum q) l 0=(k:Int)∧k+1<l.length∧∃ (A:Option Addr) (n c:Nat),e=.returned (.tuple #[bunV h A n c,.int .i64 0])∧RdL w' w'.heap.size A n (l.take k++l.drop (k+1))∧n≤c) ∨
   (¬ (cauU (h.bun l)=0∧0≤plc (pNum q) l 0∧plc (pNum q) l 0+1<(l.length:Int))∧e=.returned (.tuple #[.agg #[.int .u64 0,.int .i64 0,.int .i64 0,.string ⟨#[]⟩,.int .u64 0,.int .u64 0,.int .i64 0,.string ⟨#[]⟩,.int .u64 0,.int .u64 0,.int .i64 0,.string ⟨#[]⟩,.int .u64 0,.int .u64 0,.int .u64 0,.int .u64 0,.int .u64 0,.slice none 0 0],.int .i64 (if cauU (h.bun l)=0 then 60 else cauU (h.bun l))])))
theorem kcutR (A:Option Addr) (n c k:Nat) (hk:k≤n) (hc:n≤c) (h0:0<c) (W:World):(Instr.slice 26 (.slice A n c) none (some (.int .i64 (k:Int))) none).run Tryz.prog W=.ok (.slice A k c) W:=by
  have hz:=size_blk
  have ht:=Tryz.underlying26
  have hkc:k≤c:=by omega
  have hne:¬ c=0:=by omega
  go_simp
set_option maxRecDepth 100000 in
set_option maxHeartbeats 16000000 in
theorem rdropU_any (h:BH) (l:List Blk) (A:Option Addr) (n c B q:Nat) (w:World) (hd:h.Bd) (hr:RdL w B A n l) (hB:B≤w.heap.size) (hc:n≤c) :
    Calls Tryz.prog 21 #[bunV h A n c,.int .u64 (q:Int)] w (DropR h l q w):=by
  have HB0:=Lib.hid (((Below.refl w.heap.size w).alloc (Nat.le_refl _) (.cells #[.int .u64 (h.flg:Int),.int .i64 h.crc,.int .i64 h.dsc,.string h.dnm,.int .u64 (h.dn:Int),.int .u64 (h.dv:Int),.int .i64 h.ssc,.string h.snm,.int .u64 (h.sn:Int),.int .u64 (h.sv:Int),.int .i64 h.rsc,.string h.rnm,.int .u64 (h.rn:Int),.int .u64 (h.rv:Int),.int .u64 (h.tim:Int),.int .u64 (h.seq:Int),.int .u64 (h.lif:Int),.slice A n c] 28)).alloc (le_alloc _ _) (.cells #[.int .u64 0,.int .i64 0,.int .i64 0,.string ⟨#[]⟩,.int .u64 0,.int .u64 0,.int .i64 0,.string ⟨#[]⟩,.int .u64 0,.int .u64 0,.int .i64 0,.string ⟨#[]⟩,.int .u64 0,.int .u64 0,.int .u64 0,.int .u64 0,.int .u64 0,.slice none 0 0] 28))
  have HW0:Hid (Below (w.heap.size+2) ((w.alloc (.cells #[.int .u64 (h.flg:Int),.int .i64 h.crc,.int .i64 h.dsc,.string h.dnm,.int .u64 (h.dn:Int),.int .u64 (h.dv:Int),.int .i64 h.ssc,.string h.snm,.int .u64 (h.sn:Int),.int .u64 (h.sv:Int),.int .i64 h.rsc,.string h.rnm,.int .u64 (h.rn:Int),.int .u64 (h.rv:Int),.int .u64 (h.tim:Int),.int .u64 (h.seq:Int),.int .u64 (h.lif:Int),.slice A n c] 28)).alloc (.cells #[.int .u64 0,.int .i64 0,.int .i64 0,.string ⟨#[]⟩,.int .u64 0,.int .u64 0,.int .i64 0,.string ⟨#[]⟩,.int .u64 0,.int .u64 0,.int .i64 0,.string ⟨#[]⟩,.int .u64 0,.int .u64 0,.int .u64 0,.int .u64 0,.int .u64 0,.slice none 0 0] 28)) ((w.alloc (.cells #[.int .u64 (h.flg:Int),.int .i64 h.crc,.int .i64 h.dsc,.string h.dnm,.int .u64 (h.dn:Int),.int .u64 (h.dv:Int),.int .i64 h.ssc,.string h.snm,.int .u64 (h.sn:Int),.int .u64 (h.sv:Int),.int .i64 h.rsc,.string h.rnm,.int .u64 (h.rn:Int),.int .u64 (h.rv:Int),.int .u64 (h.tim:Int),.int .u64 (h.seq:Int),.int .u64 (h.lif:Int),.slice A n c] 28)).alloc (.cells #[.int .u64 0,.int .i64 0,.int .i64 0,.string ⟨#[]⟩,.int .u64 0,.int .u64 0,.int .i64 0,.string ⟨#[]⟩,.int .u64 0,.int .u64 0,.int .i64 0,.string ⟨#[]⟩,.int .u64 0,.int .u64 0,.int .u64 0,.int .u64 0,.int .u64 0,.slice none 0 0] 28))):=Below.refl _ _
  have HS0:Hid (((w.alloc (.cells #[.int .u64 (h.flg:Int),.int .i64 h.crc,.int .i64 h.dsc,.string h.dnm,.int .u64 (h.dn:Int),.int .u64 (h.dv:Int),.int .i64 h.ssc,.string h.snm,.int .u64 (h.sn:Int),.int .u64 (h.sv:Int),.int .i64 h.rsc,.string h.rnm,.int .u64 (h.rn:Int),.int .u64 (h.rv:Int),.int .u64 (h.tim:Int),.int .u64 (h.seq:Int),.int .u64 (h.lif:Int),.slice A n c] 28)).alloc (.cells #[.int .u64 0,.int .i64 0,.int .i64 0,.string ⟨#[]⟩,.int .u64 0,.int .u64 0,.int .i64 0,.string ⟨#[]⟩,.int .u64 0,.int .u64 0,.int .i64 0,.string ⟨#[]⟩,.int .u64 0,.int .u64 0,.int .u64 0,.int .u64 0,.int .u64 0,.slice none 0 0] 28)).heap.size=w.heap.size+2):=by show _=_;simp
  have HX1:=Lib.hid (fun (W:World) (hb:Below (w.heap.size+2) ((w.alloc (.cells #[.int .u64 (h.flg:Int),.int .i64 h.crc,.int .i64 h.dsc,.string h.dnm,.int .u64 (h.dn:Int),.int .u64 (h.dv:Int),.int .i64 h.ssc,.string h.snm,.int .u64 (h.sn:Int),.int .u64 (h.sv:Int),.int .i64 h.rsc,.string h.rnm,.int .u64 (h.rn:Int),.int .u64 (h.rv:Int),.int .u64 (h.tim:Int),.int .u64 (h.seq:Int),.int .u64 (h.lif:Int),.slice A n c] 28)).alloc (.cells #[.int .u64 0,.int .i64 0,.int .i64 0,.string ⟨#[]⟩,.int .u64 0,.int .u64 0,.int .i64 0,.string ⟨#[]⟩,.int .u64 0,.int .u64 0,.int .i64 0,.string ⟨#[]⟩,.int .u64 0,.int .u64 0,.int .u64 0,.int .u64 0,.int .u64 0,.slice none 0 0] 28)) W)=>(row_of_box (w:=w) (g:=w.heap.size) rfl (((Below.refl (w.heap.size+1) (w.alloc (.cells #[.int .u64 (h.flg:Int),.int .i64 h.crc,.int .i64 h.dsc,.string h.dnm,.int .u64 (h.dn:Int),.int .u64 (h.dv:Int),.int .i64 h.ssc,.string h.snm,.int .u64 (h.sn:Int),.int .u64 (h.sv:Int),.int .i64 h.rsc,.string h.rnm,.int .u64 (h.rn:Int),.int .u64 (h.rv:Int),.int .u64 (h.tim:Int),.int .u64 (h.seq:Int),.int .u64 (h.lif:Int),.slice A n c] 28))).alloc (by simp) (.cells #[.int .u64 0,.int .i64 0,.int .i64 0,.string ⟨#[]⟩,.int .u64 0,.int .u64 0,.int .i64 0,.string ⟨#[]⟩,.int .u64 0,.int .u64 0,.int .i64 0,.string ⟨#[]⟩,.int .u64 0,.int .u64 0,.int .u64 0,.int .u64 0,.int .u64 0,.slice none 0 0] 28)).trans (hb.mono (Nat.le_succ _)))))
  have HX2:=Lib.hid (fun (W:World) (hb:Below (w.heap.size+2) ((w.alloc (.cells #[.int .u64 (h.flg:Int),.int .i64 h.crc,.int .i64 h.dsc,.string h.dnm,.int .u64 (h.dn:Int),.int .u64 (h.dv:Int),.int .i64 h.ssc,.string h.snm,.int .u64 (h.sn:Int),.int .u64 (h.sv:Int),.int .i64 h.rsc,.string h.rnm,.int .u64 (h.rn:Int),.int .u64 (h.rv:Int),.int .u64 (h.tim:Int),.int .u64 (h.seq:Int),.int .u64 (h.lif:Int),.slice A n c] 28)).alloc (.cells #[.int .u64 0,.int .i64 0,.int .i64 0,.string ⟨#[]⟩,.int .u64 0,.int .u64 0,.int .i64 0,.string ⟨#[]⟩,.int .u64 0,.int .u64 0,.int .i64 0,.string ⟨#[]⟩,.int .u64 0,.int .u64 0,.int .u64 0,.int .u64 0,.int .u64 0,.slice none 0 0] 28)) W)=>(row_of_box (w:=w.alloc (.cells #[.int .u64 (h.flg:Int),.int .i64 h.crc,.int .i64 h.dsc,.string h.dnm,.int .u64 (h.dn:Int),.int .u64 (h.dv:Int),.int .i64 h.ssc,.string h.snm,.int .u64 (h.sn:Int),.int .u64 (h.sv:Int),.int .i64 h.rsc,.string h.rnm,.int .u64 (h.rn:Int),.int .u64 (h.rv:Int),.int .u64 (h.tim:Int),.int .u64 (h.seq:Int),.int .u64 (h.lif:Int),.slice A n c] 28)) (g:=w.heap.size+1) (by simp) hb))
  have C1:=Lib.hid (rcheckU_any h l A n c B ((w.alloc (.cells #[.int .u64 (h.flg:Int),.int .i64 h.crc,.int .i64 h.dsc,.string h.dnm,.int .u64 (h.dn:Int),.int .u64 (h.dv:Int),.int .i64 h.ssc,.string h.snm,.int .u64 (h.sn:Int),.int .u64 (h.sv:Int),.int .i64 h.rsc,.string h.rnm,.int .u64 (h.rn:Int),.int .u64 (h.rv:Int),.int .u64 (h.tim:Int),.int .u64 (h.seq:Int),.int .u64 (h.lif:Int),.slice A n c] 28)).alloc (.cells #[.int .u64 0,.int .i64 0,.int .i64 0,.string ⟨#[]⟩,.int .u64 0,.int .u64 0,.int .i64 0,.string ⟨#[]⟩,.int .u64 0,.int .u64 0,.int .i64 0,.string ⟨#[]⟩,.int .u64 0,.int .u64 0,.int .u64 0,.int .u64 0,.int .u64 0,.slice none 0 0] 28)) hd (hr.below (HB0.out.mono hB)) (Nat.le_trans hB HB0.out.size))
  have C2:=Lib.hid (fun (W:World) (hb:Below (w.heap.size+2) ((w.alloc (.cells #[.int .u64 (h.flg:Int),.int .i64 h.crc,.int .i64 h.dsc,.string h.dnm,.int .u64 (h.dn:Int),.int .u64 (h.dv:Int),.int .i64 h.ssc,.string h.snm,.int .u64 (h.sn:Int),.int .u64 (h.sv:Int),.int .i64 h.rsc,.string h.rnm,.int .u64 (h.rn:Int),.int .u64 (h.rv:Int),.int .u64 (h.tim:Int),.int .u64 (h.seq:Int),.int .u64 (h.lif:Int),.slice A n c] 28)).alloc (.cells #[.int .u64 0,.int .i64 0,.int .i64 0,.string ⟨#[]⟩,.int .u64 0,.int .u64 0,.int .i64 0,.string ⟨#[]⟩,.int .u64 0,.int .u64 0,.int .i64 0,.string ⟨#[]⟩,.int .u64 0,.int .u64 0,.int .u64 0,.int .u64 0,.int .u64 0,.slice none 0 0] 28)) W)=>rfindU_any h l A n c B q W (hr.below ((HB0.out.trans (hb.mono (Nat.le_add_right _ 2))).mono hB)) (Nat.le_trans hB (HB0.out.trans (hb.mono (Nat.le_add_right _ 2))).size))
  have HR:=Lib.hid (And.intro hr (And.intro hB hc))
  have HN:=Lib.hid hr.1
  have HG:Hid (∀ e w',(Below w.heap.size w w' ∧
  ((∃ k:Nat,cauU (h.bun l)=0∧plc (pNum q) l 0=(k:Int)∧k+1<l.length∧∃ (A:Option Addr) (n c:Nat),e=.returned (.tuple #[bunV h A n c,.int .i64 0])∧RdL w' w'.heap.size A n (l.take k++l.drop (k+1))∧n≤c) ∨
   (¬ (cauU (h.bun l)=0∧0≤plc (pNum q) l 0∧plc (pNum q) l 0+1<(l.length:Int))∧e=.returned (.tuple #[.agg #[.int .u64 0,.int .i64 0,.int .i64 0,.string ⟨#[]⟩,.int .u64 0,.int .u64 0,.int .i64 0,.string ⟨#[]⟩,.int .u64 0,.int .u64 0,.int .i64 0,.string ⟨#[]⟩,.int .u64 0,.int .u64 0,.int .u64 0,.int .u64 0,.int .u64 0,.slice none 0 0],.int .i64 (if cauU (h.bun l)=0 then 60 else cauU (h.bun l))]))))→DropR h l q w e w'):=fun _ _ hh=>hh
  clear hr hB hc hd
  by_cases hz:cauU (h.bun l)=0
  case neg =>
    have HZ:=Lib.hid hz
    have HE:Hid (cauU (h.bun l)=(if cauU (h.bun l)=0 then 60 else cauU (h.bun l))):=(if_neg hz).symm
    have hz1:(cauU (h.bun l) != 0)=true:=by simp [hz]
    have hz2:(cauU (h.bun l)==0)=false:=by simp [hz]
    generalize cauU (h.bun l)=z at *
    unfold bunV at *
    go_enter Tryz.func21,Tryz.ntmps21
    go_wp2_with (first
      | (refine wpList_ld18 rfl (.tmp 2) rfl _ rfl _ _ (HX1.out _ HW0.out) rfl ?_)
      | fail)
    refine C1.out.mono ?_
    rintro e w1 ⟨rfl,hb⟩
    have B1:=Lib.hid (Below.push HW0.out (Nat.le_of_eq HS0.out.symm) hb)
    clear hb
    go_wp2_with (first
      | (refine wpList_st18 rfl 28 (.tmp 4) (.tmp 13) rfl _ rfl rfl _ _ (HX2.out _ B1.out) info_bun rfl rfl ?_;intro W' hrow' _ _ hbel _;have HWB:=Lib.hid (hbel _ _ (HB0.out.trans (B1.out.mono (Nat.le_add_right _ 2))) (Nat.le_succ _));clear hbel)
      | fail)
    exact bodyPost_ret (res_bt Tryz.results21 _ _ rfl hrow' rfl) rfl (HG.out _ _ ⟨HWB.out,.inr ⟨fun hh=>HZ.out hh.1,(show Ending.returned _=Ending.returned _ by rw [← HE.out];rfl)⟩⟩)
  have HL16:Hid (1≤n∧n≤16):=by show _∧_;rw [← HN.out];exact blksOk_len (cauU_0.1 hz).2.2
  have hpb : -1≤plc (pNum q) l 0∧plc (pNum q) l 0<(n:Int):=by have:=plc_bd (pNum q) l 0;rw [HN.out] at this;omega
  by_cases hbad:plc (pNum q) l 0<0∨plc (pNum q) l 0+1=(n:Int)
  · have HBAD:Hid (¬ (cauU (h.bun l)=0∧0≤plc (pNum q) l 0∧plc (pNum q) l 0+1<(l.length:Int))):=fun hh=>by rw [HN.out] at hh;omega
    by_cases hneg:plc (pNum q) l 0<0
    · have d1:decide (plc (pNum q) l 0<0)=true:=decide_eq_true hneg
      generalize plc (pNum q) l 0=p at *
      generalize cauU (h.bun l)=z at *
      subst hz
      clear hbad
      unfold bunV at *
      go_enter Tryz.func21,Tryz.ntmps21
      go_wp2_with (first
        | (refine wpList_ld18 rfl (.tmp 2) rfl _ rfl _ _ (HX1.out _ HW0.out) rfl ?_)
        | fail)
      refine C1.out.mono ?_
      rintro e w1 ⟨rfl,hb⟩
      have B1:=Lib.hid (Below.push HW0.out (Nat.le_of_eq HS0.out.symm) hb)
      clear hb
      go_wp2_with (first
        | (refine wpList_ld18 rfl (.tmp 2) rfl _ rfl _ _ (HX1.out _ B1.out) rfl ?_)
        | fail)
      refine (C2.out _ B1.out).mono ?_
      rintro e w2 ⟨rfl,hb⟩
      have B2:=Lib.hid (Below.push B1.out (Nat.le_of_eq HS0.out.symm) hb)
      clear hb
      have x17:=cell_row (HX1.out _ B2.out) 17 rfl
      go_wp2_with (first
        | (refine wpList_st18 rfl 28 (.tmp 4) (.tmp 28) rfl _ rfl rfl _ _ (HX2.out _ B2.out) info_bun rfl rfl ?_;intro W' hrow' _ _ hbel _;have HWB:=Lib.hid (hbel _ _ (HB0.out.trans (B2.out.mono (Nat.le_add_right _ 2))) (Nat.le_succ _));clear hbel)
        | fail)
      exact bodyPost_ret (res_bt Tryz.results21 _ _ rfl hrow' rfl) rfl (HG.out _ _ ⟨HWB.out,.inr ⟨HBAD.out,(show Ending.returned _=Ending.returned _ by first | (rw [if_pos rfl];rfl) | (rw [if_pos trivial];rfl))⟩⟩)
    · have d1:decide (plc (pNum q) l 0<0)=false:=decide_eq_false hneg
      have hl:=HL16.out
      have hw1:wrap64 ((n:Int) - 1)=(n:Int) - 1:=by unfold wrap64;omega
      have d2:(plc (pNum q) l 0==(n:Int) - 1)=true:=by simp;omega
      clear hl
      generalize plc (pNum q) l 0=p at *
      generalize cauU (h.bun l)=z at *
      subst hz
      clear hbad
      unfold bunV at *
      go_enter Tryz.func21,Tryz.ntmps21
      go_wp2_with (first
        | (refine wpList_ld18 rfl (.tmp 2) rfl _ rfl _ _ (HX1.out _ HW0.out) rfl ?_)
        | fail)
      refine C1.out.mono ?_
      rintro e w1 ⟨rfl,hb⟩
      have B1:=Lib.hid (Below.push HW0.out (Nat.le_of_eq HS0.out.symm) hb)
      clear hb
      go_wp2_with (first
        | (refine wpList_ld18 rfl (.tmp 2) rfl _ rfl _ _ (HX1.out _ B1.out) rfl ?_)
        | fail)
      refine (C2.out _ B1.out).mono ?_
      rintro e w2 ⟨rfl,hb⟩
      have B2:=Lib.hid (Below.push B1.out (Nat.le_of_eq HS0.out.symm) hb)
      clear hb
      have x17:=cell_row (HX1.out _ B2.out) 17 rfl
      go_wp2_with (first
        | (refine wpList_st18 rfl 28 (.tmp 4) (.tmp 28) rfl _ rfl rfl _ _ (HX2.out _ B2.out) info_bun rfl rfl ?_;intro W' hrow' _ _ hbel _;have HWB:=Lib.hid (hbel _ _ (HB0.out.trans (B2.out.mono (Nat.le_add_right _ 2))) (Nat.le_succ _));clear hbel)
        | fail)
      exact bodyPost_ret (res_bt Tryz.results21 _ _ rfl hrow' rfl) rfl (HG.out _ _ ⟨HWB.out,.inr ⟨HBAD.out,(show Ending.returned _=Ending.returned _ by first | (rw [if_pos rfl];rfl) | (rw [if_pos trivial];rfl))⟩⟩)
  obtain ⟨k,hk⟩:∃ k:Nat,plc (pNum q) l 0=(k:Int):=⟨(plc (pNum q) l 0).toNat,by omega⟩
  have hk1:k+1<n:=by omega
  have HK:=Lib.hid (And.intro hk hk1)
  have hl16:=HL16.out
  obtain ⟨b,o,rfl,hb,hks⟩:=HR.out.1.2.1 (by omega)
  obtain ⟨ps,hmap,hcell,hsrc⟩:=hks.pks
  have hlen:ps.length=n:=by rw [← HN.out,← hmap,List.length_map]
  have HP:=Lib.hid (And.intro hmap (And.intro hcell (And.intro hsrc hlen)))
  have HH:=Lib.hid hb
  have hcn:n≤c:=HR.out.2.2
  have cut1:=fun W=>kcutR (some ⟨b,o,none⟩) n c k (by omega) hcn (by omega) W
  have hwk:wrap64 ((k:Int)+1)=(k:Int)+1:=by unfold wrap64;omega
  have hwk2:IntKind.i64.wrap ((k:Int)+1)=(k:Int)+1:=by rw [IntKind.wrap_i64];omega
  have cut2:=fun W=>kcut_l b o n c (k+1) hk1 hcn ((k:Int)+1) (by omega) W
  obtain ⟨N1,hN1⟩:∃ N1,n - (k+1)=N1:=⟨_,rfl⟩
  rw [hN1] at cut2
  have HN1:Hid (k+N1+1=n∧0<N1):=by show _∧_;omega
  clear hN1
  obtain ⟨i0,hi0,hz0,hz1,hz2⟩:=info_parts info_blk
  have HI:=Lib.hid hi0
  have HZ0:=Lib.hid hz0
  have HZ1:=Lib.hid hz1
  have HZ2:=Lib.hid hz2
  have HLO:Hid ((rowK (ps.take k)).length=k * 5):=by show _=_;rw [rowK_len,List.length_take,hlen];have:=HN1.out;congr 1;omega
  have HLN:Hid ((rowK (ps.drop (k+1))).length=N1 * 5):=by show _=_;rw [rowK_len,List.length_drop,hlen];have:=HN1.out;congr 1;omega
  clear hi0 hz0 hz1 hz2
  have d1:decide ((k:Int)<0)=false:=decide_eq_false (by omega)
  have hw1:wrap64 ((n:Int) - 1)=(n:Int) - 1:=by unfold wrap64;omega
  have d2:((k:Int)==(n:Int) - 1)=false:=by simp;omega
  rw [hk] at C2
  clear hpb hbad hmap hcell hsrc hlen hks hb hl16 hk
  generalize cauU (h.bun l)=z at *
  subst hz
  unfold bunV at *
  go_enter Tryz.func21,Tryz.ntmps21
  go_wp2_with (first
    | (refine wpList_ld18 rfl (.tmp 2) rfl _ rfl _ _ (HX1.out _ HW0.out) rfl ?_)
    | fail)
  refine C1.out.mono ?_
  rintro e w1 ⟨rfl,hb⟩
  have B1:=Lib.hid (Below.push HW0.out (Nat.le_of_eq HS0.out.symm) hb)
  clear hb
  go_wp2_with (first
    | (refine wpList_ld18 rfl (.tmp 2) rfl _ rfl _ _ (HX1.out _ B1.out) rfl ?_)
    | fail)
  refine (C2.out _ B1.out).mono ?_
  rintro e w2 ⟨rfl,hb⟩
  have B2:=Lib.hid (Below.push B1.out (Nat.le_of_eq HS0.out.symm) hb)
  clear hb
  have x17:=cell_row (HX1.out _ B2.out) 17 rfl
  have HZN:Hid ((w2.alloc (.cells #[.int .u64 0,.int .i64 0,.int .i64 0,.string ⟨#[]⟩,.int .u64 0,.int .u64 0,.int .i64 0,.string ⟨#[]⟩,.int .u64 0,.int .u64 0,.int .i64 0,.string ⟨#[]⟩,.int .u64 0,.int .u64 0,.int .u64 0,.int .u64 0,.int .u64 0,.slice none 0 0] 28)).heap[w2.heap.size]?=_):=heap_alloc_new w2 (.cells #[.int .u64 0,.int .i64 0,.int .i64 0,.string ⟨#[]⟩,.int .u64 0,.int .u64 0,.int .i64 0,.string ⟨#[]⟩,.int .u64 0,.int .u64 0,.int .i64 0,.string ⟨#[]⟩,.int .u64 0,.int .u64 0,.int .u64 0,.int .u64 0,.int .u64 0,.slice none 0 0] 28)
  go_wp2_with (first
    | (refine wpList_ld18 rfl (.tmp 2) rfl _ rfl _ _ (HX1.out _ B2.out) rfl ?_)
    | (refine wpList_st18 rfl 28 (.tmp 8) (.tmp 29) rfl _ rfl rfl _ _ HZN.out info_bun rfl rfl ?_;intro w3 hrow3 _ hoth3 hbel3 hsz3)
    | fail)
  have B23:Below w2.heap.size w2 w3:=hbel3 _ _ ((Below.refl w2.heap.size w2).alloc (Nat.le_refl _) _) (Nat.le_refl _)
  have B3:=Lib.hid (Below.push B2.out (Nat.le_of_eq HS0.out.symm) B23)
  have HSZ3:Hid (w3.heap.size=w2.heap.size+1):=by show _=_;rw [hsz3];simp
  have HROW3:=Lib.hid hrow3
  have HSZ2:Hid (w.heap.size+2≤w2.heap.size):=by show _≤_;have:=B2.out.size;have:=HS0.out;omega
  have HXX:=Lib.hid (fun (W:World) (hb:Below w2.heap.size w2 W)=>cell_row (HX1.out _ (Below.push B2.out (Nat.le_of_eq HS0.out.symm) hb)) 17 rfl)
  have SX:Hid (∀ W,Below w3.heap.size w3 W→Below w2.heap.size w2 W):=fun W hb=>B23.trans (hb.mono B23.size)
  have HWW:=Lib.hid (fun (W:World) (hb:Below w3.heap.size w3 W)=>HB0.out.trans ((Below.push B3.out (Nat.le_of_eq HS0.out.symm) hb).mono (Nat.le_add_right _ 2)))
  have HOL:=Lib.hid (fun (W:World) (hb:Below w3.heap.size w3 W)=>show ∀ j u,(rowK (ps.take k))[j]?=some u→W.cell? ((⟨b,o,none⟩:Addr).add j)=some u from fun j u hj=>by
    rw [addr_add,(HWW.out _ hb).cell (p:=⟨b,o+j,none⟩) (Nat.lt_of_lt_of_le HH.out HR.out.2.1)]
    exact HP.out.2.1 j u (rowK_take (by have:=HP.out.2.2.2;have:=HN1.out;omega) hj))
  have HNW:=Lib.hid (fun (W:World) (hb:Below w3.heap.size w3 W)=>show ∀ j u,(rowK (ps.drop (k+1)))[j]?=some u→W.cell? ((⟨b,o+(k+1) * 5,none⟩:Addr).add j)=some u from fun j u hj=>by
    rw [addr_add,show o+(k+1) * 5+j=o+((k+1) * 5+j) by omega,(HWW.out _ hb).cell (p:=⟨b,o+((k+1) * 5+j),none⟩) (Nat.lt_of_lt_of_le HH.out HR.out.2.1)]
    exact HP.out.2.1 _ u (rowK_drop (by have:=HP.out.2.2.2;have:=HN1.out;omega) hj))
  clear x17 hrow3 hoth3 hbel3 hsz3 B23
  refine wp_region_held_drew (S:=fun W=>Below w2.heap.size w2 W) (by kernel_rfl) (SX.out _ Below.drew_) (fun hHeld=>?_)
  refine takeR (i:=1) (v:=?v1_1) rfl (by kernel_rfl) (by kernel_rfl) (by kernel_rfl) (fun _ _ _ h=>h) (by rfl) ?hy1_1 (by assumption) ?rest1_1
  case hy1_1=>(intro W hSw;go_simp;try with_reducible rfl)
  try simp only [Act.put]
  try simp only [List.setIfInBounds_toArray]
  try simp only [List.set_cons_succ]
  try simp only [List.set_cons_zero]
  refine takeR (i:=2) (v:=?v2_2) rfl (by kernel_rfl) (by kernel_rfl) (by kernel_rfl) (fun _ _ _ h=>h) (by rfl) ?hy2_2 (by assumption) ?rest2_2
  case hy2_2=>(intro W hSw;have x17:=HXX.out W hSw;go_simp;try with_reducible rfl)
  try simp only [Act.put]
  try simp only [List.setIfInBounds_toArray]
  try simp only [List.set_cons_succ]
  try simp only [List.set_cons_zero]
  refine takeR (i:=3) (v:=?v3_3) rfl (by kernel_rfl) (by kernel_rfl) (by kernel_rfl) (fun _ _ _ h=>h) (by rfl) ?hy3_3 (by assumption) ?rest3_3
  case hy3_3=>(intro W hSw;go_simp;try with_reducible rfl)
  try simp only [Act.put]
  try simp only [List.setIfInBounds_toArray]
  try simp only [List.set_cons_succ]
  try simp only [List.set_cons_zero]
  refine takeR (i:=4) (v:=?v4_4) rfl (by kernel_rfl) (by kernel_rfl) (by kernel_rfl) (fun _ _ _ h=>h) (by rfl) ?hy4_4 (by assumption) ?rest4_4
  case hy4_4=>(intro W hSw;go_simp;try with_reducible rfl)
  try simp only [Act.put]
  try simp only [List.setIfInBounds_toArray]
  try simp only [List.set_cons_succ]
  try simp only [List.set_cons_zero]
  refine takeR (i:=6) (v:=?v6_5) rfl (by kernel_rfl) (by kernel_rfl) (by kernel_rfl) (fun _ _ _ h=>h) (by rfl) ?hy6_5 (by assumption) ?rest6_5
  case hy6_5=>(intro W hSw;go_simp;try with_reducible rfl)
  try simp only [Act.put]
  try simp only [List.setIfInBounds_toArray]
  try simp only [List.set_cons_succ]
  try simp only [List.set_cons_zero]
  refine takeR (i:=7) (v:=?v7_6) rfl (by kernel_rfl) (by kernel_rfl) (by kernel_rfl) (fun _ _ _ h=>h) (by rfl) ?hy7_6 (by assumption) ?rest7_6
  case hy7_6=>(intro W hSw;have x17:=HXX.out W hSw;go_simp;try with_reducible rfl)
  try simp only [Act.put]
  try simp only [List.setIfInBounds_toArray]
  try simp only [List.set_cons_succ]
  try simp only [List.set_cons_zero]
  refine takeR (i:=8) (v:=?v8_7) rfl (by kernel_rfl) (by kernel_rfl) (by kernel_rfl) (fun _ _ _ h=>h) (by rfl) ?hy8_7 (by assumption) ?rest8_7
  case hy8_7=>(intro W hSw;go_simp;try with_reducible rfl)
  try simp only [Act.put]
  try simp only [List.setIfInBounds_toArray]
  try simp only [List.set_cons_succ]
  try simp only [List.set_cons_zero]
  refine takeR (i:=9) (v:=?v9_8) rfl (by kernel_rfl) (by kernel_rfl) (by kernel_rfl) (fun _ _ _ h=>h) (by rfl) ?hy9_8 (by assumption) ?rest9_8
  case hy9_8=>(intro W hSw;go_simp;try with_reducible rfl)
  try simp only [Act.put]
  try simp only [List.setIfInBounds_toArray]
  try simp only [List.set_cons_succ]
  try simp only [List.set_cons_zero]
  refine takeR (i:=10) (v:=?v10_9) rfl (by kernel_rfl) (by kernel_rfl) (by kernel_rfl) (fun _ _ _ h=>h) (by rfl) ?hy10_9 (by assumption) ?rest10_9
  case hy10_9=>(intro W hSw;go_simp;try with_reducible rfl)
  try simp only [Act.put]
  try simp only [List.setIfInBounds_toArray]
  try simp only [List.set_cons_succ]
  try simp only [List.set_cons_zero]
  have BT:Hid (Below w3.heap.size w3 w3.drew):=Below.drew_
  clear hHeld
  obtain ⟨wc,hwc⟩:∃ wc,wc=w3.drew:=⟨_,rfl⟩
  rw [← hwc] at BT
  rw [← hwc]
  clear hwc
  refine wpAnyH_ready (rs:=[0]) (by kernel_rfl) (by simp) ?_
  refine AllReadyH.cons rfl (fun K hK=>?_) AllReadyH.nil
  rw [if_pos (by rfl)]
  go_simp
  have OC:Hid ((wc.alloc (.cells #[] 43)).ownsRow w3.heap.size 43 5 (.slice (some ⟨wc.heap.size,0,none⟩) 0 0) 0 []):=World.ownsRow_lit (base:=w3.heap.size) (e:=43) (size:=5) wc #[] 0 BT.out.size (by decide) rfl
  have BN:Hid (Below w3.heap.size w3 (wc.alloc (.cells #[] 43))):=BT.out.alloc BT.out.size _
  clear BT
  have BT:=BN
  clear BN
  refine hK.out _ _ (SX.out _ BT.out) (fun hHeld=>?_)
  try simp only [Act.put]
  try simp only [List.setIfInBounds_toArray]
  try simp only [List.set_cons_succ]
  try simp only [List.set_cons_zero]
  clear hK K hHeld
  generalize wc.alloc (.cells #[] 43)=wd at *
  generalize wc.heap.size=g at *
  clear wc
  obtain ⟨wc,rfl⟩:∃ wc,wc=wd:=⟨_,rfl⟩
  refine wpAnyH_ready (rs:=[5]) (by kernel_rfl) (by simp) ?_
  refine AllReadyH.cons rfl (fun K hK=>?_) AllReadyH.nil
  refine step_append_z (by rfl) (.tmp 30) (.tmp 34) 26 (by rfl) w3.heap.size 43 i0 _ 5 56 Tryz.underlying26 HI.out HZ0.out HZ1.out HZ2.out rfl (by decide) g 0 0 [] (by rfl) OC.out ⟨b,o,none⟩ k c (rowK (ps.take k)) (by rfl) HLO.out (HOL.out _ BT.out) (rowK_one _) (by have:=HN1.out;have:=HL16.out;unfold maxLen;omega) (by have:=HN1.out;have:=HL16.out;omega) BT.out.size ?_
  intro g' cap' wd ho hg hat hlt
  rw [Nat.zero_add,List.nil_append] at ho;rw [Nat.zero_add]
  have OC2:=Lib.hid ho
  have BN:Hid (Below w3.heap.size w3 wd):=grownOwn BT.out BT.out.size hg (owns_base OC.out)
  clear BT OC ho hg hat hlt
  have BT:=BN
  have OC:=OC2
  clear BN OC2
  refine hK.out _ _ (SX.out _ BT.out) (fun hHeld=>?_)
  try simp only [Act.put]
  try simp only [List.setIfInBounds_toArray]
  try simp only [List.set_cons_succ]
  try simp only [List.set_cons_zero]
  clear hK K hHeld
  clear wc
  obtain ⟨wc,rfl⟩:∃ wc,wc=wd:=⟨_,rfl⟩
  obtain ⟨g,rfl⟩:∃ g,g=g':=⟨_,rfl⟩
  obtain ⟨cap,rfl⟩:∃ cap,cap=cap':=⟨_,rfl⟩
  refine wpAnyH_ready (rs:=[11]) (by kernel_rfl) (by simp) ?_
  refine AllReadyH.cons rfl (fun K hK=>?_) AllReadyH.nil
  refine step_append_z (by rfl) (.tmp 35) (.tmp 40) 26 (by rfl) w3.heap.size 43 i0 _ 5 56 Tryz.underlying26 HI.out HZ0.out HZ1.out HZ2.out rfl (by decide) g cap k (rowK (ps.take k)) (by rfl) OC.out ⟨b,o+(k+1) * 5,none⟩ N1 (c - (k+1)) (rowK (ps.drop (k+1))) (by rfl) HLN.out (HNW.out _ BT.out) (rowK_one _) (by have:=HN1.out;have:=HL16.out;unfold maxLen;omega) (by have:=HN1.out;have:=HL16.out;omega) BT.out.size ?_
  intro g' cap' wd ho hg hat hlt
  have OC2:=Lib.hid ho
  have BN:Hid (Below w3.heap.size w3 wd):=grownOwn BT.out BT.out.size hg (owns_base OC.out)
  clear BT OC ho hg hat hlt
  have BT:=BN
  have OC:=OC2
  clear BN OC2
  refine hK.out _ _ (SX.out _ BT.out) (fun hHeld=>?_)
  try simp only [Act.put]
  try simp only [List.setIfInBounds_toArray]
  try simp only [List.set_cons_succ]
  try simp only [List.set_cons_zero]
  clear hK K hHeld
  clear wc
  obtain ⟨wc,rfl⟩:∃ wc,wc=wd:=⟨_,rfl⟩
  obtain ⟨g,rfl⟩:∃ g,g=g':=⟨_,rfl⟩
  obtain ⟨cap,rfl⟩:∃ cap,cap=cap':=⟨_,rfl⟩
  have hHeld:=SX.out _ BT.out
  refine takeR (i:=12) (v:=?v12_10) rfl (by kernel_rfl) (by kernel_rfl) (by kernel_rfl) (fun _ _ _ h=>h) (by rfl) ?hy12_10 (by assumption) ?rest12_10
  case hy12_10=>(intro W hSw;go_simp;try with_reducible rfl)
  try simp only [Act.put]
  try simp only [List.setIfInBounds_toArray]
  try simp only [List.set_cons_succ]
  try simp only [List.set_cons_zero]
  clear hHeld
  refine wpAnyH_ready (rs:=[13]) (by kernel_rfl) (by simp) ?_
  refine AllReadyH.cons rfl (fun K hK=>?_) AllReadyH.nil
  have HY4:=Lib.hid ((BT.out.block w2.heap.size (by have:=HSZ3.out;omega)).trans HROW3.out)
  have f17:=row_free HY4.out 17
  have y17:=cell_row HY4.out 17 rfl
  rw [if_pos (by rfl)]
  go_simp
  have B4:=Lib.hid (HWW.out _ BT.out)
  have BB5:=Lib.hid (B4.out.setCell (p:=⟨w2.heap.size,17,none⟩) (by have:=HSZ2.out;show w.heap.size≤w2.heap.size;omega) (.slice (some ⟨g,0,none⟩) (k+N1) cap))
  have hrow5:=set17 (.slice (some ⟨g,0,none⟩) (k+N1) cap) HY4.out
  have hz5:(wc.setCell ⟨w2.heap.size,17,none⟩ (.slice (some ⟨g,0,none⟩) (k+N1) cap)).heap[w.heap.size+1]?=_:=(Below.heap_setCell wc ⟨w2.heap.size,17,none⟩ (.slice (some ⟨g,0,none⟩) (k+N1) cap) (w.heap.size+1) (by have:=HSZ2.out;show _≠w2.heap.size;omega)).trans (HX2.out _ (Below.push B3.out (Nat.le_of_eq HS0.out.symm) BT.out))
  have hc5:Hid (∀ j u,(rowK (ps.take k++ps.drop (k+1)))[j]?=some u→(wc.setCell ⟨w2.heap.size,17,none⟩ (.slice (some ⟨g,0,none⟩) (k+N1) cap)).cell? ⟨g,0+j,none⟩=some u):=fun j u hj=>by
    have hlk:(rowK (ps.take k++ps.drop (k+1))).length=(k+N1) * 5:=by rw [rowK_len,List.length_append,List.length_take,List.length_drop];have:=HP.out.2.2.2;have:=HN1.out;omega
    have hjl:j<(k+N1) * 5:=by
      rw [← hlk]
      rcases Nat.lt_or_ge j (rowK (ps.take k++ps.drop (k+1))).length with h | h
      · exact h
      · rw [List.getElem?_eq_none h] at hj;cases hj
    have hown5:=ownsRow_setCell_below OC.out (a:=⟨w2.heap.size,17,none⟩) (by have:=HSZ3.out;show w2.heap.size<_;omega) (.slice (some ⟨g,0,none⟩) (k+N1) cap)
    rw [Nat.zero_add,World.ownsRow.cellAt hown5 j hjl,← rowK_app]
    exact hj
  have HG5:Hid (w3.heap.size≤g∧g<(wc.setCell ⟨w2.heap.size,17,none⟩ (.slice (some ⟨g,0,none⟩) (k+N1) cap)).heap.size∧k+N1≤cap):=⟨owns_base OC.out,by have:=owns_lt OC.out;simpa [World.setCell] using this,owns_cap OC.out⟩
  have HROW5:=Lib.hid hrow5
  have HZ5:=Lib.hid hz5
  clear hrow5 hz5 f17 y17
  refine hK.out _ _ ?_ (fun hHeld=>?_)
  case _=>exact (SX.out _ BT.out).setCell (p:=⟨w2.heap.size,17,none⟩) (Nat.le_refl _) _
  try simp only [Act.put]
  try simp only [List.setIfInBounds_toArray]
  try simp only [List.set_cons_succ]
  try simp only [List.set_cons_zero]
  clear hK K hHeld BT OC
  generalize wc.setCell ⟨w2.heap.size,17,none⟩ (.slice (some ⟨g,0,none⟩) (k+N1) cap)=w5 at *
  refine wpAnyH_done (by kernel_rfl) ?_ _
  go_wp2_with (first
    | (refine wpList_ld18 rfl (.tmp 8) rfl _ rfl _ _ HROW5.out rfl ?_)
    | (refine wpList_st18 rfl 28 (.tmp 4) (.tmp 43) rfl _ rfl rfl _ _ HZ5.out info_bun rfl rfl ?_;intro W' hrow' _ hoth hbel hsz';have HWB:=Lib.hid (hbel _ _ BB5.out (Nat.le_succ _));clear hbel)
    | fail)
  refine bodyPost_ret (res_bt Tryz.results21 _ _ rfl hrow' rfl) rfl (HG.out _ _ ⟨HWB.out,.inl ⟨k,(by first | rfl | trivial),HK.out.1,by rw [HN.out];exact HK.out.2,_,_,_,rfl,?_,HG5.out.2.2⟩⟩)
  refine ⟨?_,fun _=>⟨g,0,rfl,by rw [hsz'];exact HG5.out.2.1,?_⟩,by have:=HN1.out;have:=HL16.out;omega⟩
  · rw [List.length_append,List.length_take,List.length_drop,HN.out];have:=HN1.out;omega
  · rw [show l.take k++l.drop (k+1)=(ps.take k++ps.drop (k+1)).map (·.x) by rw [List.map_append,List.map_take,List.map_drop,HP.out.1]]
    exact rowK_src (B:=B) (Nat.le_trans HR.out.2.1 HWB.out.size) _ 0 (fun j u hj=>(hoth _ (by have:=HG5.out.1;have:=HSZ3.out;have:=HSZ2.out;show g≠_;omega)).trans (hc5.out j u hj)) (fun p hp=>(HP.out.2.2.1 p (by rcases List.mem_append.1 hp with h | h;exact List.mem_of_mem_take h;exact List.mem_of_mem_drop h)).below (HWB.out.mono HR.out.2.1))
end Go.Proofs.YtldnokgdgafphaaGreatDoor
