import Derived.Test.YtlecbblmaadpiaaGreatDoorKBlkF
import Derived.Test.YtlecbblmaadpiaaGreatDoorKBunD
import Derived.Test.YtlecbblmaadpiaaGreatDoorKBunF
import Derived.Test.YtlecbblmaadpiaaGreatDoorKBunN
import Derived.Test.YtlecbblmaadpiaaGreatDoorKEidR
import Derived.Test.YtlecbblmaadpiaaGreatDoorKKRd
import Derived.Test.YtlecbblmaadpiaaGreatDoorKRfC
import Derived.Deep.RegionHeld3
namespace Go.Proofs.YtlecbblmaadpiaaGreatDoor
set_option maxRecDepth 100000
set_option maxHeartbeats 16000000
open Go.RowKit
open Go.Lib (hid)
def encU (b:Bun):List UInt8×Int:=if cauU b≠0 then ([],cauU b) else if 4096<(bunW b).length then ([],60) else (bunW b,0)
def WriU (b:Bun) (w:World) (e:Ending) (w':World):Prop:=Below w.heap.size w w' ∧
 (((encU b).2=0∧∃ v,e=.returned (.tuple #[v,.nilIface])∧Ob w' w.heap.size 5 v (encU b).1) ∨
  ((encU b).2≠0∧(encU b).1=[]∧numZ (encU b).2=(encU b).2∧∃ s,e=.returned (.tuple #[.slice none 0 0,ufl (encU b).2 s])))
theorem blkW_len {b:Blk} (h:blkOk b=true):(blkW b).length≤4200:=by
 have h1:=(blkOk_iff.1 h).2.2.2.2
 have h2:=body_len b
 have h3:=sumN_le b.crc
 unfold blkW
 rw [List.length_append,sumB_len]
 omega
theorem blkWs_len:∀ {l:List Blk},(∀ y∈l,blkOk y=true∧Bd y)→(blkWs l).length≤l.length*4200
 | [],_=>by simp [blkWs]
 | x::r,h=>by
  rw [blkWs,List.length_append,List.length_cons]
  have h1:=blkW_len (h x (by simp)).1
  have h2:=blkWs_len (l:=r) (fun y hy=>h y (by simp [hy]))
  omega
theorem RdKs.bds {w:World} {B b:Nat}:∀ {l:List Blk} {o:Nat},RdKs w B b o l→∀ y∈l,Bd y
 | [],_,_,y,hy=>by cases hy
 | x::r,o,⟨⟨A,nd,cd,h⟩,hr⟩,y,hy=>by
  rcases List.mem_cons.1 hy with rfl|hy
  ·
   exact h.bd
  ·
   exact RdKs.bds hr y hy
theorem RdL.bds {w:World} {B n:Nat} {A:Option Addr} {l:List Blk} (h:RdL w B A n l):∀ y∈l,Bd y:=by
 intro y hy
 have h0:0<n:=by
  rw [← h.1]
  exact List.length_pos_of_mem hy
 obtain ⟨b,o,-,-,hk⟩:=h.2.1 h0
 exact hk.bds y hy
theorem uwrite_any (S:Snt) (h:BH) (l:List Blk) (A:Option Addr) (n c B:Nat) (w:World) (hS:Wd S w) (hd:h.Bd) (hr:RdL w B A n l) (hB:B≤w.heap.size) (hc:n≤c) :
  Calls Tryz.prog 96 #[bunV h A n c] w (WriU (h.bun l) w):=by
 have HB0:=hid ((Below.refl w.heap.size w).alloc nlr (.cells #[.int .u64 (h.flg:Int),.int .i64 h.crc,.int .i64 h.dsc,.string h.dnm,.int .u64 (h.dn:Int),.int .u64 (h.dv:Int),.int .i64 h.ssc,.string h.snm,.int .u64 (h.sn:Int),.int .u64 (h.sv:Int),.int .i64 h.rsc,.string h.rnm,.int .u64 (h.rn:Int),.int .u64 (h.rv:Int),.int .u64 (h.tim:Int),.int .u64 (h.seq:Int),.int .u64 (h.lif:Int),.slice A n c] 73))
 have HRW:=hid (fun (W:World) (hb:Below (w.heap.size+1) (w.alloc (.cells #[.int .u64 (h.flg:Int),.int .i64 h.crc,.int .i64 h.dsc,.string h.dnm,.int .u64 (h.dn:Int),.int .u64 (h.dv:Int),.int .i64 h.ssc,.string h.snm,.int .u64 (h.sn:Int),.int .u64 (h.sv:Int),.int .i64 h.rsc,.string h.rnm,.int .u64 (h.rn:Int),.int .u64 (h.rv:Int),.int .u64 (h.tim:Int),.int .u64 (h.seq:Int),.int .u64 (h.lif:Int),.slice A n c] 73)) W)=>row_of_box rfl hb)
 have hs0:(w.alloc (.cells #[.int .u64 (h.flg:Int),.int .i64 h.crc,.int .i64 h.dsc,.string h.dnm,.int .u64 (h.dn:Int),.int .u64 (h.dv:Int),.int .i64 h.ssc,.string h.snm,.int .u64 (h.sn:Int),.int .u64 (h.sv:Int),.int .i64 h.rsc,.string h.rnm,.int .u64 (h.rn:Int),.int .u64 (h.rv:Int),.int .u64 (h.tim:Int),.int .u64 (h.seq:Int),.int .u64 (h.lif:Int),.slice A n c] 73)).heap.size=w.heap.size+1:=by simp
 have HS0:=hid hs0
 have HW0:Hid (Below (w.heap.size+1) (w.alloc (.cells #[.int .u64 (h.flg:Int),.int .i64 h.crc,.int .i64 h.dsc,.string h.dnm,.int .u64 (h.dn:Int),.int .u64 (h.dv:Int),.int .i64 h.ssc,.string h.snm,.int .u64 (h.sn:Int),.int .u64 (h.sv:Int),.int .i64 h.rsc,.string h.rnm,.int .u64 (h.rn:Int),.int .u64 (h.rv:Int),.int .u64 (h.tim:Int),.int .u64 (h.seq:Int),.int .u64 (h.lif:Int),.slice A n c] 73)) (w.alloc (.cells #[.int .u64 (h.flg:Int),.int .i64 h.crc,.int .i64 h.dsc,.string h.dnm,.int .u64 (h.dn:Int),.int .u64 (h.dv:Int),.int .i64 h.ssc,.string h.snm,.int .u64 (h.sn:Int),.int .u64 (h.sv:Int),.int .i64 h.rsc,.string h.rnm,.int .u64 (h.rn:Int),.int .u64 (h.rv:Int),.int .u64 (h.tim:Int),.int .u64 (h.seq:Int),.int .u64 (h.lif:Int),.slice A n c] 73))):=Below.refl _ _
 have HWd:=hid (hS.alloc (.cells #[.int .u64 (h.flg:Int),.int .i64 h.crc,.int .i64 h.dsc,.string h.dnm,.int .u64 (h.dn:Int),.int .u64 (h.dv:Int),.int .i64 h.ssc,.string h.snm,.int .u64 (h.sn:Int),.int .u64 (h.sv:Int),.int .i64 h.rsc,.string h.rnm,.int .u64 (h.rn:Int),.int .u64 (h.rv:Int),.int .u64 (h.tim:Int),.int .u64 (h.seq:Int),.int .u64 (h.lif:Int),.slice A n c] 73))
 have C1:=hid (ucheck_any S h l A n c B (w.alloc (.cells #[.int .u64 (h.flg:Int),.int .i64 h.crc,.int .i64 h.dsc,.string h.dnm,.int .u64 (h.dn:Int),.int .u64 (h.dv:Int),.int .i64 h.ssc,.string h.snm,.int .u64 (h.sn:Int),.int .u64 (h.sv:Int),.int .i64 h.rsc,.string h.rnm,.int .u64 (h.rn:Int),.int .u64 (h.rv:Int),.int .u64 (h.tim:Int),.int .u64 (h.seq:Int),.int .u64 (h.lif:Int),.slice A n c] 73)) HWd.out hd (hr.below (HB0.out.mono hB)) (Nat.le_trans hB (le_alloc _ _)) hc)
 have q1:=fun (W:World) (u:TypeId) (x:Value)=>run_neq_iface_nil (P:=Tryz.prog) (w:=W) 95 (by kernel_rfl) u x
 have HR:=hid hr
 have hn47:=hr.2.2
 have HH:=hid (And.intro hB (And.intro hc hd))
 have CN:=hid unone_any
 have hbds:=hr.bds
 have HEN:Hid (encU (h.bun l)=if cauU (h.bun l)≠0 then ([],cauU (h.bun l)) else if 4096<(bunW (h.bun l)).length then ([],60) else (bunW (h.bun l),0)):=rfl
 have hnum:cauU (h.bun l)=0∨numZ (cauU (h.bun l))=cauU (h.bun l):=by
  unfold cauU
  split
  ·
   exact .inr rfl
  ·
   split
   ·
    exact .inl rfl
   ·
    exact .inr rfl
 clear hr hB hc hS hd
 by_cases hz:cauU (h.bun l)=0
 case neg =>
  have HE:Hid (encU (h.bun l)=([],cauU (h.bun l))):=by show _=_;rw [HEN.out,if_pos hz]
  have HNZ:=hid (hnum.resolve_left hz)
  have HZ:=hid hz
  clear hnum HEN hbds
  generalize cauU (h.bun l)=z at *
  unfold bunV at *
  go_enter Tryz.func96,Tryz.ntmps96
  go_wp2_with (first
   | (refine wpList_ld18 rfl (.tmp 1) rfl _ rfl _ _ (HRW.out _ HW0.out) rfl ?_)
   | fail)
  refine C1.out.mono ?_
  rintro e w1 ⟨hb,⟨h0,-⟩|⟨-,s,rfl⟩⟩
  ·
   exact absurd h0 hz
  have HB1:=hid (HB0.out.trans (hb.mono (le_alloc _ _)))
  clear hb hz
  unfold ufl at *
  go_wp2_with fail
  go_ret2
  exact ⟨HB1.out,.inr ⟨by rw [HE.out];exact HZ.out,by rw [HE.out],by rw [HE.out];exact HNZ.out,s,by rw [HE.out];rfl⟩⟩
 rw [hz] at C1
 have hok:=cauU_0.1 hz
 have hwr:=(primOk_iff.1 hok.2.1).1
 have hkb:∀ y∈l,blkOk y=true∧Bd y:=okBs_of hok.2.2 hbds
 have hl16:=(blksOk_len hok.2.2).2
 have e16:(h.bun l).blks=l:=rfl
 rw [e16] at hl16
 have hBW:bunW (h.bun l)=(0x9f::primW (h.bun l))++blkWs l++[0xff]:=by unfold bunW;simp [BH.bun]
 rw [if_neg (by simpa using hz),hBW] at HEN
 have hpl:=primW_len hwr
 have CP:Hid (∀ W,Below (w.heap.size+1) (w.alloc (.cells #[.int .u64 (h.flg:Int),.int .i64 h.crc,.int .i64 h.dsc,.string h.dnm,.int .u64 (h.dn:Int),.int .u64 (h.dv:Int),.int .i64 h.ssc,.string h.snm,.int .u64 (h.sn:Int),.int .u64 (h.sv:Int),.int .i64 h.rsc,.string h.rnm,.int .u64 (h.rn:Int),.int .u64 (h.rv:Int),.int .u64 (h.tim:Int),.int .u64 (h.seq:Int),.int .u64 (h.lif:Int),.slice A n c] 73)) W→Calls Tryz.prog 99 #[bunV h A n c] W (GivesO 5 (primW (h.bun l)) W)):=fun W hb=>uwriteP_any S h l A n c W (HWd.out.below hb (Nat.le_of_eq hs0)) HH.out.2.2 hwr
 have HKB:=hid hkb
 generalize primW (h.bun l)=PW at *
 obtain ⟨hd9,hhd9⟩:∃ q,q=(0x9f:UInt8)::PW:=⟨_,rfl⟩
 have hhl:hd9.length≤455:=by rw [hhd9];simp;omega
 rw [← hhd9] at HEN
 have HHD:=hid hhd9
 have HHL:=hid (And.intro hhl (And.intro hl16 HR.out.1))
 clear hnum hz hok hwr hkb hl16 e16 hBW hpl hbds hhd9 hhl hs0
 unfold bunV at *
 go_enter Tryz.func96,Tryz.ntmps96
 go_wp2_with (first
  | (refine wpList_ld18 rfl (.tmp 1) rfl _ rfl _ _ (HRW.out _ HW0.out) rfl ?_)
  | fail)
 refine C1.out.mono ?_
 rintro e w1 ⟨hb,⟨-,rfl⟩|⟨h0,-⟩⟩
 case inr=>exact absurd rfl h0
 have B1:=hid (Below.push HW0.out (Nat.le_of_eq HS0.out.symm) hb)
 have B1':Hid (Below (w.heap.size+1) (w.alloc (.cells #[.int .u64 (h.flg:Int),.int .i64 h.crc,.int .i64 h.dsc,.string h.dnm,.int .u64 (h.dn:Int),.int .u64 (h.dv:Int),.int .i64 h.ssc,.string h.snm,.int .u64 (h.sn:Int),.int .u64 (h.sv:Int),.int .i64 h.rsc,.string h.rnm,.int .u64 (h.rn:Int),.int .u64 (h.rv:Int),.int .u64 (h.tim:Int),.int .u64 (h.seq:Int),.int .u64 (h.lif:Int),.slice A n c] 73)) (w1.alloc (.cells #[.int .u8 159] 5))):=B1.out.alloc (by have:=B1.out.size;have:=HS0.out;omega) _
 have O1:Hid (Ob (w1.alloc (.cells #[.int .u8 159] 5)) (w.heap.size+1) 5 (.slice (some ⟨w1.heap.size,0,none⟩) 1 1) [0x9f]):=Ob.lit w1 [0x9f] #[.int .u8 159] rfl (by have:=B1.out.size;have:=HS0.out;omega) 1 rfl (by decide)
 clear hb
 go_wp2_with (first
  | (refine wpList_ld18 rfl (.tmp 1) rfl _ rfl _ _ (HRW.out _ B1'.out) rfl ?_)
  | fail)
 refine (CP.out _ B1'.out).mono ?_
 rintro e w2 ⟨v2,rfl,ho2,hb2⟩
 obtain ⟨A2,c2,rfl,hc2,-,hr2⟩:=ho2.rd
 have B2:=hid (Below.push B1'.out (Nat.le_of_eq HS0.out.symm) hb2)
 have O2:=hid (O1.out.below hb2)
 have R2:=hid hr2
 clear hb2 ho2 hc2 hr2
 have HPL:Hid (PW.length≤455):=by show _≤_;have:=HHL.out.1;rw [HHD.out] at this;simp at this;omega
 go_wp2_with (first
  | (at_builtin;refine wpList_appB rfl (.tmp 15) (.tmp 17) 27 rfl (w.heap.size+1) 5 rfl info_u8 _ [0x9f] rfl O2.out _ _ _ _ PW rfl R2.out (by have:=HPL.out;simp;omega) (by have:=B2.out.size;have:=HS0.out;omega) ?_;intro v3 w3 ho3 hb3;have O3:=hid ho3;have B3:Hid (Below (w.heap.size+1) (w.alloc (.cells #[.int .u64 (h.flg:Int),.int .i64 h.crc,.int .i64 h.dsc,.string h.dnm,.int .u64 (h.dn:Int),.int .u64 (h.dv:Int),.int .i64 h.ssc,.string h.snm,.int .u64 (h.sn:Int),.int .u64 (h.sv:Int),.int .i64 h.rsc,.string h.rnm,.int .u64 (h.rn:Int),.int .u64 (h.rv:Int),.int .u64 (h.tim:Int),.int .u64 (h.seq:Int),.int .u64 (h.lif:Int),.slice A n c] 73)) w3):=B2.out.trans hb3;have x17:=cell_row (HRW.out _ B3.out) 17 rfl;clear ho3 hb3)
  | fail)
 have O3':Hid (Ob w3 (w.heap.size+1) 5 v3 (hd9++blkWs (l.take 0))):=by
  have:=O3.out
  show Ob _ _ _ _ _
  rw [HHD.out,List.take_zero,blkWs,List.append_nil]
  exact this
 clear x17
 go_loopw [5,22] (fun v iv wr=>∃ i:Nat,i≤n∧iv=.int .i64 (i:Int)∧Hid (Ob wr (w.heap.size+1) 5 v (hd9++blkWs (l.take i)))∧Hid (Below (w.heap.size+1) (w.alloc (.cells #[.int .u64 (h.flg:Int),.int .i64 h.crc,.int .i64 h.dsc,.string h.dnm,.int .u64 (h.dn:Int),.int .u64 (h.dv:Int),.int .i64 h.ssc,.string h.snm,.int .u64 (h.sn:Int),.int .u64 (h.sv:Int),.int .i64 h.rsc,.string h.rnm,.int .u64 (h.rn:Int),.int .u64 (h.rv:Int),.int .u64 (h.tim:Int),.int .u64 (h.seq:Int),.int .u64 (h.lif:Int),.slice A n c] 73)) wr)) (fun _ iv _=>n - (intOf iv).toNat)
 case atStart=>exact ⟨0,Nat.zero_le _,rfl,O3'.out,B3.out⟩
 case round =>
  obtain ⟨i,hi,rfl,HO,HB⟩:=hrel
  by_cases hlt:i<n
  ·
   have hil:i<l.length:=by rw [HR.out.1];exact hlt
   obtain ⟨b,o,hA,hbB,hks⟩:=HR.out.2.1 (by omega)
   obtain ⟨A1,nd,cd,hk⟩:=hks.get i hil
   have hk2:=hk.below ((HB0.out.trans (HB.out.mono (Nat.le_succ _))).mono HH.out.1) hbB
   have hkb:=HKB.out _ (List.getElem_mem hil)
   have hstep:blkWs (l.take (i+1))=blkWs (l.take i)++blkW (l[i]'hil):=by
    rw [List.take_succ_eq_append_getElem hil,blkWs_app];simp [blkWs]
   have hlen:(hd9++blkWs (l.take i)).length≤455+16*4200:=by
    rw [List.length_append]
    have h1:=blkWs_len (l:=l.take i) (fun y hy=>HKB.out y (List.mem_of_mem_take hy))
    have h2:=HHL.out
    have h3:(l.take i).length≤16:=by rw [List.length_take];omega
    omega
   generalize l[i]=x at *
   have g0:=hk2.k0
   have g1:=hk2.k1
   have g2:=hk2.k2
   have g3:=hk2.k3
   have g4:=hk2.k4
   have hwr0:w.heap.size+1≤wr.heap.size:=by have:=HB.out.size;have:=HS0.out;omega
   have hbx:=(Below.refl wr.heap.size wr).alloc nlr (.cells #[.int .u64 (x.typ:Int),.int .u64 (x.num:Int),.int .u64 (x.flg:Int),.int .i64 x.crc,.slice A1 nd cd] 48)
   have B4:=hid (Below.push HB.out (Nat.le_of_eq HS0.out.symm) hbx)
   have O4:=hid (HO.out.below hbx)
   have CE:=hid (bencode_any x A1 nd cd B (wr.alloc (.cells #[.int .u64 (x.typ:Int),.int .u64 (x.num:Int),.int .u64 (x.flg:Int),.int .i64 x.crc,.slice A1 nd cd] 48)) hkb.2 (by have:=HH.out.1;simp;omega) (hk2.rd.below (hbx.mono (by have:=HH.out.1;omega))) (HWd.out.below B4.out (Nat.le_of_eq HS0.out)).laid)
   rw [if_pos hkb.1,if_pos hkb.1] at CE
   have HXL:=hid (blkW_len hkb.1)
   have HSTEP:=hid hstep
   have HLEN:=hid hlen
   clear hk hk2 hks hbB hkb hstep hlen hbx hwr0
   subst hA
   unfold blkV at *
   go_wp2_with fail
   refine CE.out.mono ?_
   rintro e w5 ⟨v5,rfl,ho5,hb5⟩
   obtain ⟨A5,c5,rfl,hc5,-,hr5⟩:=ho5.rd
   have B5:=hid (Below.push B4.out (Nat.le_of_eq HS0.out.symm) hb5)
   have O5:=hid (O4.out.below hb5)
   have R5:=hid hr5
   clear hb5 ho5 hc5 hr5 g0 g1 g2 g3 g4
   go_wp2_with (first
    | (at_builtin;refine wpList_appB rfl (.tmp 31) (.tmp 32) 27 rfl (w.heap.size+1) 5 rfl info_u8 _ _ rfl O5.out _ _ _ _ (blkW x) rfl R5.out (by have:=HLEN.out;have:=HXL.out;omega) (by have:=B5.out.size;have:=HS0.out;omega) ?_;intro v6 w6 ho6 hb6;have O6:=hid ho6;have B6:=hid (B5.out.trans hb6);clear ho6 hb6)
    | fail)
   go_roundw
   case rel=>exact ⟨i+1,by omega,by go_num,hid (by rw [HSTEP.out,← List.append_assoc];exact O6.out),B6.out⟩
   case measure=>simp [intOf];omega
  ·
   obtain rfl:i=n:=by omega
   have hfull:hd9++blkWs (l.take i)=hd9++blkWs l:=by rw [List.take_of_length_le (by rw [HR.out.1];exact Nat.le_refl _)]
   have ho:=HO.out
   rw [hfull] at ho
   have HBL:Hid ((hd9++blkWs l).length≤455+16*4200):=by
    show _≤_
    rw [List.length_append]
    have h1:=blkWs_len (l:=l) HKB.out
    have h2:=HHL.out
    rw [h2.2.2] at h1
    omega
   obtain ⟨AL,cL,rfl,hcL,-,-⟩:=ho.rd
   have O7:Hid (Ob (wr.alloc (.cells #[.int .u8 255] 5)) (w.heap.size+1) 5 (.slice AL (hd9++blkWs l).length cL) (hd9++blkWs l)):=ho.alloc _
   have HBr:=hid HB.out
   have R7:Hid (Rd (wr.alloc (.cells #[.int .u8 255] 5)) (wr.heap.size+1) (some ⟨wr.heap.size,0,none⟩) 1 [0xff]):=Rd.lit wr wr.heap.size rfl [0xff] 5 #[.int .u8 255] rfl 1 rfl
   generalize hQ:hd9++blkWs l=QL at *
   clear hfull ho hcL HO
   have HEN2:Hid (encU (h.bun l)=if 4096<(QL++[0xff]).length then ([],60) else (QL++[0xff],0)):=by show _=_;rw [HEN.out]
   have hlenq:(QL++[0xff]:List UInt8).length=QL.length+1:=by simp
   by_cases hbig:4096<QL.length+1
   ·
    have t1:decide ((4096:Int)<((QL.length+1:Nat):Int))=true:=decide_eq_true (by omega)
    have t2:(4096:Int)<((QL++[0xff]:List UInt8).length:Int):=by omega
    have t3:decide ((4096:Int)<((QL++[0xff]:List UInt8).length:Int))=true:=decide_eq_true t2
    have HE:Hid (encU (h.bun l)=([],60)):=by show _=_;rw [HEN2.out,if_pos (by rw [hlenq];exact hbig)]
    generalize (QL++[0xff]:List UInt8).length=LQ at *
    go_wp2_with (first
     | (go_at_call 142;refine (CN.out _ _).mono ?_;rintro e w9 ⟨rfl,rfl⟩)
     | (at_builtin;refine wpList_appB rfl (.tmp 35) (.tmp 36) 27 rfl (w.heap.size+1) 5 rfl info_u8 _ QL rfl O7.out _ _ _ _ [0xff] rfl R7.out (by have:=HBL.out;omega) (by have:=HBr.out.size;have:=HS0.out;simp;omega) ?_;intro v8 w8 ho8 hb8;obtain ⟨A8,c8,hv8,hc8,hm8,hr8⟩:=ho8.rd;subst hv8;have O8:=hid ho8;have B8:=hid ((HBr.out.alloc (by have:=HBr.out.size;have:=HS0.out;omega) _).trans hb8);clear ho8 hb8 hc8 hm8 hr8)
     | fail)
    go_ret2
    exact ⟨HB0.out.trans (B8.out.mono (Nat.le_succ _)),.inr ⟨by rw [HE.out];decide,by rw [HE.out],by rw [HE.out];rfl,_,by rw [HE.out];rfl⟩⟩
   ·
    have t1:decide ((4096:Int)<((QL.length+1:Nat):Int))=false:=decide_eq_false (by omega)
    have t2:¬ (4096:Int)<((QL++[0xff]:List UInt8).length:Int):=by omega
    have t3:decide ((4096:Int)<((QL++[0xff]:List UInt8).length:Int))=false:=decide_eq_false t2
    have HE:Hid (encU (h.bun l)=(QL++[0xff],0)):=by show _=_;rw [HEN2.out,if_neg (by rw [hlenq];exact hbig)]
    go_wp2_with (first
     | (at_builtin;refine wpList_appB rfl (.tmp 35) (.tmp 36) 27 rfl (w.heap.size+1) 5 rfl info_u8 _ QL rfl O7.out _ _ _ _ [0xff] rfl R7.out (by have:=HBL.out;omega) (by have:=HBr.out.size;have:=HS0.out;simp;omega) ?_;intro v8 w8 ho8 hb8;obtain ⟨A8,c8,hv8,hc8,hm8,hr8⟩:=ho8.rd;subst hv8;have O8:=hid ho8;have B8:=hid ((HBr.out.alloc (by have:=HBr.out.size;have:=HS0.out;omega) _).trans hb8);clear ho8 hb8 hc8 hm8 hr8)
     | fail)
    go_ret2
    exact ⟨HB0.out.trans (B8.out.mono (Nat.le_succ _)),.inl ⟨by rw [HE.out],_,rfl,by
     have h9:=O8.out.low (Nat.le_succ _)
     rw [HE.out]
     try rw [hlenq] at h9
     exact h9⟩⟩
theorem uencode_any (S:Snt) (h:BH) (l:List Blk) (A:Option Addr) (n c B:Nat) (w:World) (hS:Wd S w) (hd:h.Bd) (hr:RdL w B A n l) (hB:B≤w.heap.size) (hc:n≤c) :
  Calls Tryz.prog 47 #[bunV h A n c] w fun e w'=>Below w.heap.size w w'∧∃ v,e=.returned (.tuple #[v,.int .i64 (encU (h.bun l)).2])∧Ob w' w.heap.size 5 v (encU (h.bun l)).1:=by
 have HB0:=hid ((Below.refl w.heap.size w).alloc nlr (.cells #[.int .u64 (h.flg:Int),.int .i64 h.crc,.int .i64 h.dsc,.string h.dnm,.int .u64 (h.dn:Int),.int .u64 (h.dv:Int),.int .i64 h.ssc,.string h.snm,.int .u64 (h.sn:Int),.int .u64 (h.sv:Int),.int .i64 h.rsc,.string h.rnm,.int .u64 (h.rn:Int),.int .u64 (h.rv:Int),.int .u64 (h.tim:Int),.int .u64 (h.seq:Int),.int .u64 (h.lif:Int),.slice A n c] 73))
 have HRW:=hid (fun (W:World) (hb:Below (w.heap.size+1) (w.alloc (.cells #[.int .u64 (h.flg:Int),.int .i64 h.crc,.int .i64 h.dsc,.string h.dnm,.int .u64 (h.dn:Int),.int .u64 (h.dv:Int),.int .i64 h.ssc,.string h.snm,.int .u64 (h.sn:Int),.int .u64 (h.sv:Int),.int .i64 h.rsc,.string h.rnm,.int .u64 (h.rn:Int),.int .u64 (h.rv:Int),.int .u64 (h.tim:Int),.int .u64 (h.seq:Int),.int .u64 (h.lif:Int),.slice A n c] 73)) W)=>row_of_box rfl hb)
 have HW0:Hid (Below (w.heap.size+1) (w.alloc (.cells #[.int .u64 (h.flg:Int),.int .i64 h.crc,.int .i64 h.dsc,.string h.dnm,.int .u64 (h.dn:Int),.int .u64 (h.dv:Int),.int .i64 h.ssc,.string h.snm,.int .u64 (h.sn:Int),.int .u64 (h.sv:Int),.int .i64 h.rsc,.string h.rnm,.int .u64 (h.rn:Int),.int .u64 (h.rv:Int),.int .u64 (h.tim:Int),.int .u64 (h.seq:Int),.int .u64 (h.lif:Int),.slice A n c] 73)) (w.alloc (.cells #[.int .u64 (h.flg:Int),.int .i64 h.crc,.int .i64 h.dsc,.string h.dnm,.int .u64 (h.dn:Int),.int .u64 (h.dv:Int),.int .i64 h.ssc,.string h.snm,.int .u64 (h.sn:Int),.int .u64 (h.sv:Int),.int .i64 h.rsc,.string h.rnm,.int .u64 (h.rn:Int),.int .u64 (h.rv:Int),.int .u64 (h.tim:Int),.int .u64 (h.seq:Int),.int .u64 (h.lif:Int),.slice A n c] 73))):=Below.refl _ _
 have C1:=hid (uwrite_any S h l A n c B (w.alloc (.cells #[.int .u64 (h.flg:Int),.int .i64 h.crc,.int .i64 h.dsc,.string h.dnm,.int .u64 (h.dn:Int),.int .u64 (h.dv:Int),.int .i64 h.ssc,.string h.snm,.int .u64 (h.sn:Int),.int .u64 (h.sv:Int),.int .i64 h.rsc,.string h.rnm,.int .u64 (h.rn:Int),.int .u64 (h.rv:Int),.int .u64 (h.tim:Int),.int .u64 (h.seq:Int),.int .u64 (h.lif:Int),.slice A n c] 73)) (hS.alloc _) hd (hr.below (HB0.out.mono hB)) (Nat.le_trans hB (le_alloc _ _)) hc)
 have CN:=hid unumber_nil
 clear hr hB hc hS hd
 unfold bunV at *
 go_enter Tryz.func47,Tryz.ntmps47
 go_wp2_with (first
  | (refine wpList_ld18 rfl (.tmp 1) rfl _ rfl _ _ (HRW.out _ HW0.out) rfl ?_)
  | fail)
 refine C1.out.mono ?_
 rintro e w1 ⟨hb,⟨h0,v,rfl,ho⟩|⟨h0,h1,h2,s,rfl⟩⟩
 ·
  have HB1:=hid (HB0.out.trans (hb.mono (le_alloc _ _)))
  have HO:=hid (ho.low (le_alloc _ _))
  have H0:=hid h0
  clear hb h0 ho
  go_wp2_with (first|(go_at_call 97;refine (CN.out _).mono ?_;rintro e w2 ⟨rfl,rfl⟩)|fail)
  go_ret2
  exact ⟨HB1.out,v,by rw [H0.out];rfl,HO.out⟩
 ·
  have HB1:=hid (HB0.out.trans (hb.mono (le_alloc _ _)))
  have H1:=hid h1
  have CM:=hid (fun W=>unumber_any (encU (h.bun l)).2 s W)
  rw [h2] at CM
  clear hb h0 h1 h2
  go_wp2_with (first|(go_at_call 97;refine (CM.out _).mono ?_;rintro e w2 ⟨rfl,hb2⟩;have HB2:=hid (HB1.out.trans (hb2.mono HB1.out.size));clear hb2)|fail)
  go_ret2
  exact ⟨HB2.out,_,rfl,by rw [H1.out];exact Ob.nil_ _ _ _⟩
open Go.Lib (decDigits)
theorem ufind_any (h:BH) (l:List Blk) (A:Option Addr) (n c B q:Nat) (w:World) (hr:RdL w B A n l) (hB:B≤w.heap.size) :
  Calls Tryz.prog 95 #[bunV h A n c,.int .u64 (q:Int)] w fun e w'=>e=.returned (.int .i64 (plc (pNum q) l 0))∧Below w.heap.size w w':=by
 have HB0:=hid ((Below.refl w.heap.size w).alloc nlr (.cells #[.int .u64 (h.flg:Int),.int .i64 h.crc,.int .i64 h.dsc,.string h.dnm,.int .u64 (h.dn:Int),.int .u64 (h.dv:Int),.int .i64 h.ssc,.string h.snm,.int .u64 (h.sn:Int),.int .u64 (h.sv:Int),.int .i64 h.rsc,.string h.rnm,.int .u64 (h.rn:Int),.int .u64 (h.rv:Int),.int .u64 (h.tim:Int),.int .u64 (h.seq:Int),.int .u64 (h.lif:Int),.slice A n c] 73))
 have C1:=hid (place_any A n c B q l (w.alloc (.cells #[.int .u64 (h.flg:Int),.int .i64 h.crc,.int .i64 h.dsc,.string h.dnm,.int .u64 (h.dn:Int),.int .u64 (h.dv:Int),.int .i64 h.ssc,.string h.snm,.int .u64 (h.sn:Int),.int .u64 (h.sv:Int),.int .i64 h.rsc,.string h.rnm,.int .u64 (h.rn:Int),.int .u64 (h.rv:Int),.int .u64 (h.tim:Int),.int .u64 (h.seq:Int),.int .u64 (h.lif:Int),.slice A n c] 73)) (hr.below (HB0.out.mono hB)) (Nat.le_trans hB (le_alloc _ _)))
 generalize plc (pNum q) l 0=P at *
 clear hr hB
 unfold bunV at *
 go_enter Tryz.func95,Tryz.ntmps95
 go_wp2_with fail
 refine C1.out.mono ?_
 rintro e w1 ⟨rfl,hb⟩
 have HB1:=hid (HB0.out.trans (hb.mono (le_alloc _ _)))
 clear hb
 go_wp2_with fail
 go_ret
 exact ⟨rfl,HB1.out⟩
def payU (b:Bun):List UInt8:=if cauU b≠0 then [] else (b.blks.getLast?.map (·.dat)).getD []
theorem upay_any (S:Snt) (h:BH) (l:List Blk) (A:Option Addr) (n c B:Nat) (w:World) (hS:Wd S w) (hd:h.Bd) (hr:RdL w B A n l) (hB:B≤w.heap.size) (hc:n≤c) :
  Calls Tryz.prog 56 #[bunV h A n c] w (GivesO 5 (payU (h.bun l)) w):=by
 have HB0:=hid ((Below.refl w.heap.size w).alloc nlr (.cells #[.int .u64 (h.flg:Int),.int .i64 h.crc,.int .i64 h.dsc,.string h.dnm,.int .u64 (h.dn:Int),.int .u64 (h.dv:Int),.int .i64 h.ssc,.string h.snm,.int .u64 (h.sn:Int),.int .u64 (h.sv:Int),.int .i64 h.rsc,.string h.rnm,.int .u64 (h.rn:Int),.int .u64 (h.rv:Int),.int .u64 (h.tim:Int),.int .u64 (h.seq:Int),.int .u64 (h.lif:Int),.slice A n c] 73))
 have HRW:=hid (fun (W:World) (hb:Below (w.heap.size+1) (w.alloc (.cells #[.int .u64 (h.flg:Int),.int .i64 h.crc,.int .i64 h.dsc,.string h.dnm,.int .u64 (h.dn:Int),.int .u64 (h.dv:Int),.int .i64 h.ssc,.string h.snm,.int .u64 (h.sn:Int),.int .u64 (h.sv:Int),.int .i64 h.rsc,.string h.rnm,.int .u64 (h.rn:Int),.int .u64 (h.rv:Int),.int .u64 (h.tim:Int),.int .u64 (h.seq:Int),.int .u64 (h.lif:Int),.slice A n c] 73)) W)=>row_of_box rfl hb)
 have hs0:(w.alloc (.cells #[.int .u64 (h.flg:Int),.int .i64 h.crc,.int .i64 h.dsc,.string h.dnm,.int .u64 (h.dn:Int),.int .u64 (h.dv:Int),.int .i64 h.ssc,.string h.snm,.int .u64 (h.sn:Int),.int .u64 (h.sv:Int),.int .i64 h.rsc,.string h.rnm,.int .u64 (h.rn:Int),.int .u64 (h.rv:Int),.int .u64 (h.tim:Int),.int .u64 (h.seq:Int),.int .u64 (h.lif:Int),.slice A n c] 73)).heap.size=w.heap.size+1:=by simp
 have HS0:=hid hs0
 have HW0:Hid (Below (w.heap.size+1) (w.alloc (.cells #[.int .u64 (h.flg:Int),.int .i64 h.crc,.int .i64 h.dsc,.string h.dnm,.int .u64 (h.dn:Int),.int .u64 (h.dv:Int),.int .i64 h.ssc,.string h.snm,.int .u64 (h.sn:Int),.int .u64 (h.sv:Int),.int .i64 h.rsc,.string h.rnm,.int .u64 (h.rn:Int),.int .u64 (h.rv:Int),.int .u64 (h.tim:Int),.int .u64 (h.seq:Int),.int .u64 (h.lif:Int),.slice A n c] 73)) (w.alloc (.cells #[.int .u64 (h.flg:Int),.int .i64 h.crc,.int .i64 h.dsc,.string h.dnm,.int .u64 (h.dn:Int),.int .u64 (h.dv:Int),.int .i64 h.ssc,.string h.snm,.int .u64 (h.sn:Int),.int .u64 (h.sv:Int),.int .i64 h.rsc,.string h.rnm,.int .u64 (h.rn:Int),.int .u64 (h.rv:Int),.int .u64 (h.tim:Int),.int .u64 (h.seq:Int),.int .u64 (h.lif:Int),.slice A n c] 73))):=Below.refl _ _
 have C1:=hid (ucheck_any S h l A n c B (w.alloc (.cells #[.int .u64 (h.flg:Int),.int .i64 h.crc,.int .i64 h.dsc,.string h.dnm,.int .u64 (h.dn:Int),.int .u64 (h.dv:Int),.int .i64 h.ssc,.string h.snm,.int .u64 (h.sn:Int),.int .u64 (h.sv:Int),.int .i64 h.rsc,.string h.rnm,.int .u64 (h.rn:Int),.int .u64 (h.rv:Int),.int .u64 (h.tim:Int),.int .u64 (h.seq:Int),.int .u64 (h.lif:Int),.slice A n c] 73)) (hS.alloc _) hd (hr.below (HB0.out.mono hB)) (Nat.le_trans hB (le_alloc _ _)) hc)
 have q1:=fun (W:World) (u:TypeId) (x:Value)=>run_neq_iface_nil (P:=Tryz.prog) (w:=W) 95 (by kernel_rfl) u x
 have HR:=hid hr
 have HB:=hid hB
 have HP:Hid (payU (h.bun l)=if cauU (h.bun l)≠0 then [] else (l.getLast?.map (·.dat)).getD []):=rfl
 clear hr hB hc hS hd hs0
 by_cases hz:cauU (h.bun l)=0
 case neg =>
  have HE:Hid (payU (h.bun l)=[]):=by show _=_;rw [HP.out,if_pos hz]
  rw [HE.out]
  generalize cauU (h.bun l)=z at *
  unfold bunV at *
  go_enter Tryz.func56,Tryz.ntmps56
  go_wp2_with (first
   | (refine wpList_ld18 rfl (.tmp 1) rfl _ rfl _ _ (HRW.out _ HW0.out) rfl ?_)
   | fail)
  refine C1.out.mono ?_
  rintro e w1 ⟨hb,⟨h0,-⟩|⟨-,s,rfl⟩⟩
  ·
   exact absurd h0 hz
  have HB1:=hid (HB0.out.trans (hb.mono (le_alloc _ _)))
  clear hb hz
  unfold ufl at *
  go_wp2_with fail
  go_ret
  exact ⟨_,rfl,Ob.nil_ _ _ _,HB1.out⟩
 have hl1:=(blksOk_len (cauU_0.1 hz).2.2).1
 have e16:(h.bun l).blks=l:=rfl
 rw [e16] at hl1
 rw [hz] at C1
 rw [if_neg (by simpa using hz)] at HP
 have hn1:1≤n:=by rw [← HR.out.1];exact hl1
 obtain ⟨M,hM⟩:∃ M,n=M+1:=⟨n - 1,by omega⟩
 have hM1:(n:Int) - 1=(M:Int):=by omega
 have hMl:M<l.length:=by rw [HR.out.1];omega
 obtain ⟨b,o,rfl,hbB,hks⟩:=HR.out.2.1 (by omega)
 obtain ⟨A1,nd,cd,hk⟩:=hks.get M hMl
 have hlast:(l.getLast?.map (·.dat)).getD []=(l[M]'hMl).dat:=by
  rw [List.getLast?_eq_getElem?,HR.out.1,hM,Nat.add_sub_cancel,List.getElem?_eq_getElem hMl];rfl
 rw [hlast] at HP
 rw [HP.out]
 generalize l[M]=x at *
 have hi1:(M:Int)<(n:Int):=by omega
 have hwM:wrap64 (M:Int)=(M:Int):=by have:=HR.out.2.2;unfold wrap64;omega
 have HK:=hid hk
 have HLT:=hid hbB
 clear hz hl1 e16 hks hk hlast hM hbB hMl
 unfold bunV at *
 go_enter Tryz.func56,Tryz.ntmps56
 go_wp2_with (first
  | (refine wpList_ld18 rfl (.tmp 1) rfl _ rfl _ _ (HRW.out _ HW0.out) rfl ?_)
  | fail)
 refine C1.out.mono ?_
 rintro e w1 ⟨hb,⟨-,rfl⟩|⟨h0,-⟩⟩
 case inr=>exact absurd rfl h0
 have B1:=hid (Below.push HW0.out (Nat.le_of_eq HS0.out.symm) hb)
 have x17:=cell_row (HRW.out _ B1.out) 17 rfl
 have hk1:=HK.out.below ((HB0.out.trans (B1.out.mono (Nat.le_succ _))).mono HB.out) HLT.out
 have g4:=hk1.k4
 have C2:=hid (bclone_any A1 nd cd B x.dat w1 (Nat.le_trans HB.out (HB0.out.trans (B1.out.mono (Nat.le_succ _))).size) hk1.rd hk1.le.2)
 clear hb hk1
 go_wp2_with fail
 refine C2.out.mono ?_
 rintro e w2 ⟨v,rfl,ho,hb⟩
 have HO:=hid (ho.low (HB0.out.trans (B1.out.mono (Nat.le_succ _))).size)
 have HB2:=hid ((HB0.out.trans (B1.out.mono (Nat.le_succ _))).trans (hb.mono (HB0.out.trans (B1.out.mono (Nat.le_succ _))).size))
 clear ho hb x17 g4
 go_wp2_with fail
 go_ret
 exact ⟨_,rfl,HO.out,HB2.out⟩
def keyU (b:Bun):List UInt8:=if cauU b≠0 then [] else textE b.src++[32]++decDigits b.tim++[32]++decDigits b.seq
theorem ukey_any (S:Snt) (h:BH) (l:List Blk) (A:Option Addr) (n c B:Nat) (w:World) (hS:Wd S w) (hd:h.Bd) (hr:RdL w B A n l) (hB:B≤w.heap.size) (hc:n≤c) :
  Calls Tryz.prog 54 #[bunV h A n c] w fun e w'=>e=.returned (.string (strL (keyU (h.bun l))))∧Below w.heap.size w w':=by
 have HB0:=hid ((Below.refl w.heap.size w).alloc nlr (.cells #[.int .u64 (h.flg:Int),.int .i64 h.crc,.int .i64 h.dsc,.string h.dnm,.int .u64 (h.dn:Int),.int .u64 (h.dv:Int),.int .i64 h.ssc,.string h.snm,.int .u64 (h.sn:Int),.int .u64 (h.sv:Int),.int .i64 h.rsc,.string h.rnm,.int .u64 (h.rn:Int),.int .u64 (h.rv:Int),.int .u64 (h.tim:Int),.int .u64 (h.seq:Int),.int .u64 (h.lif:Int),.slice A n c] 73))
 have HRW:=hid (fun (W:World) (hb:Below (w.heap.size+1) (w.alloc (.cells #[.int .u64 (h.flg:Int),.int .i64 h.crc,.int .i64 h.dsc,.string h.dnm,.int .u64 (h.dn:Int),.int .u64 (h.dv:Int),.int .i64 h.ssc,.string h.snm,.int .u64 (h.sn:Int),.int .u64 (h.sv:Int),.int .i64 h.rsc,.string h.rnm,.int .u64 (h.rn:Int),.int .u64 (h.rv:Int),.int .u64 (h.tim:Int),.int .u64 (h.seq:Int),.int .u64 (h.lif:Int),.slice A n c] 73)) W)=>row_of_box rfl hb)
 have hs0:(w.alloc (.cells #[.int .u64 (h.flg:Int),.int .i64 h.crc,.int .i64 h.dsc,.string h.dnm,.int .u64 (h.dn:Int),.int .u64 (h.dv:Int),.int .i64 h.ssc,.string h.snm,.int .u64 (h.sn:Int),.int .u64 (h.sv:Int),.int .i64 h.rsc,.string h.rnm,.int .u64 (h.rn:Int),.int .u64 (h.rv:Int),.int .u64 (h.tim:Int),.int .u64 (h.seq:Int),.int .u64 (h.lif:Int),.slice A n c] 73)).heap.size=w.heap.size+1:=by simp
 have HS0:=hid hs0
 have HW0:Hid (Below (w.heap.size+1) (w.alloc (.cells #[.int .u64 (h.flg:Int),.int .i64 h.crc,.int .i64 h.dsc,.string h.dnm,.int .u64 (h.dn:Int),.int .u64 (h.dv:Int),.int .i64 h.ssc,.string h.snm,.int .u64 (h.sn:Int),.int .u64 (h.sv:Int),.int .i64 h.rsc,.string h.rnm,.int .u64 (h.rn:Int),.int .u64 (h.rv:Int),.int .u64 (h.tim:Int),.int .u64 (h.seq:Int),.int .u64 (h.lif:Int),.slice A n c] 73)) (w.alloc (.cells #[.int .u64 (h.flg:Int),.int .i64 h.crc,.int .i64 h.dsc,.string h.dnm,.int .u64 (h.dn:Int),.int .u64 (h.dv:Int),.int .i64 h.ssc,.string h.snm,.int .u64 (h.sn:Int),.int .u64 (h.sv:Int),.int .i64 h.rsc,.string h.rnm,.int .u64 (h.rn:Int),.int .u64 (h.rv:Int),.int .u64 (h.tim:Int),.int .u64 (h.seq:Int),.int .u64 (h.lif:Int),.slice A n c] 73))):=Below.refl _ _
 have HWd:=hid (hS.alloc (.cells #[.int .u64 (h.flg:Int),.int .i64 h.crc,.int .i64 h.dsc,.string h.dnm,.int .u64 (h.dn:Int),.int .u64 (h.dv:Int),.int .i64 h.ssc,.string h.snm,.int .u64 (h.sn:Int),.int .u64 (h.sv:Int),.int .i64 h.rsc,.string h.rnm,.int .u64 (h.rn:Int),.int .u64 (h.rv:Int),.int .u64 (h.tim:Int),.int .u64 (h.seq:Int),.int .u64 (h.lif:Int),.slice A n c] 73))
 have C1:=hid (ucheck_any S h l A n c B (w.alloc (.cells #[.int .u64 (h.flg:Int),.int .i64 h.crc,.int .i64 h.dsc,.string h.dnm,.int .u64 (h.dn:Int),.int .u64 (h.dv:Int),.int .i64 h.ssc,.string h.snm,.int .u64 (h.sn:Int),.int .u64 (h.sv:Int),.int .i64 h.rsc,.string h.rnm,.int .u64 (h.rn:Int),.int .u64 (h.rv:Int),.int .u64 (h.tim:Int),.int .u64 (h.seq:Int),.int .u64 (h.lif:Int),.slice A n c] 73)) HWd.out hd (hr.below (HB0.out.mono hB)) (Nat.le_trans hB (le_alloc _ _)) hc)
 have q1:=fun (W:World) (u:TypeId) (x:Value)=>run_neq_iface_nil (P:=Tryz.prog) (w:=W) 95 (by kernel_rfl) u x
 have HK:Hid (keyU (h.bun l)=if cauU (h.bun l)≠0 then [] else textE h.src++[32]++decDigits h.tim++[32]++decDigits h.seq):=rfl
 by_cases hz:cauU (h.bun l)=0
 case neg =>
  have HE:Hid (keyU (h.bun l)=[]):=by show _=_;rw [HK.out,if_pos hz]
  rw [HE.out]
  clear hr hB hc hS hd hs0
  generalize cauU (h.bun l)=z at *
  unfold bunV at *
  go_enter Tryz.func54,Tryz.ntmps54
  go_wp2_with (first
   | (refine wpList_ld18 rfl (.tmp 1) rfl _ rfl _ _ (HRW.out _ HW0.out) rfl ?_)
   | fail)
  refine C1.out.mono ?_
  rintro e w1 ⟨hb,⟨h0,-⟩|⟨-,s,rfl⟩⟩
  ·
   exact absurd h0 hz
  have HB1:=hid (HB0.out.trans (hb.mono (le_alloc _ _)))
  clear hb hz
  unfold ufl at *
  go_wp2_with fail
  go_ret
  exact ⟨rfl,HB1.out⟩
 rw [hz] at C1
 rw [if_neg (by simpa using hz)] at HK
 have CT:=hid (fun W (hb:Below (w.heap.size+1) (w.alloc (.cells #[.int .u64 (h.flg:Int),.int .i64 h.crc,.int .i64 h.dsc,.string h.dnm,.int .u64 (h.dn:Int),.int .u64 (h.dv:Int),.int .i64 h.ssc,.string h.snm,.int .u64 (h.sn:Int),.int .u64 (h.sv:Int),.int .i64 h.rsc,.string h.rnm,.int .u64 (h.rn:Int),.int .u64 (h.rv:Int),.int .u64 (h.tim:Int),.int .u64 (h.seq:Int),.int .u64 (h.lif:Int),.slice A n c] 73)) W)=>text_any S h.ssc h.snm h.sn h.sv W (HWd.out.lds.below hb (Nat.le_of_eq hs0)) hd.snm hd.sn hd.sv)
 have CD1:=hid (fun W=>dec_any (h.tim:Int) W (by omega) (by have:=hd.tim;omega))
 have CD2:=hid (fun W=>dec_any (h.seq:Int) W (by omega) (by have:=hd.seq;omega))
 simp only [Int.toNat_natCast] at CD1 CD2
 have e1:ep h.ssc h.snm h.sn h.sv=h.src:=rfl
 rw [e1] at CT
 have HKS:Hid (strL (keyU (h.bun l))=strL (textE h.src)++⟨#[32]⟩++strL (decDigits h.tim)++⟨#[32]⟩++strL (decDigits h.seq)):=by
  show _=_
  rw [HK.out,show (⟨#[32]⟩:ByteArray)=strL [32] from rfl,strL_app,strL_app,strL_app,strL_app]
 rw [HKS.out]
 have HTK:Hid ((⟨(decDigits h.tim).toArray⟩:ByteArray)=strL (decDigits h.tim)∧(⟨(decDigits h.seq).toArray⟩:ByteArray)=strL (decDigits h.seq)):=⟨rfl,rfl⟩
 rw [HTK.out.1] at CD1
 rw [HTK.out.2] at CD2
 have htl:(strL (textE h.src)).size≤200:=by
  rw [strL_size]
  have hck:checkB h.src=true:=(primOk_iff.1 (cauU_0.1 hz).2.1).1.2.2.1
  by_cases h1:h.src.scheme=1
  ·
   obtain ⟨-,-,hm⟩:=check_dtn hck h1
   by_cases h0:h.src.name=[]
   ·
    rw [textE_none hck h1 h0];decide
   ·
    rw [textE_dtn hck h1 h0,List.length_append]
    obtain ⟨r,hr,-,-,-,hl⟩:=name_head (hm.resolve_left h0)
    have:dtnL.length=4:=rfl
    omega
  ·
   obtain ⟨h2,hm,-,h3,h4⟩:=check_ipn hck h1
   rw [textE_ipn hck h2,List.length_append,List.length_append,List.length_cons]
   have a1:=nd20 h.src.node (by omega)
   have a2:=nd20 h.src.service (by omega)
   have:ipnL.length=4:=rfl
   omega
 have hd1:(strL (decDigits h.tim)).size≤20:=by rw [strL_size];exact nd20 _ hd.tim
 have hd2:(strL (decDigits h.seq)).size≤20:=by rw [strL_size];exact nd20 _ hd.seq
 clear hr hB hc hS hd hz e1 HKS HK HTK
 generalize strL (textE h.src)=tx at *
 generalize strL (decDigits h.tim)=d1 at *
 generalize strL (decDigits h.seq)=d2 at *
 have z1:¬ 9223372036854775807<tx.size+1:=by omega
 have z2:¬ 9223372036854775807<tx.size+1+d1.size:=by omega
 have z3:¬ 9223372036854775807<tx.size+1+d1.size+1:=by omega
 have z4:¬ 9223372036854775807<tx.size+1+d1.size+1+d2.size:=by omega
 unfold bunV epdV at *
 go_enter Tryz.func54,Tryz.ntmps54
 go_wp2_with (first
  | (refine wpList_ld18 rfl (.tmp 1) rfl _ rfl _ _ (HRW.out _ HW0.out) rfl ?_)
  | fail)
 refine C1.out.mono ?_
 rintro e w1 ⟨hb,⟨-,rfl⟩|⟨h0,-⟩⟩
 case inr=>exact absurd rfl h0
 have B1:=hid (Below.push HW0.out (Nat.le_of_eq HS0.out.symm) hb)
 have HX:Hid (∀ W,Below w1.heap.size w1 W→W.cell? ⟨w.heap.size,6,none⟩=some (.int .i64 h.ssc)∧W.cell? ⟨w.heap.size,7,none⟩=some (.string h.snm)∧W.cell? ⟨w.heap.size,8,none⟩=some (.int .u64 (h.sn:Int))∧W.cell? ⟨w.heap.size,9,none⟩=some (.int .u64 (h.sv:Int))∧W.cell? ⟨w.heap.size,14,none⟩=some (.int .u64 (h.tim:Int))∧W.cell? ⟨w.heap.size,15,none⟩=some (.int .u64 (h.seq:Int))):=fun W hW=>by
  have hr:=HRW.out W (Below.push B1.out (Nat.le_of_eq HS0.out.symm) hW)
  exact ⟨cell_row hr 6 rfl,cell_row hr 7 rfl,cell_row hr 8 rfl,cell_row hr 9 rfl,cell_row hr 14 rfl,cell_row hr 15 rfl⟩
 clear hb
 go_wp2_with fail
 go_region_held3 (fun W=>W.cell? ⟨w.heap.size,6,none⟩=some (.int .i64 h.ssc)∧W.cell? ⟨w.heap.size,7,none⟩=some (.string h.snm)∧W.cell? ⟨w.heap.size,8,none⟩=some (.int .u64 (h.sn:Int))∧W.cell? ⟨w.heap.size,9,none⟩=some (.int .u64 (h.sv:Int))∧W.cell? ⟨w.heap.size,14,none⟩=some (.int .u64 (h.tim:Int))∧W.cell? ⟨w.heap.size,15,none⟩=some (.int .u64 (h.seq:Int)))
  (first|(with_reducible exact HX.out _ D4.out)|(with_reducible exact HX.out _ D3.out)|(with_reducible exact HX.out _ D2.out)|(with_reducible exact HX.out _ Below.drew_)|(with_reducible exact HX.out _ (Below.refl _ _))|fail)
  (first
   | (go_at_call 103;have _g:=D3;clear _g;refine (CD2.out _).mono ?_;rintro e w4 ⟨rfl,hb4⟩;have D4:=hid (Below.push D3.out nlr hb4);clear hb4)
   | (go_at_call 103;refine (CD1.out _).mono ?_;rintro e w3 ⟨rfl,hb3⟩;have D3:=hid (Below.push D2.out nlr hb3);clear hb3)
   | (go_at_call 20;refine (CT.out _ (B1.out.drew)).mono ?_;rintro e w2 ⟨rfl,hb2⟩;have D2:Hid (Below w1.heap.size w1 w2):=Below.drew_.trans hb2;clear hb2)
   | fail)
 all_goals
  have HBE:=hid (HB0.out.trans ((Below.push B1.out (Nat.le_of_eq HS0.out.symm) D4.out).mono (Nat.le_succ _)))
  go_wp2_with fail
  go_ret
  exact ⟨rfl,HBE.out⟩
end Go.Proofs.YtlecbblmaadpiaaGreatDoor
