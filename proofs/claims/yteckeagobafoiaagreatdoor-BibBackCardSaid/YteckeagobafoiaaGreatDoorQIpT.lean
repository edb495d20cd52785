import Derived.Test.YteckeagobafoiaaGreatDoorQBihN
import Derived.Test.YteckeagobafoiaaGreatDoorQBlkW4
import Derived.Test.YteckeagobafoiaaGreatDoorQBunC
import Derived.Test.YteckeagobafoiaaGreatDoorQBunD
import Derived.Test.YteckeagobafoiaaGreatDoorQBunDr
import Derived.Test.YteckeagobafoiaaGreatDoorQBunJ
import Derived.Test.YteckeagobafoiaaGreatDoorQEidT2
import Derived.Test.YteckeagobafoiaaGreatDoorQRfG
import Derived.Test.YteckeagobafoiaaGreatDoorQRfI
import Derived.Test.YteckeagobafoiaaGreatDoorQShaP
import Derived.Test.YteckeagobafoiaaGreatDoorQShaT
import Derived.Deep.RegionHeld3
import Derived.BigQuiet
import Derived.Deep.QuietTactic
import Derived.Laws.Bits64b
namespace Go.Proofs.YteckeagobafoiaaGreatDoor
set_option maxRecDepth 100000
set_option maxHeartbeats 16000000
open Go.RowKit
open Go.Lib (hid)
open Go.Lib (decDigits)
theorem ufind_any (h:BH) (l:List Blk) (A:Option Addr) (n c B q:Nat) (w:World) (hr:RdL w B A n l) (hB:B≤w.heap.size) :
  Calls Tryz.prog 90 #[bunV h A n c,.int .u64 (q:Int)] w fun e w'=>e=.returned (.int .i64 (plc (pNum q) l 0))∧Below w.heap.size w w':=by
 have HB0:=hid ((Below.refl w.heap.size w).alloc (Nat.le_refl _) (.cells #[.int .u64 (h.flg:Int),.int .i64 h.crc,.int .i64 h.dsc,.string h.dnm,.int .u64 (h.dn:Int),.int .u64 (h.dv:Int),.int .i64 h.ssc,.string h.snm,.int .u64 (h.sn:Int),.int .u64 (h.sv:Int),.int .i64 h.rsc,.string h.rnm,.int .u64 (h.rn:Int),.int .u64 (h.rv:Int),.int .u64 (h.tim:Int),.int .u64 (h.seq:Int),.int .u64 (h.lif:Int),.slice A n c] 28))
 have C1:=hid (place_any A n c B q l (w.alloc (.cells #[.int .u64 (h.flg:Int),.int .i64 h.crc,.int .i64 h.dsc,.string h.dnm,.int .u64 (h.dn:Int),.int .u64 (h.dv:Int),.int .i64 h.ssc,.string h.snm,.int .u64 (h.sn:Int),.int .u64 (h.sv:Int),.int .i64 h.rsc,.string h.rnm,.int .u64 (h.rn:Int),.int .u64 (h.rv:Int),.int .u64 (h.tim:Int),.int .u64 (h.seq:Int),.int .u64 (h.lif:Int),.slice A n c] 28)) (hr.below (HB0.out.mono hB)) (Nat.le_trans hB (le_alloc _ _)))
 generalize plc (pNum q) l 0=P at *
 clear hr hB
 unfold bunV at *
 go_enter Tryz.func90,Tryz.ntmps90
 go_wp2_with fail
 refine C1.out.mono ?_
 rintro e w1 ⟨rfl,hb⟩
 have HB1:=hid (HB0.out.trans (hb.mono (le_alloc _ _)))
 clear hb
 go_wp2_with fail
 go_ret
 exact ⟨rfl,HB1.out⟩
def hPl:BH:=⟨0,1,2,⟨#[]⟩,2,1,2,⟨#[]⟩,1,2,1,⟨#[]⟩,0,0,3,4,100⟩
def TgtU (l:List Blk) (q B:Nat) (w:World) (e:Ending) (w':World):Prop:=Below w.heap.size w w' ∧
 ((∃ (x:Blk) (Ax:Option Addr) (nd cd:Nat),l.find? (pNum q)=some x∧x.typ≠11∧x∈l∧Bd x∧(nd≤cd∧nd≤140737488355328)∧Rd w B Ax nd x.dat∧e=.returned (.tuple #[blkV x.typ x.num x.flg x.crc Ax nd cd,.bool true])) ∨
  ((∀ x,l.find? (pNum q)=some x→x.typ=11)∧e=.returned (.tuple #[blkV 0 0 0 0 none 0 0,.bool false])))
theorem targetOf_any (h:BH) (l:List Blk) (A:Option Addr) (n c B q:Nat) (w:World) (hr:RdL w B A n l) (hB:B≤w.heap.size) :
  Calls Tryz.prog 130 #[bunV h A n c,.int .u64 (q:Int)] w (TgtU l q B w):=by
 have HRW:=hid (fun (W:World) (hb:Below (w.heap.size+1) (w.alloc (.cells #[.int .u64 (h.flg:Int),.int .i64 h.crc,.int .i64 h.dsc,.string h.dnm,.int .u64 (h.dn:Int),.int .u64 (h.dv:Int),.int .i64 h.ssc,.string h.snm,.int .u64 (h.sn:Int),.int .u64 (h.sv:Int),.int .i64 h.rsc,.string h.rnm,.int .u64 (h.rn:Int),.int .u64 (h.rv:Int),.int .u64 (h.tim:Int),.int .u64 (h.seq:Int),.int .u64 (h.lif:Int),.slice A n c] 28)) W)=>row_of_box (w:=w) rfl hb)
 have HB0:Hid (Below w.heap.size w ((w.alloc (.cells #[.int .u64 (h.flg:Int),.int .i64 h.crc,.int .i64 h.dsc,.string h.dnm,.int .u64 (h.dn:Int),.int .u64 (h.dv:Int),.int .i64 h.ssc,.string h.snm,.int .u64 (h.sn:Int),.int .u64 (h.sv:Int),.int .i64 h.rsc,.string h.rnm,.int .u64 (h.rn:Int),.int .u64 (h.rv:Int),.int .u64 (h.tim:Int),.int .u64 (h.seq:Int),.int .u64 (h.lif:Int),.slice A n c] 28)).alloc (.cells #[.int .u64 0,.int .u64 0,.int .u64 0,.int .i64 0,.slice none 0 0] 63))):=((Below.refl _ _).alloc (Nat.le_refl _) _).alloc (le_alloc _ _) _
 have HB1:Hid (Below (w.heap.size+1) (w.alloc (.cells #[.int .u64 (h.flg:Int),.int .i64 h.crc,.int .i64 h.dsc,.string h.dnm,.int .u64 (h.dn:Int),.int .u64 (h.dv:Int),.int .i64 h.ssc,.string h.snm,.int .u64 (h.sn:Int),.int .u64 (h.sv:Int),.int .i64 h.rsc,.string h.rnm,.int .u64 (h.rn:Int),.int .u64 (h.rv:Int),.int .u64 (h.tim:Int),.int .u64 (h.seq:Int),.int .u64 (h.lif:Int),.slice A n c] 28)) ((w.alloc (.cells #[.int .u64 (h.flg:Int),.int .i64 h.crc,.int .i64 h.dsc,.string h.dnm,.int .u64 (h.dn:Int),.int .u64 (h.dv:Int),.int .i64 h.ssc,.string h.snm,.int .u64 (h.sn:Int),.int .u64 (h.sv:Int),.int .i64 h.rsc,.string h.rnm,.int .u64 (h.rn:Int),.int .u64 (h.rv:Int),.int .u64 (h.tim:Int),.int .u64 (h.seq:Int),.int .u64 (h.lif:Int),.slice A n c] 28)).alloc (.cells #[.int .u64 0,.int .u64 0,.int .u64 0,.int .i64 0,.slice none 0 0] 63))):=(Below.refl _ _).alloc (by simp) _
 have HS0:Hid (((w.alloc (.cells #[.int .u64 (h.flg:Int),.int .i64 h.crc,.int .i64 h.dsc,.string h.dnm,.int .u64 (h.dn:Int),.int .u64 (h.dv:Int),.int .i64 h.ssc,.string h.snm,.int .u64 (h.sn:Int),.int .u64 (h.sv:Int),.int .i64 h.rsc,.string h.rnm,.int .u64 (h.rn:Int),.int .u64 (h.rv:Int),.int .u64 (h.tim:Int),.int .u64 (h.seq:Int),.int .u64 (h.lif:Int),.slice A n c] 28)).alloc (.cells #[.int .u64 0,.int .u64 0,.int .u64 0,.int .i64 0,.slice none 0 0] 63)).heap.size=w.heap.size+2):=by show _=_;simp
 have hz0:=fun (W:World) (hb:Below (w.heap.size+1+1) ((w.alloc (.cells #[.int .u64 (h.flg:Int),.int .i64 h.crc,.int .i64 h.dsc,.string h.dnm,.int .u64 (h.dn:Int),.int .u64 (h.dv:Int),.int .i64 h.ssc,.string h.snm,.int .u64 (h.sn:Int),.int .u64 (h.sv:Int),.int .i64 h.rsc,.string h.rnm,.int .u64 (h.rn:Int),.int .u64 (h.rv:Int),.int .u64 (h.tim:Int),.int .u64 (h.seq:Int),.int .u64 (h.lif:Int),.slice A n c] 28)).alloc (.cells #[.int .u64 0,.int .u64 0,.int .u64 0,.int .i64 0,.slice none 0 0] 63)) W)=>zero5 (g:=w.heap.size+1) (by simp) hb
 have HZ:=hid hz0
 clear hz0
 have CF:=hid (fun (W:World) (hb:Below w.heap.size w W)=>ufind_any h l A n c W.heap.size q W ((hr.below (hb.mono hB)).more (Nat.le_trans hB hb.size)) (Nat.le_refl _))
 have HR:=hid hr
 have HB:=hid hB
 clear hr hB
 have HG:Hid (∀ e w',Below w.heap.size w w' ∧
 ((∃ (x:Blk) (Ax:Option Addr) (nd cd:Nat),l.find? (pNum q)=some x∧x.typ≠11∧x∈l∧Bd x∧(nd≤cd∧nd≤140737488355328)∧Rd w B Ax nd x.dat∧e=.returned (.tuple #[blkV x.typ x.num x.flg x.crc Ax nd cd,.bool true])) ∨
  ((∀ x,l.find? (pNum q)=some x→x.typ=11)∧e=.returned (.tuple #[blkV 0 0 0 0 none 0 0,.bool false])))→TgtU l q B w e w'):=fun _ _ hh=>hh
 rcases plc_find (pNum q) l 0 with ⟨h1,h2⟩|⟨k,hk,h1,h2⟩
 ·
  have H2:=hid h2
  rw [h1] at CF
  clear h1 h2
  unfold bunV at *
  go_enter Tryz.func130,Tryz.ntmps130
  go_wp2_with (first
   | (refine wpList_ld18 rfl (.tmp 2) rfl _ rfl _ _ (HRW.out _ HB1.out) rfl ?_)
   | fail)
  refine (CF.out _ HB0.out).mono ?_
  rintro e w1 ⟨rfl,hb⟩
  obtain ⟨⟨z0,z1,z2,z3,z4⟩,f0,f1,f2,f3,f4⟩:=HZ.out w1 (hb.mono (by rw [HS0.out];exact Nat.le_refl _))
  have T1:=hid (HB0.out.trans (hb.mono (by rw [HS0.out];omega)))
  clear hb
  go_wp2_with fail
  refine bodyPost_ret (v:=.tuple #[blkV 0 0 0 0 none 0 0,.bool false]) (by simp [results,Tryz.results130,go_sem,z0,z1,z2,z3,z4,blkV]) rfl (HG.out _ _ ⟨below_put5 T1.out (Nat.le_succ _),.inr ⟨fun x hx=>(by rw [H2.out] at hx;cases hx),rfl⟩⟩)
 ·
  rw [Nat.zero_add] at h1
  have hkn:k<n:=by rw [← HR.out.1];exact hk
  have hk1:(k:Int)<(n:Int):=by omega
  have hk0:decide ((k:Int)<0)=false:=decide_eq_false (by omega)
  obtain ⟨b,o,rfl,hbB,hks⟩:=HR.out.2.1 (by omega)
  obtain ⟨A1,nd,cd,hkk⟩:=hks.get k hk
  have HK:=hid hkk
  have HMEM:=hid (List.getElem_mem hk)
  have H2:=hid h2
  rw [h1] at CF
  generalize l[k]'hk=x at *
  have HBB:=hid hbB
  clear h1 h2 hks hkk hbB
  by_cases h11:x.typ=11
  ·
   have ht:((x.typ:Int)==11)=true:=by rw [h11];rfl
   have H11:=hid h11
   clear h11
   unfold bunV at *
   go_enter Tryz.func130,Tryz.ntmps130
   go_wp2_with (first
    | (refine wpList_ld18 rfl (.tmp 2) rfl _ rfl _ _ (HRW.out _ HB1.out) rfl ?_)
    | fail)
   refine (CF.out _ HB0.out).mono ?_
   rintro e w1 ⟨rfl,hb⟩
   obtain ⟨⟨z0,z1,z2,z3,z4⟩,f0,f1,f2,f3,f4⟩:=HZ.out w1 (hb.mono (by rw [HS0.out];exact Nat.le_refl _))
   have hT1:=HB0.out.trans (hb.mono (by rw [HS0.out];omega))
   have x17:=cell_row (HRW.out w1 (HB1.out.trans (hb.mono (by rw [HS0.out];omega)))) 17 rfl
   have g0:=(HK.out.below (hT1.mono HB.out) HBB.out).k0
   have T1:=hid hT1
   clear hb hT1
   go_wp2_with fail
   refine bodyPost_ret (v:=.tuple #[blkV 0 0 0 0 none 0 0,.bool false]) (by simp [results,Tryz.results130,go_sem,z0,z1,z2,z3,z4,blkV]) rfl (HG.out _ _ ⟨below_put5 T1.out (Nat.le_succ _),.inr ⟨fun y hy=>(by rw [H2.out] at hy;injection hy with hy;rw [← hy];exact H11.out),rfl⟩⟩)
  ·
   have ht:((x.typ:Int)==11)=false:=by rw [beq_eq_false_iff_ne];omega
   have H11:=hid h11
   clear h11
   unfold bunV at *
   go_enter Tryz.func130,Tryz.ntmps130
   go_wp2_with (first
    | (refine wpList_ld18 rfl (.tmp 2) rfl _ rfl _ _ (HRW.out _ HB1.out) rfl ?_)
    | fail)
   refine (CF.out _ HB0.out).mono ?_
   rintro e w1 ⟨rfl,hb⟩
   obtain ⟨⟨z0,z1,z2,z3,z4⟩,f0,f1,f2,f3,f4⟩:=HZ.out w1 (hb.mono (by rw [HS0.out];exact Nat.le_refl _))
   have hT1:=HB0.out.trans (hb.mono (by rw [HS0.out];omega))
   have x17:=cell_row (HRW.out w1 (HB1.out.trans (hb.mono (by rw [HS0.out];omega)))) 17 rfl
   have hK1:=HK.out.below (hT1.mono HB.out) HBB.out
   have g0:=hK1.k0
   have g1:=hK1.k1
   have g2:=hK1.k2
   have g3:=hK1.k3
   have g4:=hK1.k4
   have T1:=hid hT1
   clear hb hT1 hK1
   go_wp2_with fail
   refine bodyPost_ret (v:=.tuple #[blkV x.typ x.num x.flg x.crc A1 nd cd,.bool true]) (by simp [results,Tryz.results130,go_sem,z0,z1,z2,z3,z4,blkV]) rfl (HG.out _ _ ⟨below_put5 T1.out (Nat.le_succ _),.inl ⟨x,A1,nd,cd,H2.out,H11.out,HMEM.out,HK.out.bd,HK.out.le,HK.out.rd,rfl⟩⟩)
end Go.Proofs.YteckeagobafoiaaGreatDoor
