import Derived.Test.YtlecbblmaadpiaaGreatDoorKBunWk
import Derived.Test.YtlecbblmaadpiaaGreatDoorKRfL
import Derived.Test.YtlecbblmaadpiaaGreatDoorKRfM
namespace Go.Proofs.YtlecbblmaadpiaaGreatDoor
set_option maxRecDepth 100000
set_option maxHeartbeats 16000000
open Go.RowKit
open Go.Lib (hid)
theorem numZ_cauE (b:Bun) (h:cauU b≠0):numZ (cauU b)=cauU b:=by
 unfold cauU at h ⊢
 split
 ·
  rfl
 ·
  rename_i h1
  rw [if_neg h1] at h
  split
  ·
   rename_i h2
   rw [if_pos h2] at h
   exact absurd rfl h
  ·
   rfl
theorem uprimary_any (S:Snt) (h:BH) (l:List Blk) (A:Option Addr) (n c B:Nat) (w:World) (hS:Wd S w) (hd:h.Bd) (hr:RdL w B A n l) (hB:B≤w.heap.size) (hc:n≤c) :
  Calls Tryz.prog 49 #[bunV h A n c] w fun e w'=>Below w.heap.size w w'∧∃ (A':Option Addr) (n' c':Nat),e=.returned (.tuple #[.slice A' n' c',.int .i64 (cauU (h.bun l))])∧n'≤c'∧Rd w' w'.heap.size A' n' (if cauU (h.bun l)=0 then primW (h.bun l) else []):=by
 have HB0:=hid ((Below.refl w.heap.size w).alloc nlr (.cells #[.int .u64 (h.flg:Int),.int .i64 h.crc,.int .i64 h.dsc,.string h.dnm,.int .u64 (h.dn:Int),.int .u64 (h.dv:Int),.int .i64 h.ssc,.string h.snm,.int .u64 (h.sn:Int),.int .u64 (h.sv:Int),.int .i64 h.rsc,.string h.rnm,.int .u64 (h.rn:Int),.int .u64 (h.rv:Int),.int .u64 (h.tim:Int),.int .u64 (h.seq:Int),.int .u64 (h.lif:Int),.slice A n c] 73))
 have HW0:Hid (Below (w.heap.size+1) (w.alloc (.cells #[.int .u64 (h.flg:Int),.int .i64 h.crc,.int .i64 h.dsc,.string h.dnm,.int .u64 (h.dn:Int),.int .u64 (h.dv:Int),.int .i64 h.ssc,.string h.snm,.int .u64 (h.sn:Int),.int .u64 (h.sv:Int),.int .i64 h.rsc,.string h.rnm,.int .u64 (h.rn:Int),.int .u64 (h.rv:Int),.int .u64 (h.tim:Int),.int .u64 (h.seq:Int),.int .u64 (h.lif:Int),.slice A n c] 73)) (w.alloc (.cells #[.int .u64 (h.flg:Int),.int .i64 h.crc,.int .i64 h.dsc,.string h.dnm,.int .u64 (h.dn:Int),.int .u64 (h.dv:Int),.int .i64 h.ssc,.string h.snm,.int .u64 (h.sn:Int),.int .u64 (h.sv:Int),.int .i64 h.rsc,.string h.rnm,.int .u64 (h.rn:Int),.int .u64 (h.rv:Int),.int .u64 (h.tim:Int),.int .u64 (h.seq:Int),.int .u64 (h.lif:Int),.slice A n c] 73))):=Below.refl _ _
 have HS0:Hid ((w.alloc (.cells #[.int .u64 (h.flg:Int),.int .i64 h.crc,.int .i64 h.dsc,.string h.dnm,.int .u64 (h.dn:Int),.int .u64 (h.dv:Int),.int .i64 h.ssc,.string h.snm,.int .u64 (h.sn:Int),.int .u64 (h.sv:Int),.int .i64 h.rsc,.string h.rnm,.int .u64 (h.rn:Int),.int .u64 (h.rv:Int),.int .u64 (h.tim:Int),.int .u64 (h.seq:Int),.int .u64 (h.lif:Int),.slice A n c] 73)).heap.size=w.heap.size+1):=by show _=_;simp
 have HRW:=hid (fun (W:World) (hb:Below (w.heap.size+1) (w.alloc (.cells #[.int .u64 (h.flg:Int),.int .i64 h.crc,.int .i64 h.dsc,.string h.dnm,.int .u64 (h.dn:Int),.int .u64 (h.dv:Int),.int .i64 h.ssc,.string h.snm,.int .u64 (h.sn:Int),.int .u64 (h.sv:Int),.int .i64 h.rsc,.string h.rnm,.int .u64 (h.rn:Int),.int .u64 (h.rv:Int),.int .u64 (h.tim:Int),.int .u64 (h.seq:Int),.int .u64 (h.lif:Int),.slice A n c] 73)) W)=>row_of_box (w:=w) rfl hb)
 have HWd:=hid (hS.alloc (.cells #[.int .u64 (h.flg:Int),.int .i64 h.crc,.int .i64 h.dsc,.string h.dnm,.int .u64 (h.dn:Int),.int .u64 (h.dv:Int),.int .i64 h.ssc,.string h.snm,.int .u64 (h.sn:Int),.int .u64 (h.sv:Int),.int .i64 h.rsc,.string h.rnm,.int .u64 (h.rn:Int),.int .u64 (h.rv:Int),.int .u64 (h.tim:Int),.int .u64 (h.seq:Int),.int .u64 (h.lif:Int),.slice A n c] 73))
 have C1:=hid (ucheck_any S h l A n c B (w.alloc (.cells #[.int .u64 (h.flg:Int),.int .i64 h.crc,.int .i64 h.dsc,.string h.dnm,.int .u64 (h.dn:Int),.int .u64 (h.dv:Int),.int .i64 h.ssc,.string h.snm,.int .u64 (h.sn:Int),.int .u64 (h.sv:Int),.int .i64 h.rsc,.string h.rnm,.int .u64 (h.rn:Int),.int .u64 (h.rv:Int),.int .u64 (h.tim:Int),.int .u64 (h.seq:Int),.int .u64 (h.lif:Int),.slice A n c] 73)) (hS.alloc _) hd (hr.below (HB0.out.mono hB)) (Nat.le_trans hB HB0.out.size) hc)
 have q1:=fun (W:World) (u:TypeId) (x:Value)=>run_neq_iface_nil (P:=Tryz.prog) (w:=W) 95 (by kernel_rfl) u x
 have CN:=hid unumber_any
 by_cases hz:cauU (h.bun l)=0
 case neg =>
  have HE:Hid ((if cauU (h.bun l)=0 then primW (h.bun l) else [])=([]:List UInt8)):=if_neg hz
  rw [HE.out]
  have HNZ:=hid (numZ_cauE _ hz)
  clear hr hB hd hc hS HE
  generalize cauU (h.bun l)=z at *
  unfold bunV at *
  go_enter Tryz.func49,Tryz.ntmps49
  go_wp2_with (first
   | (refine wpList_ld18 rfl (.tmp 1) rfl _ rfl _ _ (HRW.out _ HW0.out) rfl ?_)
   | fail)
  refine C1.out.mono ?_
  rintro e w1 ⟨hb,⟨h0,-⟩|⟨-,s,rfl⟩⟩
  ·
   exact absurd h0 hz
  have B1:=hid (HB0.out.trans (hb.mono HB0.out.size))
  clear hb hz
  have C2:=hid (CN.out z s w1)
  rw [HNZ.out] at C2
  unfold ufl at *
  go_wp2_with fail
  refine C2.out.mono ?_
  rintro e w2 ⟨rfl,hb⟩
  have B2:=hid (B1.out.trans (hb.mono B1.out.size))
  clear hb
  go_wp2_with fail
  go_ret2
  exact ⟨B2.out,_,_,_,rfl,Nat.le_refl _,Rd.nil_⟩
 rw [if_pos hz]
 have hwr:Wr (h.bun l):=(primOk_iff.1 (cauU_0.1 hz).2.1).1
 have CP:Hid (∀ W,Below (w.heap.size+1) (w.alloc (.cells #[.int .u64 (h.flg:Int),.int .i64 h.crc,.int .i64 h.dsc,.string h.dnm,.int .u64 (h.dn:Int),.int .u64 (h.dv:Int),.int .i64 h.ssc,.string h.snm,.int .u64 (h.sn:Int),.int .u64 (h.sv:Int),.int .i64 h.rsc,.string h.rnm,.int .u64 (h.rn:Int),.int .u64 (h.rv:Int),.int .u64 (h.tim:Int),.int .u64 (h.seq:Int),.int .u64 (h.lif:Int),.slice A n c] 73)) W→Calls Tryz.prog 99 #[bunV h A n c] W (GivesO 5 (primW (h.bun l)) W)):=fun W hb=>uwriteP_any S h l A n c W (HWd.out.below hb (Nat.le_of_eq HS0.out)) hd hwr
 generalize primW (h.bun l)=PW at *
 generalize cauU (h.bun l)=z at *
 subst hz
 clear hr hB hd hc hS hwr
 unfold bunV at *
 go_enter Tryz.func49,Tryz.ntmps49
 go_wp2_with (first
  | (refine wpList_ld18 rfl (.tmp 1) rfl _ rfl _ _ (HRW.out _ HW0.out) rfl ?_)
  | fail)
 refine C1.out.mono ?_
 rintro e w1 ⟨hb,⟨-,rfl⟩|⟨h0,-⟩⟩
 case inr=>exact absurd rfl h0
 have B1:=hid (Below.push HW0.out (Nat.le_of_eq HS0.out.symm) hb)
 have T1:=hid (HB0.out.trans (B1.out.mono (Nat.le_succ _)))
 clear hb
 go_wp2_with (first
  | (refine wpList_ld18 rfl (.tmp 1) rfl _ rfl _ _ (HRW.out _ B1.out) rfl ?_)
  | fail)
 refine (CP.out _ B1.out).mono ?_
 rintro e w2 ⟨v2,rfl,ho,hb⟩
 obtain ⟨A2,c2,rfl,hc2,-,hr2⟩:=ho.rd
 have HR2:=hid (And.intro hc2 hr2)
 have T2:=hid (T1.out.trans (hb.mono T1.out.size))
 clear hb ho hc2 hr2
 go_wp2_with fail
 go_ret2
 exact ⟨T2.out,_,_,_,rfl,HR2.out.1,HR2.out.2⟩
theorem bundleWrites_walk (h:BH) (l:List Blk) (A:Option Addr) (n c:Nat) (w:World) (S:Snt) (hin:BunIn w h l A n c) (hS:Wd S w) :
  Calls Tryz.prog 8 #[bunV h A n c] w fun e w'=>e=.returned (.bool true)∧Below w.heap.size w w':=by
 obtain ⟨hd,hr,hc⟩:=hin
 have HB0:=hid ((Below.refl w.heap.size w).alloc nlr (.cells #[.int .u64 (h.flg:Int),.int .i64 h.crc,.int .i64 h.dsc,.string h.dnm,.int .u64 (h.dn:Int),.int .u64 (h.dv:Int),.int .i64 h.ssc,.string h.snm,.int .u64 (h.sn:Int),.int .u64 (h.sv:Int),.int .i64 h.rsc,.string h.rnm,.int .u64 (h.rn:Int),.int .u64 (h.rv:Int),.int .u64 (h.tim:Int),.int .u64 (h.seq:Int),.int .u64 (h.lif:Int),.slice A n c] 73))
 have HRW:=hid (fun (W:World) (hb:Below (w.heap.size+1) (w.alloc (.cells #[.int .u64 (h.flg:Int),.int .i64 h.crc,.int .i64 h.dsc,.string h.dnm,.int .u64 (h.dn:Int),.int .u64 (h.dv:Int),.int .i64 h.ssc,.string h.snm,.int .u64 (h.sn:Int),.int .u64 (h.sv:Int),.int .i64 h.rsc,.string h.rnm,.int .u64 (h.rn:Int),.int .u64 (h.rv:Int),.int .u64 (h.tim:Int),.int .u64 (h.seq:Int),.int .u64 (h.lif:Int),.slice A n c] 73)) W)=>row_of_box (w:=w) rfl hb)
 have HW0:Hid (Below (w.heap.size+1) (w.alloc (.cells #[.int .u64 (h.flg:Int),.int .i64 h.crc,.int .i64 h.dsc,.string h.dnm,.int .u64 (h.dn:Int),.int .u64 (h.dv:Int),.int .i64 h.ssc,.string h.snm,.int .u64 (h.sn:Int),.int .u64 (h.sv:Int),.int .i64 h.rsc,.string h.rnm,.int .u64 (h.rn:Int),.int .u64 (h.rv:Int),.int .u64 (h.tim:Int),.int .u64 (h.seq:Int),.int .u64 (h.lif:Int),.slice A n c] 73)) (w.alloc (.cells #[.int .u64 (h.flg:Int),.int .i64 h.crc,.int .i64 h.dsc,.string h.dnm,.int .u64 (h.dn:Int),.int .u64 (h.dv:Int),.int .i64 h.ssc,.string h.snm,.int .u64 (h.sn:Int),.int .u64 (h.sv:Int),.int .i64 h.rsc,.string h.rnm,.int .u64 (h.rn:Int),.int .u64 (h.rv:Int),.int .u64 (h.tim:Int),.int .u64 (h.seq:Int),.int .u64 (h.lif:Int),.slice A n c] 73))):=Below.refl _ _
 have HS0:Hid ((w.alloc (.cells #[.int .u64 (h.flg:Int),.int .i64 h.crc,.int .i64 h.dsc,.string h.dnm,.int .u64 (h.dn:Int),.int .u64 (h.dv:Int),.int .i64 h.ssc,.string h.snm,.int .u64 (h.sn:Int),.int .u64 (h.sv:Int),.int .i64 h.rsc,.string h.rnm,.int .u64 (h.rn:Int),.int .u64 (h.rv:Int),.int .u64 (h.tim:Int),.int .u64 (h.seq:Int),.int .u64 (h.lif:Int),.slice A n c] 73)).heap.size=w.heap.size+1):=by show _=_;simp
 have CH:=hid (fun (W:World) (hb:Below w.heap.size w W)=>heads06_any S W (hS.below hb nlr))
 have CF:=hid (fun (W:World) (hb:Below w.heap.size w W)=>few06_any h l A n c W.heap.size W ((hr.below hb).more hb.size) nlr)
 have CE:=hid (fun (W:World) (hb:Below w.heap.size w W)=>uencode_any S h l A n c W.heap.size W (hS.below hb nlr) hd ((hr.below hb).more hb.size) nlr hc)
 have CF2:=hid (fun (W:World) (hb:Below w.heap.size w W)=>rencodeU_any h l A n c W.heap.size W hd ((hr.below hb).more hb.size) nlr)
 have CP:=hid (fun (W:World) (hb:Below w.heap.size w W)=>uprimary_any S h l A n c W.heap.size W (hS.below hb nlr) hd ((hr.below hb).more hb.size) nlr hc)
 have CP2:=hid (fun (W:World) (hb:Below w.heap.size w W)=>rprimary_any h l A n c W.heap.size W hd ((hr.below hb).more hb.size) nlr)
 have CC:=hid (fun (W:World) (hb:Below w.heap.size w W)=>ucCheck_any S h l A n c W.heap.size W (hS.below hb nlr) hd ((hr.below hb).more hb.size) nlr hc)
 have CC2:=hid (fun (W:World) (hb:Below w.heap.size w W)=>rcheckU_any h l A n c W.heap.size W hd ((hr.below hb).more hb.size) nlr)
 have CK:=hid (fun (W:World) (hb:Below w.heap.size w W)=>ukey_any S h l A n c W.heap.size W (hS.below hb nlr) hd ((hr.below hb).more hb.size) nlr hc)
 have CK2:=hid (fun (W:World) (hb:Below w.heap.size w W)=>rkeyU_any h l A n c W.heap.size W hd ((hr.below hb).more hb.size) nlr)
 have CY:=hid (fun (W:World) (hb:Below w.heap.size w W)=>upay_any S h l A n c W.heap.size W (hS.below hb nlr) hd ((hr.below hb).more hb.size) nlr hc)
 have CY2:=hid (fun (W:World) (hb:Below w.heap.size w W)=>rpayU_any h l A n c W.heap.size W hd ((hr.below hb).more hb.size) nlr)
 have ROW0:=hid (HRW.out _ HW0.out)
 clear hd hr hc hS
 generalize (if cauU (h.bun l)=0 then primW (h.bun l) else [])=LP at *
 generalize cauU (h.bun l)=zc at *
 generalize (encU (h.bun l)).2=ze at *
 generalize (encU (h.bun l)).1=LE at *
 generalize strL (keyU (h.bun l))=KS at *
 generalize payU (h.bun l)=LY at *
 unfold bunV at *
 go_enter Tryz.func8,Tryz.ntmps8
 go_wp2_with (first
  | (refine wpList_ld18 rfl (.tmp 1) rfl _ rfl _ _ ROW0.out rfl ?_)
  | fail)
 refine (CF.out _ HB0.out).mono ?_
 rintro e w1 ⟨R,rfl,hb⟩
 have B1:=hid (Below.push HW0.out (Nat.le_of_eq HS0.out.symm) hb)
 have T1:=hid (HB0.out.trans (B1.out.mono (Nat.le_succ _)))
 have ROW1:=hid (HRW.out _ B1.out)
 clear hb ROW0
 cases R with
 | false =>
  go_wp2_with fail
  refine (CH.out w1 T1.out).mono ?_
  rintro e w2 ⟨rfl,hb2⟩
  have T2:=hid (T1.out.trans (hb2.mono T1.out.size))
  clear hb2
  go_wp2_with fail
  go_ret
  exact ⟨rfl,T2.out⟩
 | true =>
 go_wp2_with (first
  | (refine wpList_ld18 rfl (.tmp 1) rfl _ rfl _ _ ROW1.out rfl ?_)
  | fail)
 refine (CE.out _ T1.out).mono ?_
 rintro e w2 ⟨hb,v2,rfl,ho⟩
 obtain ⟨A2,c2,rfl,-,-,hr2⟩:=ho.rd
 have B2:=hid (Below.push B1.out (Nat.le_of_eq HS0.out.symm) hb)
 have T2:=hid (T1.out.trans (hb.mono T1.out.size))
 have ROW2:=hid (HRW.out _ B2.out)
 have R2:=hid hr2
 clear hb hr2 ho ROW1
 go_wp2_with (first
  | (refine wpList_ld18 rfl (.tmp 1) rfl _ rfl _ _ ROW2.out rfl ?_)
  | fail)
 refine (CF2.out _ T2.out).mono ?_
 rintro e w3 ⟨hb,A3,n3,c3,rfl,-,hr3⟩
 have B3:=hid (Below.push B2.out (Nat.le_of_eq HS0.out.symm) hb)
 have T3:=hid (T2.out.trans (hb.mono T2.out.size))
 have ROW3:=hid (HRW.out _ B3.out)
 have R3:=hid hr3
 have R2x:=hid ((R2.out.below hb).more hb.size)
 clear R2
 have R2:=R2x
 clear R2x
 clear hb hr3 ROW2
 go_wp2_with (first
  | (refine wpList_ld18 rfl (.tmp 1) rfl _ rfl _ _ ROW3.out rfl ?_)
  | fail)
 refine (CP.out _ T3.out).mono ?_
 rintro e w4 ⟨hb,A4,n4,c4,rfl,-,hr4⟩
 have B4:=hid (Below.push B3.out (Nat.le_of_eq HS0.out.symm) hb)
 have T4:=hid (T3.out.trans (hb.mono T3.out.size))
 have ROW4:=hid (HRW.out _ B4.out)
 have R4:=hid hr4
 have R2x:=hid ((R2.out.below hb).more hb.size)
 clear R2
 have R2:=R2x
 clear R2x
 have R3x:=hid ((R3.out.below hb).more hb.size)
 clear R3
 have R3:=R3x
 clear R3x
 clear hb hr4 ROW3
 go_wp2_with (first
  | (refine wpList_ld18 rfl (.tmp 1) rfl _ rfl _ _ ROW4.out rfl ?_)
  | fail)
 refine (CP2.out _ T4.out).mono ?_
 rintro e w5 ⟨hb,A5,n5,c5,rfl,-,hr5⟩
 have B5:=hid (Below.push B4.out (Nat.le_of_eq HS0.out.symm) hb)
 have T5:=hid (T4.out.trans (hb.mono T4.out.size))
 have ROW5:=hid (HRW.out _ B5.out)
 have R5:=hid hr5
 have R2x:=hid ((R2.out.below hb).more hb.size)
 clear R2
 have R2:=R2x
 clear R2x
 have R3x:=hid ((R3.out.below hb).more hb.size)
 clear R3
 have R3:=R3x
 clear R3x
 have R4x:=hid ((R4.out.below hb).more hb.size)
 clear R4
 have R4:=R4x
 clear R4x
 clear hb hr5 ROW4
 go_wp2_with fail
 refine wp_region_held_drew (S:=fun W=>Below w5.heap.size w5 W) (by kernel_rfl) Below.drew_ (fun hHeld=>?_)
 have BC:=hid hHeld
 refine takeR (i:=0) (v:=?v0) rfl (by kernel_rfl) (by kernel_rfl) (by kernel_rfl) (fun _ _ _ h=>h) (by rfl) ?hy0 (by assumption) ?rest0
 case hy0=>(intro W hSw;go_simp;try with_reducible rfl)
 try simp only [Act.put,List.setIfInBounds_toArray,List.set_cons_zero,List.set_cons_succ]
 refine takeR (i:=1) (v:=?v1) rfl (by kernel_rfl) (by kernel_rfl) (by kernel_rfl) (fun _ _ _ h=>h) (by rfl) ?hy1 (by assumption) ?rest1
 case hy1=>(intro W hSw;go_simp;try with_reducible rfl)
 try simp only [Act.put,List.setIfInBounds_toArray,List.set_cons_zero,List.set_cons_succ]
 refine wpAnyH_ready (rs:=[2]) (by kernel_rfl) (by simp) ?_
 refine AllReadyH.cons rfl (fun K hK=>?_) AllReadyH.nil
 rw [if_pos (by rfl)]
 go_simp
 refine (same_true A2 A3 _ c2 n3 c3 w5.heap.size w5.heap.size LE _ (R2.out.below BC.out) (R3.out.below BC.out)).mono ?_
 rintro e wa ⟨rfl,rfl⟩
 go_simp
 refine hK.out _ _ BC.out (fun hHeld=>?_)
 try simp only [Act.put,List.setIfInBounds_toArray,List.set_cons_zero,List.set_cons_succ]
 clear hK K
 refine takeR (i:=3) (v:=?v3) rfl (by kernel_rfl) (by kernel_rfl) (by kernel_rfl) (fun _ _ _ h=>h) (by rfl) ?hy3 (by assumption) ?rest3
 case hy3=>(intro W hSw;go_simp;try with_reducible rfl)
 try simp only [Act.put,List.setIfInBounds_toArray,List.set_cons_zero,List.set_cons_succ]
 refine takeR (i:=4) (v:=?v4) rfl (by kernel_rfl) (by kernel_rfl) (by kernel_rfl) (fun _ _ _ h=>h) (by rfl) ?hy4 (by assumption) ?rest4
 case hy4=>(intro W hSw;go_simp;try with_reducible rfl)
 try simp only [Act.put,List.setIfInBounds_toArray,List.set_cons_zero,List.set_cons_succ]
 refine takeR (i:=5) (v:=?v5) rfl (by kernel_rfl) (by kernel_rfl) (by kernel_rfl) (fun _ _ _ h=>h) (by rfl) ?hy5 (by assumption) ?rest5
 case hy5=>(intro W hSw;go_simp;try with_reducible rfl)
 try simp only [Act.put,List.setIfInBounds_toArray,List.set_cons_zero,List.set_cons_succ]
 refine takeR (i:=6) (v:=?v6) rfl (by kernel_rfl) (by kernel_rfl) (by kernel_rfl) (fun _ _ _ h=>h) (by rfl) ?hy6 (by assumption) ?rest6
 case hy6=>(intro W hSw;go_simp;try with_reducible rfl)
 try simp only [Act.put,List.setIfInBounds_toArray,List.set_cons_zero,List.set_cons_succ]
 refine takeR (i:=7) (v:=?v7) rfl (by kernel_rfl) (by kernel_rfl) (by kernel_rfl) (fun _ _ _ h=>h) (by rfl) ?hy7 (by assumption) ?rest7
 case hy7=>(intro W hSw;go_simp;try with_reducible rfl)
 try simp only [Act.put,List.setIfInBounds_toArray,List.set_cons_zero,List.set_cons_succ]
 refine takeR (i:=8) (v:=?v8) rfl (by kernel_rfl) (by kernel_rfl) (by kernel_rfl) (fun _ _ _ h=>h) (by rfl) ?hy8 (by assumption) ?rest8
 case hy8=>(intro W hSw;go_simp;try with_reducible rfl)
 try simp only [Act.put,List.setIfInBounds_toArray,List.set_cons_zero,List.set_cons_succ]
 refine takeR (i:=9) (v:=?v9) rfl (by kernel_rfl) (by kernel_rfl) (by kernel_rfl) (fun _ _ _ h=>h) (by rfl) ?hy9 (by assumption) ?rest9
 case hy9=>(intro W hSw;go_simp;try with_reducible rfl)
 try simp only [Act.put,List.setIfInBounds_toArray,List.set_cons_zero,List.set_cons_succ]
 refine takeR (i:=10) (v:=?v10) rfl (by kernel_rfl) (by kernel_rfl) (by kernel_rfl) (fun _ _ _ h=>h) (by rfl) ?hy10 (by assumption) ?rest10
 case hy10=>(intro W hSw;go_simp;try with_reducible rfl)
 try simp only [Act.put,List.setIfInBounds_toArray,List.set_cons_zero,List.set_cons_succ]
 refine wpAnyH_ready (rs:=[11]) (by kernel_rfl) (by simp) ?_
 refine AllReadyH.cons rfl (fun K hK=>?_) AllReadyH.nil
 rw [if_pos (by rfl)]
 go_simp
 refine (same_true A4 A5 n4 c4 n5 c5 w5.heap.size w5.heap.size LP _ (R4.out.below BC.out) (R5.out.below BC.out)).mono ?_
 rintro e wa ⟨rfl,rfl⟩
 go_simp
 refine hK.out _ _ BC.out (fun hHeld=>?_)
 try simp only [Act.put,List.setIfInBounds_toArray,List.set_cons_zero,List.set_cons_succ]
 clear hK K
 refine takeR (i:=12) (v:=?v12) rfl (by kernel_rfl) (by kernel_rfl) (by kernel_rfl) (fun _ _ _ h=>h) (by rfl) ?hy12 (by assumption) ?rest12
 case hy12=>(intro W hSw;go_simp;try with_reducible rfl)
 try simp only [Act.put,List.setIfInBounds_toArray,List.set_cons_zero,List.set_cons_succ]
 refine takeR (i:=13) (v:=?v13) rfl (by kernel_rfl) (by kernel_rfl) (by kernel_rfl) (fun _ _ _ h=>h) (by rfl) ?hy13 (by assumption) ?rest13
 case hy13=>(intro W hSw;go_simp;try with_reducible rfl)
 try simp only [Act.put,List.setIfInBounds_toArray,List.set_cons_zero,List.set_cons_succ]
 refine takeR (i:=14) (v:=?v14) rfl (by kernel_rfl) (by kernel_rfl) (by kernel_rfl) (fun _ _ _ h=>h) (by rfl) ?hy14 (by assumption) ?rest14
 case hy14=>(intro W hSw;go_simp;try with_reducible rfl)
 try simp only [Act.put,List.setIfInBounds_toArray,List.set_cons_zero,List.set_cons_succ]
 refine takeR (i:=15) (v:=?v15) rfl (by kernel_rfl) (by kernel_rfl) (by kernel_rfl) (fun _ _ _ h=>h) (by rfl) ?hy15 (by assumption) ?rest15
 case hy15=>(intro W hSw;go_simp;try with_reducible rfl)
 try simp only [Act.put,List.setIfInBounds_toArray,List.set_cons_zero,List.set_cons_succ]
 refine takeR (i:=16) (v:=?v16) rfl (by kernel_rfl) (by kernel_rfl) (by kernel_rfl) (fun _ _ _ h=>h) (by rfl) ?hy16 (by assumption) ?rest16
 case hy16=>(intro W hSw;go_simp;try with_reducible rfl)
 try simp only [Act.put,List.setIfInBounds_toArray,List.set_cons_zero,List.set_cons_succ]
 refine takeR (i:=17) (v:=?v17) rfl (by kernel_rfl) (by kernel_rfl) (by kernel_rfl) (fun _ _ _ h=>h) (by rfl) ?hy17 (by assumption) ?rest17
 case hy17=>(intro W hSw;go_simp;try with_reducible rfl)
 try simp only [Act.put,List.setIfInBounds_toArray,List.set_cons_zero,List.set_cons_succ]
 refine takeR (i:=18) (v:=?v18) rfl (by kernel_rfl) (by kernel_rfl) (by kernel_rfl) (fun _ _ _ h=>h) (by rfl) ?hy18 (by assumption) ?rest18
 case hy18=>(intro W hSw;go_simp;try with_reducible rfl)
 try simp only [Act.put,List.setIfInBounds_toArray,List.set_cons_zero,List.set_cons_succ]
 refine takeR (i:=19) rfl (by kernel_rfl) (by kernel_rfl) (by kernel_rfl) (fun _ _ _ h=>h) (by rfl) (fun W hW=>exec_ld18 rfl rfl (rowBelow ROW5.out hW (row_lt ROW5.out)) rfl) (by assumption) ?_
 try simp only [Act.put,List.setIfInBounds_toArray,List.set_cons_zero,List.set_cons_succ]
 refine takeR (i:=21) rfl (by kernel_rfl) (by kernel_rfl) (by kernel_rfl) (fun _ _ _ h=>h) (by rfl) (fun W hW=>exec_ld18 rfl rfl (rowBelow ROW5.out hW (row_lt ROW5.out)) rfl) (by assumption) ?_
 try simp only [Act.put,List.setIfInBounds_toArray,List.set_cons_zero,List.set_cons_succ]
 refine wpAnyH_ready (rs:=[20]) (by kernel_rfl) (by simp) ?_
 refine AllReadyH.cons rfl (fun K hK=>?_) AllReadyH.nil
 rw [if_pos (by rfl)]
 go_simp
 refine (CC.out _ (T5.out.trans (BC.out.mono T5.out.size))).mono ?_
 rintro e wb ⟨rfl,hb⟩
 replace BC:=hid (BC.out.trans (hb.mono BC.out.size))
 clear hb
 go_simp
 refine hK.out _ _ BC.out (fun hHeld=>?_)
 try simp only [Act.put,List.setIfInBounds_toArray,List.set_cons_zero,List.set_cons_succ]
 clear hK K
 refine wpAnyH_ready (rs:=[22]) (by kernel_rfl) (by simp) ?_
 refine AllReadyH.cons rfl (fun K hK=>?_) AllReadyH.nil
 rw [if_pos (by rfl)]
 go_simp
 refine (CC2.out _ (T5.out.trans (BC.out.mono T5.out.size))).mono ?_
 rintro e wc ⟨rfl,hb⟩
 replace BC:=hid (BC.out.trans (hb.mono BC.out.size))
 clear hb
 go_simp
 refine hK.out _ _ BC.out (fun hHeld=>?_)
 try simp only [Act.put,List.setIfInBounds_toArray,List.set_cons_zero,List.set_cons_succ]
 clear hK K
 refine takeR (i:=23) (v:=?v23) rfl (by kernel_rfl) (by kernel_rfl) (by kernel_rfl) (fun _ _ _ h=>h) (by rfl) ?hy23 (by assumption) ?rest23
 case hy23=>(intro W hSw;go_simp;try with_reducible rfl)
 try simp only [Act.put,List.setIfInBounds_toArray,List.set_cons_zero,List.set_cons_succ]
 refine takeR (i:=24) (v:=?v24) rfl (by kernel_rfl) (by kernel_rfl) (by kernel_rfl) (fun _ _ _ h=>h) (by rfl) ?hy24 (by assumption) ?rest24
 case hy24=>(intro W hSw;go_simp;try with_reducible rfl)
 try simp only [Act.put,List.setIfInBounds_toArray,List.set_cons_zero,List.set_cons_succ]
 refine takeR (i:=25) (v:=?v25) rfl (by kernel_rfl) (by kernel_rfl) (by kernel_rfl) (fun _ _ _ h=>h) (by rfl) ?hy25 (by assumption) ?rest25
 case hy25=>(intro W hSw;go_simp;try with_reducible rfl)
 try simp only [Act.put,List.setIfInBounds_toArray,List.set_cons_zero,List.set_cons_succ]
 refine takeR (i:=26) rfl (by kernel_rfl) (by kernel_rfl) (by kernel_rfl) (fun _ _ _ h=>h) (by rfl) (fun W hW=>exec_ld18 rfl rfl (rowBelow ROW5.out hW (row_lt ROW5.out)) rfl) (by assumption) ?_
 try simp only [Act.put,List.setIfInBounds_toArray,List.set_cons_zero,List.set_cons_succ]
 refine takeR (i:=28) rfl (by kernel_rfl) (by kernel_rfl) (by kernel_rfl) (fun _ _ _ h=>h) (by rfl) (fun W hW=>exec_ld18 rfl rfl (rowBelow ROW5.out hW (row_lt ROW5.out)) rfl) (by assumption) ?_
 try simp only [Act.put,List.setIfInBounds_toArray,List.set_cons_zero,List.set_cons_succ]
 refine wpAnyH_ready (rs:=[27]) (by kernel_rfl) (by simp) ?_
 refine AllReadyH.cons rfl (fun K hK=>?_) AllReadyH.nil
 rw [if_pos (by rfl)]
 go_simp
 refine (CK.out _ (T5.out.trans (BC.out.mono T5.out.size))).mono ?_
 rintro e wd ⟨rfl,hb⟩
 replace BC:=hid (BC.out.trans (hb.mono BC.out.size))
 clear hb
 go_simp
 refine hK.out _ _ BC.out (fun hHeld=>?_)
 try simp only [Act.put,List.setIfInBounds_toArray,List.set_cons_zero,List.set_cons_succ]
 clear hK K
 refine wpAnyH_ready (rs:=[29]) (by kernel_rfl) (by simp) ?_
 refine AllReadyH.cons rfl (fun K hK=>?_) AllReadyH.nil
 rw [if_pos (by rfl)]
 go_simp
 refine (CK2.out _ (T5.out.trans (BC.out.mono T5.out.size))).mono ?_
 rintro e we ⟨rfl,hb⟩
 replace BC:=hid (BC.out.trans (hb.mono BC.out.size))
 clear hb
 go_simp
 refine hK.out _ _ BC.out (fun hHeld=>?_)
 try simp only [Act.put,List.setIfInBounds_toArray,List.set_cons_zero,List.set_cons_succ]
 clear hK K
 refine takeR (i:=30) (v:=?v30) rfl (by kernel_rfl) (by kernel_rfl) (by kernel_rfl) (fun _ _ _ h=>h) (by rfl) ?hy30 (by assumption) ?rest30
 case hy30=>(intro W hSw;go_simp;try with_reducible rfl)
 try simp only [Act.put,List.setIfInBounds_toArray,List.set_cons_zero,List.set_cons_succ]
 refine takeR (i:=31) (v:=?v31) rfl (by kernel_rfl) (by kernel_rfl) (by kernel_rfl) (fun _ _ _ h=>h) (by rfl) ?hy31 (by assumption) ?rest31
 case hy31=>(intro W hSw;go_simp;try with_reducible rfl)
 try simp only [Act.put,List.setIfInBounds_toArray,List.set_cons_zero,List.set_cons_succ]
 refine takeR (i:=32) (v:=?v32) rfl (by kernel_rfl) (by kernel_rfl) (by kernel_rfl) (fun _ _ _ h=>h) (by rfl) ?hy32 (by assumption) ?rest32
 case hy32=>(intro W hSw;go_simp;try with_reducible rfl)
 try simp only [Act.put,List.setIfInBounds_toArray,List.set_cons_zero,List.set_cons_succ]
 refine takeR (i:=33) rfl (by kernel_rfl) (by kernel_rfl) (by kernel_rfl) (fun _ _ _ h=>h) (by rfl) (fun W hW=>exec_ld18 rfl rfl (rowBelow ROW5.out hW (row_lt ROW5.out)) rfl) (by assumption) ?_
 try simp only [Act.put,List.setIfInBounds_toArray,List.set_cons_zero,List.set_cons_succ]
 refine takeR (i:=35) rfl (by kernel_rfl) (by kernel_rfl) (by kernel_rfl) (fun _ _ _ h=>h) (by rfl) (fun W hW=>exec_ld18 rfl rfl (rowBelow ROW5.out hW (row_lt ROW5.out)) rfl) (by assumption) ?_
 try simp only [Act.put,List.setIfInBounds_toArray,List.set_cons_zero,List.set_cons_succ]
 refine wpAnyH_ready (rs:=[34]) (by kernel_rfl) (by simp) ?_
 refine AllReadyH.cons rfl (fun K hK=>?_) AllReadyH.nil
 rw [if_pos (by rfl)]
 go_simp
 refine (CY.out _ (T5.out.trans (BC.out.mono T5.out.size))).mono ?_
 rintro e wf ⟨vf,rfl,hof,hb⟩
 obtain ⟨Af,cf,rfl,-,-,hrf⟩:=hof.rd
 have RF:=hid hrf
 replace BC:=hid (BC.out.trans (hb.mono BC.out.size))
 clear hb
 clear hof hrf
 go_simp
 refine hK.out _ _ BC.out (fun hHeld=>?_)
 try simp only [Act.put,List.setIfInBounds_toArray,List.set_cons_zero,List.set_cons_succ]
 clear hK K
 refine wpAnyH_ready (rs:=[36]) (by kernel_rfl) (by simp) ?_
 refine AllReadyH.cons rfl (fun K hK=>?_) AllReadyH.nil
 rw [if_pos (by rfl)]
 go_simp
 refine (CY2.out _ (T5.out.trans (BC.out.mono T5.out.size))).mono ?_
 rintro e wg ⟨Ag,ng,cg,rfl,hrg,-,hb⟩
 have RG:=hid hrg
 have RF2:=hid ((RF.out.below hb).more hb.size)
 replace BC:=hid (BC.out.trans (hb.mono BC.out.size))
 clear hb
 clear hrg RF
 go_simp
 refine hK.out _ _ BC.out (fun hHeld=>?_)
 try simp only [Act.put,List.setIfInBounds_toArray,List.set_cons_zero,List.set_cons_succ]
 clear hK K
 refine wpAnyH_ready (rs:=[37]) (by kernel_rfl) (by simp) ?_
 refine AllReadyH.cons rfl (fun K hK=>?_) AllReadyH.nil
 rw [if_pos (by rfl)]
 go_simp
 refine (same_true Af Ag _ cf ng cg wg.heap.size wg.heap.size LY _ RF2.out RG.out).mono ?_
 rintro e wa ⟨rfl,rfl⟩
 go_simp
 refine hK.out _ _ BC.out (fun hHeld=>?_)
 try simp only [Act.put,List.setIfInBounds_toArray,List.set_cons_zero,List.set_cons_succ]
 clear hK K
 refine takeR (i:=38) (v:=?v38) rfl (by kernel_rfl) (by kernel_rfl) (by kernel_rfl) (fun _ _ _ h=>h) (by rfl) ?hy38 (by assumption) ?rest38
 case hy38=>(intro W hSw;go_simp;try with_reducible rfl)
 try simp only [Act.put,List.setIfInBounds_toArray,List.set_cons_zero,List.set_cons_succ]
 refine takeR (i:=39) (v:=?v39) rfl (by kernel_rfl) (by kernel_rfl) (by kernel_rfl) (fun _ _ _ h=>h) (by rfl) ?hy39 (by assumption) ?rest39
 case hy39=>(intro W hSw;go_simp;try with_reducible rfl)
 try simp only [Act.put,List.setIfInBounds_toArray,List.set_cons_zero,List.set_cons_succ]
 refine wpAnyH_ready (rs:=[40]) (by kernel_rfl) (by simp) ?_
 refine AllReadyH.cons rfl (fun K hK=>?_) AllReadyH.nil
 rw [if_pos (by rfl)]
 go_simp
 refine (CH.out _ (T5.out.trans (BC.out.mono T5.out.size))).mono ?_
 rintro e wh ⟨rfl,hb⟩
 replace BC:=hid (BC.out.trans (hb.mono BC.out.size))
 clear hb
 go_simp
 refine hK.out _ _ BC.out (fun hHeld=>?_)
 try simp only [Act.put,List.setIfInBounds_toArray,List.set_cons_zero,List.set_cons_succ]
 clear hK K
 refine takeR (i:=41) (v:=?v41) rfl (by kernel_rfl) (by kernel_rfl) (by kernel_rfl) (fun _ _ _ h=>h) (by rfl) ?hy41 (by assumption) ?rest41
 case hy41=>(intro W hSw;go_simp;try with_reducible rfl)
 try simp only [Act.put,List.setIfInBounds_toArray,List.set_cons_zero,List.set_cons_succ]
 refine takeR (i:=42) (v:=?v42) rfl (by kernel_rfl) (by kernel_rfl) (by kernel_rfl) (fun _ _ _ h=>h) (by rfl) ?hy42 (by assumption) ?rest42
 case hy42=>(intro W hSw;go_simp;try with_reducible rfl)
 try simp only [Act.put,List.setIfInBounds_toArray,List.set_cons_zero,List.set_cons_succ]
 refine wpAnyH_done (by kernel_rfl) ?_ _
 go_wp2_with fail
 go_ret
 exact ⟨rfl,(T5.out.trans (BC.out.mono T5.out.size))⟩
end Go.Proofs.YtlecbblmaadpiaaGreatDoor
