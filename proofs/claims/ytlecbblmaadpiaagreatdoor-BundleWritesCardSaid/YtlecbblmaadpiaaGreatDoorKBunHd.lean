import Derived.Test.YtlecbblmaadpiaaGreatDoorKBunC
import Derived.Test.YtlecbblmaadpiaaGreatDoorKBunHk
namespace Go.Proofs.YtlecbblmaadpiaaGreatDoor
set_option maxRecDepth 100000
set_option maxHeartbeats 16000000
open Go.RowKit
open Go.Lib (hid)
theorem set0 {W:World} {g:Nat} {t:TypeId} {c0:Value} {c1:Value} {c2:Value} {c3:Value} {c4:Value} {c5:Value} {c6:Value} {c7:Value} {c8:Value} {c9:Value} {c10:Value} {c11:Value} {c12:Value} {c13:Value} {c14:Value} {c15:Value} {c16:Value} {c17:Value} (v:Value) (h:W.heap[g]?=some (.cells #[c0,c1,c2,c3,c4,c5,c6,c7,c8,c9,c10,c11,c12,c13,c14,c15,c16,c17] t (0,0))) :
  (W.setCell ⟨g,0,none⟩ v).heap[g]?=some (.cells #[v,c1,c2,c3,c4,c5,c6,c7,c8,c9,c10,c11,c12,c13,c14,c15,c16,c17] t (0,0)):=by
 rw [setCell_eq_setRow W g 0 #[c0,c1,c2,c3,c4,c5,c6,c7,c8,c9,c10,c11,c12,c13,c14,c15,c16,c17] t (0,0) v h]
 exact setRow_heap W g _ _ t _ h
theorem hPl_bd1:({ hPl with flg:=1 }:BH).Bd:=⟨by decide,by decide,by decide,by decide,by decide,by decide,by decide,by decide,by decide,by decide,by decide,by decide,by decide⟩
theorem hp_keyS:strL (keyU (hPl.bun [bPl]))=⟨#[105,112,110,58,49,46,50,32,51,32,52]⟩:=by rw [hp_key];rfl
theorem heads06_any (S:Snt) (w:World) (hS:Wd S w) :
  Calls Tryz.prog 46 #[] w fun e w'=>e=.returned (.bool true)∧Below w.heap.size w w':=by
 obtain ⟨L,hL⟩:∃ L,L=bunW (hPl.bun [bPl]):=⟨_,rfl⟩
 have hI:IsBun L (hPl.bun [bPl]):=⟨hp_c,⟨by decide,by decide,by decide,by decide⟩,okBs_of (cauU_0.1 hp_c).2.2 (fun y hy=>by have hy':y=bPl:=List.mem_singleton.1 hy;subst hy';exact ⟨by decide,by decide,by decide⟩),hL,by rw [hL];exact hp_len⟩
 have hE:encU (hPl.bun [bPl])=(L,0):=enc_isBun hI
 have HLI:=hid hI
 have HSW:=hid (fun (W:World) (hb:Below w.heap.size w W)=>hS.below hb nlr)
 have C1:=hid (fun W=>plain06_any W)
 have C2:=hid (fun (W:World) (hb:Below w.heap.size w W) (A:Option Addr) (hr:RdL W W.heap.size A 1 [bPl])=>uencode_any S hPl [bPl] A 1 1 W.heap.size W (HSW.out W hb) hPl_bd hr nlr nlr)
 rw [hE] at C2
 have C3:=hid (fun (W:World) (hb:Below w.heap.size w W) (A:Option Addr) (n c:Nat) (l:List UInt8) (hr:Rd W W.heap.size A n l) (hn:n≤140737488355328) (hc:n≤c)=>udecode_any S A n c W.heap.size l W (HSW.out W hb) nlr hr hn hc)
 clear hS hL hI hE
 go_enter Tryz.func46,Tryz.ntmps46
 go_wp2_with fail
 refine (C1.out _).mono ?_
 rintro e w1 ⟨hb,A1,rfl,hr⟩
 have B1:=hid hb
 have R1:=hid hr.unmask_
 clear hb hr
 go_wp2_with fail
 refine (C2.out w1 B1.out A1 R1.out).mono ?_
 rintro e w2 ⟨hb,v2,rfl,ho⟩
 have B2:=hid (B1.out.trans (hb.mono B1.out.size))
 have hlen:L.length≤4096:=HLI.out.2.2.2.2
 obtain ⟨A2,c2,rfl,hc2,-,hr2⟩:=ho.rdn rfl
 have R2:=hid (And.intro hr2 (And.intro hc2 hlen))
 clear hb ho hr2 hc2 hlen
 go_wp2_with fail
 refine (C3.out w2 B2.out A2 _ c2 L R2.out.1 (by have:=R2.out.2.2;omega) R2.out.2.1).mono ?_
 rintro e w3 ⟨hb,⟨h3,xs,A3,n3,c3,rfl,hbd,hrl,hc3,his⟩|⟨hno,-⟩⟩
 case inr=>exact absurd HLI.out (hno _)
 obtain ⟨rfl,rfl⟩:=BH.bun_inj (his.uniq HLI.out)
 obtain rfl:1=n3:=hrl.1
 have B3:=hid (B2.out.trans (hb.mono B2.out.size))
 have R3:=hid hrl.unmask_
 have HC3:=hid hc3
 clear hb hbd hrl hc3 his
 unfold bunV at *
 go_wp2_with (first
  | (refine wpList_st18 rfl 73 (.tmp 3) (.tmp 20) rfl _ rfl rfl _ _ (heap_alloc_new w3 _) info_bun rfl rfl ?_;intro W3 hrow3 _ _ hbel hsz3;have BW3:=hid (hbel _ _ (B3.out.alloc B3.out.size _) B3.out.size);have D3:=hid (hbel _ _ ((Below.refl w3.heap.size w3).alloc nlr _) nlr);have HROW3:=hid hrow3;have HZ3:Hid (W3.heap.size=w3.heap.size+1):=(by show _=_;rw [hsz3];simp);clear hbel hrow3 hsz3)
  | fail)
 have r4:Rd (W3.alloc (.cells #[.int .u8 1] 5)) (W3.heap.size+1) (some ⟨W3.heap.size,0,none⟩) 1 [1]:=Rd.lit W3 _ rfl [1] 5 #[.int .u8 1] rfl 1 rfl
 have BA3:=hid (BW3.out.alloc BW3.out.size (.cells #[.int .u8 1] 5))
 refine (C3.out _ BA3.out (some ⟨W3.heap.size,0,none⟩) 1 1 [1] (r4.more (Nat.le_of_eq (by simp))) (by decide) nlr).mono ?_
 rintro e w4 ⟨hb,⟨h4,xs4,A4,n4,c4,rfl,-,-,-,his⟩|⟨-,z4,hz4,hh4,rfl⟩⟩
 ·
  exact absurd his (hp_one _)
 obtain rfl:z4=60:=hh4 (by decide)
 have B4:=hid (BA3.out.trans (hb.mono BA3.out.size))
 have D4:=hid (D3.out.trans ((((Below.refl W3.heap.size W3).alloc nlr (.cells #[.int .u8 1] 5)).trans (hb.mono (le_alloc _ _))).mono (by have:=HZ3.out;omega)))
 have hrow4:=(((((Below.refl W3.heap.size W3).alloc nlr (.cells #[.int .u8 1] 5)).trans (hb.mono (le_alloc _ _))).block w3.heap.size (by have:=HZ3.out;omega))).trans HROW3.out
 have HROW4:=hid hrow4
 clear hb r4 hrow4 hz4 hh4
 go_wp2_with (first
  | (refine wpList_st18 rfl 73 (.tmp 5) (.tmp 25) rfl _ rfl rfl _ _ (heap_alloc_new w4 _) info_bun rfl rfl ?_;intro W5 _ _ _ hbel hsz5;have BW5:=hid (hbel _ _ (B4.out.alloc B4.out.size _) B4.out.size);have D5:=hid (hbel _ _ ((Below.refl w4.heap.size w4).alloc nlr _) nlr);clear hbel hsz5)
  | fail)
 refine (C1.out _).mono ?_
 rintro e w6 ⟨hb,A6,rfl,hr⟩
 have B6:=hid (BW5.out.trans (hb.mono BW5.out.size))
 have D6:=hid (D5.out.trans (hb.mono D5.out.size))
 have BA6:=hid (B6.out.alloc B6.out.size (.cells #[.int .u8 0] 5))
 have r7:Rd (w6.alloc (.cells #[.int .u8 0] 5)) (w6.heap.size+1) (some ⟨w6.heap.size,0,none⟩) 1 [0]:=Rd.lit w6 _ rfl [0] 5 #[.int .u8 0] rfl 1 rfl
 have R6:RdL (w6.alloc (.cells #[.int .u8 0] 5)) (w6.heap.size+1) A6 1 [bPl]:=(hr.unmask_.below ((Below.refl w6.heap.size w6).alloc nlr _)).more (Nat.le_succ _)
 have C4:Hid (Calls Tryz.prog 92 #[bunV hPl A6 1 1,.agg #[.int .u64 7,.int .u64 2,.int .u64 0,.int .i64 0,.slice (some ⟨w6.heap.size,0,none⟩) 1 1]] (w6.alloc (.cells #[.int .u8 0] 5)) (PutU hPl [bPl] xPl (w6.alloc (.cells #[.int .u8 0] 5)))) :=
  uput_any S hPl [bPl] A6 1 1 (w6.heap.size+1) xPl (some ⟨w6.heap.size,0,none⟩) 1 1 _ (HSW.out _ BA6.out) hPl_bd R6 (Nat.le_of_eq (by simp)) nlr ⟨by decide,by decide,by decide⟩ ⟨by decide,by decide⟩ r7
 clear hb hr r7 R6
 unfold bunV at *
 go_wp2_with fail
 refine C4.out.mono ?_
 rintro e w7 ⟨hb,⟨-,-,A7,n7,c7,rfl,hr7,hc7⟩|⟨hno,-⟩⟩
 case inr=>exact absurd ⟨hp_c,hp_pc⟩ hno
 obtain rfl:2=n7:=hr7.1
 have B7:=hid (BA6.out.trans (hb.mono BA6.out.size))
 have R7:=hid (And.intro hr7.unmask_ hc7)
 have D7:=hid (D6.out.trans (((Below.refl w6.heap.size w6).alloc nlr (.cells #[.int .u8 0] 5)).trans (hb.mono (le_alloc _ _)) |>.mono D6.out.size))
 clear hb hr7 hc7
 unfold bunV at *
 go_wp2_with (first
  | (refine wpList_st18 rfl 73 (.tmp 7) (.tmp 32) rfl _ rfl rfl _ _ (heap_alloc_new w7 _) info_bun rfl rfl ?_;intro W7 hrow7 _ _ hbel hsz7;have BW7:=hid (hbel _ _ (B7.out.alloc B7.out.size _) B7.out.size);have E7:=hid (hbel _ _ ((Below.refl w7.heap.size w7).alloc nlr _) nlr);have HROW7:=hid hrow7;have HZ7:Hid (W7.heap.size=w7.heap.size+1):=(by show _=_;rw [hsz7];simp);clear hbel hrow7 hsz7)
  | (refine wpList_ld18 rfl (.tmp 7) rfl _ rfl _ _ HROW7.out rfl ?_)
  | fail)
 have C5:Hid (Calls Tryz.prog 93 #[bunV hPl A7 2 c7,.int .u64 2] W7 (DropU hPl [xPl,bPl] 2 W7)) :=
  udrop_any S hPl [xPl,bPl] A7 2 c7 W7.heap.size 2 W7 (HSW.out _ BW7.out) hPl_bd ((R7.out.1.below E7.out).more (by have:=HZ7.out;omega)) nlr R7.out.2
 unfold bunV at *
 refine C5.out.mono ?_
 rintro e w8 ⟨hb,⟨k,-,hk,-,A8,n8,c8,rfl,hr8,hc8⟩|⟨hno,-⟩⟩
 case inr=>exact absurd ⟨hp_pc,by rw [hp_plc];decide,by rw [hp_plc];decide⟩ hno
 obtain rfl:k=0:=by rw [hp_plc] at hk;omega
 obtain rfl:1=n8:=hr8.1
 have B8:=hid (BW7.out.trans (hb.mono BW7.out.size))
 have R8:Hid (RdL w8 w8.heap.size A8 1 [bPl]∧1≤c8):=⟨hr8.unmask_,hc8⟩
 have D8:=hid hb
 clear hb hr8 hc8 hk
 unfold bunV at *
 go_wp2_with (first
  | (refine wpList_st18 rfl 73 (.tmp 9) (.tmp 37) rfl _ rfl rfl _ _ (heap_alloc_new w8 _) info_bun rfl rfl ?_;intro W8 hrow8 _ _ hbel hsz8;have BW8:=hid (hbel _ _ (B8.out.alloc B8.out.size _) B8.out.size);have E8:=hid (hbel _ _ ((Below.refl w8.heap.size w8).alloc nlr _) nlr);have HROW8:=hid hrow8;have HZ8:Hid (W8.heap.size=w8.heap.size+1):=(by show _=_;rw [hsz8];simp);clear hbel hrow8 hsz8)
  | fail)
 refine (C1.out _).mono ?_
 rintro e w9 ⟨hb,A9,rfl,hr⟩
 have B9:=hid (BW8.out.trans (hb.mono BW8.out.size))
 have R9:=hid hr.unmask_
 have E9:=hid hb
 clear hb hr
 unfold bunV at *
 go_wp2_with (first
  | (refine wpList_st18 rfl 73 (.tmp 11) (.tmp 39) rfl _ rfl rfl _ _ (heap_alloc_new w9 _) info_bun rfl rfl ?_;intro W9 hrow9 _ _ hbel hsz9;have BW9:=hid (hbel _ _ (B9.out.alloc B9.out.size _) B9.out.size);have F9:=hid (hbel _ _ ((Below.refl w9.heap.size w9).alloc nlr _) nlr);have HROW9:=hid hrow9;have HZ9:Hid (W9.heap.size=w9.heap.size+1):=(by show _=_;rw [hsz9];simp);have g0:=cell_row hrow9 0 rfl;have gf:=row_free hrow9 0;clear hbel hrow9 hsz9)
  | fail)
 have hrow9':=set0 (.int .u64 1) HROW9.out
 have BWR:=hid (BW9.out.setCell (p:=⟨w9.heap.size,0,none⟩) (by show w.heap.size≤w9.heap.size;exact B9.out.size) (.int .u64 1))
 have F9':=hid (F9.out.setCell (p:=⟨w9.heap.size,0,none⟩) nlr (.int .u64 1))
 have FF:=hid (E9.out.trans (F9'.out.mono E9.out.size))
 have FE:=hid (E8.out.trans (FF.out.mono E8.out.size))
 have FD:=hid (D8.out.trans (FE.out.mono D8.out.size))
 have FC:=hid (E7.out.trans (FD.out.mono E7.out.size))
 have FB:=hid (D7.out.trans (FC.out.mono D7.out.size))
 have HRW8:=hid ((FF.out.block w8.heap.size (by have:=HZ8.out;omega)).trans HROW8.out)
 have HRW7:=hid ((FD.out.block w7.heap.size (by have:=HZ7.out;omega)).trans HROW7.out)
 have HRW3:=hid ((FB.out.block w3.heap.size (Array.getElem?_eq_some_iff.1 HROW4.out).1).trans HROW4.out)
 have HRW9:=hid hrow9'
 have HR3:=hid (((R3.out.below D4.out).below (FB.out.mono D4.out.size)).more (Nat.le_trans D4.out.size FB.out.size))
 have HR7:=hid ((R7.out.1.below FC.out).more FC.out.size)
 have HR8:=hid ((R8.out.1.below FE.out).more FE.out.size)
 have HR9:=hid ((R9.out.below F9'.out).more F9'.out.size)
 have HC7:Hid (2≤c7):=R7.out.2
 have HC8:Hid (1≤c8):=R8.out.2
 clear hrow9' g0 gf BW9 HROW9 F9 FF FE FD FC FB F9' HROW8 HROW7 HROW4 R3 R7 R8 R9 HROW3
 generalize W9.setCell ⟨w9.heap.size,0,none⟩ (.int .u64 1)=WR at *
 have HSR:=hid (fun (W:World) (hW:Below WR.heap.size WR W)=>HSW.out W (BWR.out.trans (hW.mono BWR.out.size)))
 have HPAY:=hid hp_pay
 refine wp_region_held_drew (S:=fun W=>Below WR.heap.size WR W) (by kernel_rfl) Below.drew_ (fun hHeld=>?_)
 have BC:=hid hHeld
 refine takeW18 (i:=0) (v:=?v0) rfl (by kernel_rfl) (by kernel_rfl) (by kernel_rfl) (fun _ _ _ h=>h) (by rfl) ?hy0 (by assumption) ?rest0
 case hy0=>(intro w hSw;go_simp;try with_reducible rfl)
 try simp only [Act.put,List.setIfInBounds_toArray,List.set_cons_zero,List.set_cons_succ]
 refine takeW18 (i:=1) (v:=?v1) rfl (by kernel_rfl) (by kernel_rfl) (by kernel_rfl) (fun _ _ _ h=>h) (by rfl) ?hy1 (by assumption) ?rest1
 case hy1=>(intro w hSw;go_simp;try with_reducible rfl)
 try simp only [Act.put,List.setIfInBounds_toArray,List.set_cons_zero,List.set_cons_succ]
 refine takeW18 (i:=2) (v:=?v2) rfl (by kernel_rfl) (by kernel_rfl) (by kernel_rfl) (fun _ _ _ h=>h) (by rfl) ?hy2 (by assumption) ?rest2
 case hy2=>(intro w hSw;go_simp;try with_reducible rfl)
 try simp only [Act.put,List.setIfInBounds_toArray,List.set_cons_zero,List.set_cons_succ]
 refine takeW18 (i:=3) (v:=?v3) rfl (by kernel_rfl) (by kernel_rfl) (by kernel_rfl) (fun _ _ _ h=>h) (by rfl) ?hy3 (by assumption) ?rest3
 case hy3=>(intro w hSw;go_simp;try with_reducible rfl)
 try simp only [Act.put,List.setIfInBounds_toArray,List.set_cons_zero,List.set_cons_succ]
 refine takeW18 (i:=4) (v:=?v4) rfl (by kernel_rfl) (by kernel_rfl) (by kernel_rfl) (fun _ _ _ h=>h) (by rfl) ?hy4 (by assumption) ?rest4
 case hy4=>(intro w hSw;go_simp;try with_reducible rfl)
 try simp only [Act.put,List.setIfInBounds_toArray,List.set_cons_zero,List.set_cons_succ]
 refine takeW18 (i:=5) (v:=?v5) rfl (by kernel_rfl) (by kernel_rfl) (by kernel_rfl) (fun _ _ _ h=>h) (by rfl) ?hy5 (by assumption) ?rest5
 case hy5=>(intro w hSw;go_simp;try with_reducible rfl)
 try simp only [Act.put,List.setIfInBounds_toArray,List.set_cons_zero,List.set_cons_succ]
 refine takeW18 (i:=6) (v:=?v6) rfl (by kernel_rfl) (by kernel_rfl) (by kernel_rfl) (fun _ _ _ h=>h) (by rfl) ?hy6 (by assumption) ?rest6
 case hy6=>(intro w hSw;go_simp;try with_reducible rfl)
 try simp only [Act.put,List.setIfInBounds_toArray,List.set_cons_zero,List.set_cons_succ]
 refine takeW18 (i:=7) rfl (by kernel_rfl) (by kernel_rfl) (by kernel_rfl) (fun _ _ _ h=>h) (by rfl) (fun W hW=>exec_ld18 rfl rfl ((hW.block _ (Array.getElem?_eq_some_iff.1 HRW3.out).1).trans HRW3.out) rfl) (by assumption) ?_
 try simp only [Act.put,List.setIfInBounds_toArray,List.set_cons_zero,List.set_cons_succ]
 refine wpAnyH_ready (rs:=[8]) (by kernel_rfl) (by simp) ?_
 refine AllReadyH.cons rfl (fun K hK=>?_) AllReadyH.nil
 rw [if_pos (by rfl)]
 go_simp
 refine (C1.out _).mono ?_
 rintro e wa ⟨hb,Aa,rfl,hrAa⟩
 replace BC:=hid (BC.out.trans (hb.mono BC.out.size))
 have RAa:=hid hrAa.unmask_
 clear hrAa
 unfold bunV at *
 clear hb
 go_simp
 refine hK.out _ _ BC.out (fun hHeld=>?_)
 try simp only [Act.put,List.setIfInBounds_toArray,List.set_cons_zero,List.set_cons_succ]
 clear hK K
 refine wpAnyH_ready (rs:=[9]) (by kernel_rfl) (by simp) ?_
 refine AllReadyH.cons rfl (fun K hK=>?_) AllReadyH.nil
 rw [if_pos (by rfl)]
 go_simp
 refine (rsameU_true hPl [bPl] A3 Aa 1 c3 1 wa.heap.size wa ((HR3.out.below BC.out).more BC.out.size) RAa.out nlr).mono ?_
 rintro e wb ⟨rfl,hb⟩
 replace BC:=hid (BC.out.trans (hb.mono BC.out.size))
 clear hb
 go_simp
 refine hK.out _ _ BC.out (fun hHeld=>?_)
 try simp only [Act.put,List.setIfInBounds_toArray,List.set_cons_zero,List.set_cons_succ]
 clear hK K
 refine takeW18 (i:=10) (v:=?v10) rfl (by kernel_rfl) (by kernel_rfl) (by kernel_rfl) (fun _ _ _ h=>h) (by rfl) ?hy10 (by assumption) ?rest10
 case hy10=>(intro w hSw;go_simp;try with_reducible rfl)
 try simp only [Act.put,List.setIfInBounds_toArray,List.set_cons_zero,List.set_cons_succ]
 refine takeW18 (i:=11) (v:=?v11) rfl (by kernel_rfl) (by kernel_rfl) (by kernel_rfl) (fun _ _ _ h=>h) (by rfl) ?hy11 (by assumption) ?rest11
 case hy11=>(intro w hSw;go_simp;try with_reducible rfl)
 try simp only [Act.put,List.setIfInBounds_toArray,List.set_cons_zero,List.set_cons_succ]
 refine takeW18 (i:=12) rfl (by kernel_rfl) (by kernel_rfl) (by kernel_rfl) (fun _ _ _ h=>h) (by rfl) (fun W hW=>exec_ld18 rfl rfl ((hW.block _ (Array.getElem?_eq_some_iff.1 HRW3.out).1).trans HRW3.out) rfl) (by assumption) ?_
 try simp only [Act.put,List.setIfInBounds_toArray,List.set_cons_zero,List.set_cons_succ]
 refine wpAnyH_ready (rs:=[13]) (by kernel_rfl) (by simp) ?_
 refine AllReadyH.cons rfl (fun K hK=>?_) AllReadyH.nil
 rw [if_pos (by rfl)]
 go_simp
 refine (ukey_any S hPl [bPl] A3 1 c3 wb.heap.size wb (HSR.out _ BC.out) hPl_bd ((HR3.out.below BC.out).more BC.out.size) nlr HC3.out).mono ?_
 rintro e wc ⟨rfl,hb⟩
 replace BC:=hid (BC.out.trans (hb.mono BC.out.size))
 rw [hp_keyS]
 clear hb
 go_simp
 refine hK.out _ _ BC.out (fun hHeld=>?_)
 try simp only [Act.put,List.setIfInBounds_toArray,List.set_cons_zero,List.set_cons_succ]
 clear hK K
 refine takeW18 (i:=14) (v:=?v14) rfl (by kernel_rfl) (by kernel_rfl) (by kernel_rfl) (fun _ _ _ h=>h) (by rfl) ?hy14 (by assumption) ?rest14
 case hy14=>(intro w hSw;go_simp;try with_reducible rfl)
 try simp only [Act.put,List.setIfInBounds_toArray,List.set_cons_zero,List.set_cons_succ]
 refine takeW18 (i:=15) (v:=?v15) rfl (by kernel_rfl) (by kernel_rfl) (by kernel_rfl) (fun _ _ _ h=>h) (by rfl) ?hy15 (by assumption) ?rest15
 case hy15=>(intro w hSw;go_simp;try with_reducible rfl)
 try simp only [Act.put,List.setIfInBounds_toArray,List.set_cons_zero,List.set_cons_succ]
 refine takeW18 (i:=16) (v:=?v16) rfl (by kernel_rfl) (by kernel_rfl) (by kernel_rfl) (fun _ _ _ h=>h) (by rfl) ?hy16 (by assumption) ?rest16
 case hy16=>(intro w hSw;go_simp;try with_reducible rfl)
 try simp only [Act.put,List.setIfInBounds_toArray,List.set_cons_zero,List.set_cons_succ]
 refine takeW18 (i:=17) rfl (by kernel_rfl) (by kernel_rfl) (by kernel_rfl) (fun _ _ _ h=>h) (by rfl) (fun W hW=>exec_ld18 rfl rfl ((hW.block _ (Array.getElem?_eq_some_iff.1 HRW3.out).1).trans HRW3.out) rfl) (by assumption) ?_
 try simp only [Act.put,List.setIfInBounds_toArray,List.set_cons_zero,List.set_cons_succ]
 refine wpAnyH_ready (rs:=[18]) (by kernel_rfl) (by simp) ?_
 refine AllReadyH.cons rfl (fun K hK=>?_) AllReadyH.nil
 rw [if_pos (by rfl)]
 go_simp
 refine (upay_any S hPl [bPl] A3 1 c3 wc.heap.size wc (HSR.out _ BC.out) hPl_bd ((HR3.out.below BC.out).more BC.out.size) nlr HC3.out).mono ?_
 rintro e wd ⟨vd,rfl,hod,hb⟩
 replace BC:=hid (BC.out.trans (hb.mono BC.out.size))
 rw [HPAY.out] at hod
 obtain ⟨Ad,cd,rfl,-,-,hrd⟩:=hod.rdn (n:=2) rfl
 have STR:=run_str (P:=Tryz.prog) (c:=cd) hrd 27 5 9 Tryz.underlying27 Tryz.underlying5 Tryz.underlying9
 clear hod hrd
 clear hb
 go_simp
 refine hK.out _ _ BC.out (fun hHeld=>?_)
 try simp only [Act.put,List.setIfInBounds_toArray,List.set_cons_zero,List.set_cons_succ]
 clear hK K
 refine wpAnyH_ready (rs:=[19]) (by kernel_rfl) (by simp) ?_
 refine AllReadyH.cons rfl (fun K hK=>?_) AllReadyH.nil
 rw [if_pos (by rfl)]
 go_simp
 refine hK.out _ _ BC.out (fun hHeld=>?_)
 try simp only [Act.put,List.setIfInBounds_toArray,List.set_cons_zero,List.set_cons_succ]
 clear hK K STR
 refine takeW18 (i:=20) (v:=?v20) rfl (by kernel_rfl) (by kernel_rfl) (by kernel_rfl) (fun _ _ _ h=>h) (by rfl) ?hy20 (by assumption) ?rest20
 case hy20=>(intro w hSw;go_simp;try with_reducible rfl)
 try simp only [Act.put,List.setIfInBounds_toArray,List.set_cons_zero,List.set_cons_succ]
 refine takeW18 (i:=21) (v:=?v21) rfl (by kernel_rfl) (by kernel_rfl) (by kernel_rfl) (fun _ _ _ h=>h) (by rfl) ?hy21 (by assumption) ?rest21
 case hy21=>(intro w hSw;go_simp;try with_reducible rfl)
 try simp only [Act.put,List.setIfInBounds_toArray,List.set_cons_zero,List.set_cons_succ]
 refine takeW18 (i:=22) (v:=?v22) rfl (by kernel_rfl) (by kernel_rfl) (by kernel_rfl) (fun _ _ _ h=>h) (by rfl) ?hy22 (by assumption) ?rest22
 case hy22=>(intro w hSw;go_simp;try with_reducible rfl)
 try simp only [Act.put,List.setIfInBounds_toArray,List.set_cons_zero,List.set_cons_succ]
 refine takeW18 (i:=23) (v:=?v23) rfl (by kernel_rfl) (by kernel_rfl) (by kernel_rfl) (fun _ _ _ h=>h) (by rfl) ?hy23 (by assumption) ?rest23
 case hy23=>(intro w hSw;go_simp;try with_reducible rfl)
 try simp only [Act.put,List.setIfInBounds_toArray,List.set_cons_zero,List.set_cons_succ]
 refine takeW18 (i:=24) (v:=?v24) rfl (by kernel_rfl) (by kernel_rfl) (by kernel_rfl) (fun _ _ _ h=>h) (by rfl) ?hy24 (by assumption) ?rest24
 case hy24=>(intro w hSw;go_simp;try with_reducible rfl)
 try simp only [Act.put,List.setIfInBounds_toArray,List.set_cons_zero,List.set_cons_succ]
 refine takeW18 (i:=25) (v:=?v25) rfl (by kernel_rfl) (by kernel_rfl) (by kernel_rfl) (fun _ _ _ h=>h) (by rfl) ?hy25 (by assumption) ?rest25
 case hy25=>(intro w hSw;go_simp;try with_reducible rfl)
 try simp only [Act.put,List.setIfInBounds_toArray,List.set_cons_zero,List.set_cons_succ]
 refine takeW18 (i:=26) (v:=?v26) rfl (by kernel_rfl) (by kernel_rfl) (by kernel_rfl) (fun _ _ _ h=>h) (by rfl) ?hy26 (by assumption) ?rest26
 case hy26=>(intro w hSw;go_simp;try with_reducible rfl)
 try simp only [Act.put,List.setIfInBounds_toArray,List.set_cons_zero,List.set_cons_succ]
 refine takeW18 (i:=27) (v:=?v27) rfl (by kernel_rfl) (by kernel_rfl) (by kernel_rfl) (fun _ _ _ h=>h) (by rfl) ?hy27 (by assumption) ?rest27
 case hy27=>(intro w hSw;go_simp;try with_reducible rfl)
 try simp only [Act.put,List.setIfInBounds_toArray,List.set_cons_zero,List.set_cons_succ]
 refine takeW18 (i:=28) (v:=?v28) rfl (by kernel_rfl) (by kernel_rfl) (by kernel_rfl) (fun _ _ _ h=>h) (by rfl) ?hy28 (by assumption) ?rest28
 case hy28=>(intro w hSw;go_simp;try with_reducible rfl)
 try simp only [Act.put,List.setIfInBounds_toArray,List.set_cons_zero,List.set_cons_succ]
 refine takeW18 (i:=29) (v:=?v29) rfl (by kernel_rfl) (by kernel_rfl) (by kernel_rfl) (fun _ _ _ h=>h) (by rfl) ?hy29 (by assumption) ?rest29
 case hy29=>(intro w hSw;go_simp;try with_reducible rfl)
 try simp only [Act.put,List.setIfInBounds_toArray,List.set_cons_zero,List.set_cons_succ]
 refine takeW18 (i:=30) (v:=?v30) rfl (by kernel_rfl) (by kernel_rfl) (by kernel_rfl) (fun _ _ _ h=>h) (by rfl) ?hy30 (by assumption) ?rest30
 case hy30=>(intro w hSw;go_simp;try with_reducible rfl)
 try simp only [Act.put,List.setIfInBounds_toArray,List.set_cons_zero,List.set_cons_succ]
 refine takeW18 (i:=31) rfl (by kernel_rfl) (by kernel_rfl) (by kernel_rfl) (fun _ _ _ h=>h) (by rfl) (fun W hW=>exec_ld18 rfl rfl ((hW.block _ (Array.getElem?_eq_some_iff.1 HRW7.out).1).trans HRW7.out) rfl) (by assumption) ?_
 try simp only [Act.put,List.setIfInBounds_toArray,List.set_cons_zero,List.set_cons_succ]
 refine wpAnyH_ready (rs:=[32]) (by kernel_rfl) (by simp) ?_
 refine AllReadyH.cons rfl (fun K hK=>?_) AllReadyH.nil
 rw [if_pos (by rfl)]
 go_simp
 refine (ufind_any hPl [xPl,bPl] A7 2 c7 wd.heap.size 2 wd ((HR7.out.below BC.out).more BC.out.size) nlr).mono ?_
 rintro e wf ⟨rfl,hb⟩
 replace BC:=hid (BC.out.trans (hb.mono BC.out.size))
 rw [hp_plc]
 clear hb
 go_simp
 refine hK.out _ _ BC.out (fun hHeld=>?_)
 try simp only [Act.put,List.setIfInBounds_toArray,List.set_cons_zero,List.set_cons_succ]
 clear hK K
 refine takeW18 (i:=33) (v:=?v33) rfl (by kernel_rfl) (by kernel_rfl) (by kernel_rfl) (fun _ _ _ h=>h) (by rfl) ?hy33 (by assumption) ?rest33
 case hy33=>(intro w hSw;go_simp;try with_reducible rfl)
 try simp only [Act.put,List.setIfInBounds_toArray,List.set_cons_zero,List.set_cons_succ]
 refine takeW18 (i:=34) (v:=?v34) rfl (by kernel_rfl) (by kernel_rfl) (by kernel_rfl) (fun _ _ _ h=>h) (by rfl) ?hy34 (by assumption) ?rest34
 case hy34=>(intro w hSw;go_simp;try with_reducible rfl)
 try simp only [Act.put,List.setIfInBounds_toArray,List.set_cons_zero,List.set_cons_succ]
 refine takeW18 (i:=35) (v:=?v35) rfl (by kernel_rfl) (by kernel_rfl) (by kernel_rfl) (fun _ _ _ h=>h) (by rfl) ?hy35 (by assumption) ?rest35
 case hy35=>(intro w hSw;go_simp;try with_reducible rfl)
 try simp only [Act.put,List.setIfInBounds_toArray,List.set_cons_zero,List.set_cons_succ]
 refine takeW18 (i:=36) (v:=?v36) rfl (by kernel_rfl) (by kernel_rfl) (by kernel_rfl) (fun _ _ _ h=>h) (by rfl) ?hy36 (by assumption) ?rest36
 case hy36=>(intro w hSw;go_simp;try with_reducible rfl)
 try simp only [Act.put,List.setIfInBounds_toArray,List.set_cons_zero,List.set_cons_succ]
 refine takeW18 (i:=37) (v:=?v37) rfl (by kernel_rfl) (by kernel_rfl) (by kernel_rfl) (fun _ _ _ h=>h) (by rfl) ?hy37 (by assumption) ?rest37
 case hy37=>(intro w hSw;go_simp;try with_reducible rfl)
 try simp only [Act.put,List.setIfInBounds_toArray,List.set_cons_zero,List.set_cons_succ]
 refine takeW18 (i:=38) (v:=?v38) rfl (by kernel_rfl) (by kernel_rfl) (by kernel_rfl) (fun _ _ _ h=>h) (by rfl) ?hy38 (by assumption) ?rest38
 case hy38=>(intro w hSw;go_simp;try with_reducible rfl)
 try simp only [Act.put,List.setIfInBounds_toArray,List.set_cons_zero,List.set_cons_succ]
 refine takeW18 (i:=39) (v:=?v39) rfl (by kernel_rfl) (by kernel_rfl) (by kernel_rfl) (fun _ _ _ h=>h) (by rfl) ?hy39 (by assumption) ?rest39
 case hy39=>(intro w hSw;go_simp;try with_reducible rfl)
 try simp only [Act.put,List.setIfInBounds_toArray,List.set_cons_zero,List.set_cons_succ]
 refine takeW18 (i:=40) rfl (by kernel_rfl) (by kernel_rfl) (by kernel_rfl) (fun _ _ _ h=>h) (by rfl) (fun W hW=>exec_ld18 rfl rfl ((hW.block _ (Array.getElem?_eq_some_iff.1 HRW8.out).1).trans HRW8.out) rfl) (by assumption) ?_
 try simp only [Act.put,List.setIfInBounds_toArray,List.set_cons_zero,List.set_cons_succ]
 refine wpAnyH_ready (rs:=[41]) (by kernel_rfl) (by simp) ?_
 refine AllReadyH.cons rfl (fun K hK=>?_) AllReadyH.nil
 rw [if_pos (by rfl)]
 go_simp
 refine (C1.out _).mono ?_
 rintro e wg ⟨hb,Ag,rfl,hrAg⟩
 replace BC:=hid (BC.out.trans (hb.mono BC.out.size))
 have RAg:=hid hrAg.unmask_
 clear hrAg
 unfold bunV at *
 clear hb
 go_simp
 refine hK.out _ _ BC.out (fun hHeld=>?_)
 try simp only [Act.put,List.setIfInBounds_toArray,List.set_cons_zero,List.set_cons_succ]
 clear hK K
 refine wpAnyH_ready (rs:=[42]) (by kernel_rfl) (by simp) ?_
 refine AllReadyH.cons rfl (fun K hK=>?_) AllReadyH.nil
 rw [if_pos (by rfl)]
 go_simp
 refine (rsameU_true hPl [bPl] A8 Ag 1 c8 1 wg.heap.size wg ((HR8.out.below BC.out).more BC.out.size) RAg.out nlr).mono ?_
 rintro e wh ⟨rfl,hb⟩
 replace BC:=hid (BC.out.trans (hb.mono BC.out.size))
 clear hb
 go_simp
 refine hK.out _ _ BC.out (fun hHeld=>?_)
 try simp only [Act.put,List.setIfInBounds_toArray,List.set_cons_zero,List.set_cons_succ]
 clear hK K
 refine takeW18 (i:=43) (v:=?v43) rfl (by kernel_rfl) (by kernel_rfl) (by kernel_rfl) (fun _ _ _ h=>h) (by rfl) ?hy43 (by assumption) ?rest43
 case hy43=>(intro w hSw;go_simp;try with_reducible rfl)
 try simp only [Act.put,List.setIfInBounds_toArray,List.set_cons_zero,List.set_cons_succ]
 refine takeW18 (i:=44) (v:=?v44) rfl (by kernel_rfl) (by kernel_rfl) (by kernel_rfl) (fun _ _ _ h=>h) (by rfl) ?hy44 (by assumption) ?rest44
 case hy44=>(intro w hSw;go_simp;try with_reducible rfl)
 try simp only [Act.put,List.setIfInBounds_toArray,List.set_cons_zero,List.set_cons_succ]
 refine takeW18 (i:=45) rfl (by kernel_rfl) (by kernel_rfl) (by kernel_rfl) (fun _ _ _ h=>h) (by rfl) (fun W hW=>exec_ld18 rfl rfl ((hW.block _ (Array.getElem?_eq_some_iff.1 HRW9.out).1).trans HRW9.out) rfl) (by assumption) ?_
 try simp only [Act.put,List.setIfInBounds_toArray,List.set_cons_zero,List.set_cons_succ]
 refine wpAnyH_ready (rs:=[46]) (by kernel_rfl) (by simp) ?_
 refine AllReadyH.cons rfl (fun K hK=>?_) AllReadyH.nil
 rw [if_pos (by rfl)]
 go_simp
 refine (ucCheck_any S { hPl with flg:=1 } [bPl] A9 1 1 wh.heap.size wh (HSR.out _ BC.out) hPl_bd1 ((HR9.out.below BC.out).more BC.out.size) nlr nlr).mono ?_
 rintro e wi ⟨rfl,hb⟩
 replace BC:=hid (BC.out.trans (hb.mono BC.out.size))
 rw [hp_frag]
 clear hb
 go_simp
 refine hK.out _ _ BC.out (fun hHeld=>?_)
 try simp only [Act.put,List.setIfInBounds_toArray,List.set_cons_zero,List.set_cons_succ]
 clear hK K
 refine takeW18 (i:=47) (v:=?v47) rfl (by kernel_rfl) (by kernel_rfl) (by kernel_rfl) (fun _ _ _ h=>h) (by rfl) ?hy47 (by assumption) ?rest47
 case hy47=>(intro w hSw;go_simp;try with_reducible rfl)
 try simp only [Act.put,List.setIfInBounds_toArray,List.set_cons_zero,List.set_cons_succ]
 refine takeW18 (i:=48) (v:=?v48) rfl (by kernel_rfl) (by kernel_rfl) (by kernel_rfl) (fun _ _ _ h=>h) (by rfl) ?hy48 (by assumption) ?rest48
 case hy48=>(intro w hSw;go_simp;try with_reducible rfl)
 try simp only [Act.put,List.setIfInBounds_toArray,List.set_cons_zero,List.set_cons_succ]
 refine takeW18 (i:=49) (v:=?v49) rfl (by kernel_rfl) (by kernel_rfl) (by kernel_rfl) (fun _ _ _ h=>h) (by rfl) ?hy49 (by assumption) ?rest49
 case hy49=>(intro w hSw;go_simp;try with_reducible rfl)
 try simp only [Act.put,List.setIfInBounds_toArray,List.set_cons_zero]
 refine wpAnyH_done (by kernel_rfl) ?_ _
 go_wp2_with fail
 go_ret
 exact ⟨rfl,BWR.out.trans (BC.out.mono BWR.out.size)⟩
end Go.Proofs.YtlecbblmaadpiaaGreatDoor
