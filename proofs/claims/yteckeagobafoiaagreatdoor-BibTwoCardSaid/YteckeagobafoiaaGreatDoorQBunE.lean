import Derived.Test.YteckeagobafoiaaGreatDoorQBunS
import Derived.Test.YteckeagobafoiaaGreatDoorQRfG
import Derived.Test.YteckeagobafoiaaGreatDoorQShaT
import Derived.Deep.RegionHeld3
import Derived.Deep.AppendLies
import Derived.Laws.MakeOwn
namespace Go.Proofs.YteckeagobafoiaaGreatDoor
set_option maxRecDepth 100000
set_option maxHeartbeats 16000000
open Go.RowKit
open Go.Lib (hid)
theorem uend_any (A:Snt) (sc:Int) (s:ByteArray) (n0 v0:Nat) (w:World) (hA:Lds A w) (hs:s.size≤140737488355328) (hn:n0<18446744073709551616) (hv:v0<18446744073709551616) (hc:checkB (ep sc s n0 v0)=true) :
  Calls Tryz.prog 231 #[epdV sc s n0 v0] w (GivesL w.heap.size (itemE (ep sc s n0 v0)) w):=by
 have HA1:=hid ((hA.alloc (.cells #[.int .i64 sc,.string s,.int .u64 (n0:Int),.int .u64 (v0:Int)] 25)).alloc (.cells #[.int .i64 0,.int .u64 0,.slice none 0 0,.slice none 0 0] 94))
 have C1:=hid (itemL_any A sc s n0 v0 _ HA1.out hs hn hv)
 have HB0:Hid (Below w.heap.size w ((w.alloc (.cells #[.int .i64 sc,.string s,.int .u64 (n0:Int),.int .u64 (v0:Int)] 25)).alloc (.cells #[.int .i64 0,.int .u64 0,.slice none 0 0,.slice none 0 0] 94))):=((Below.refl _ _).alloc (Nat.le_refl _) _).alloc (le_alloc _ _) _
 generalize ep sc s n0 v0=E at *
 clear hA hs hn hv
 unfold epdV at *
 go_enter Tryz.func231,Tryz.ntmps231
 go_wp2_with fail
 refine C1.out.mono ?_
 rintro e w1 ⟨hb,⟨-,v,rfl,hr⟩|⟨h,-⟩⟩
 case inr=>rw [hc] at h;cases h
 clear hc
 have HB1:=hid (hb.mono (show w.heap.size+2≤_ by simp))
 have HZ1:Hid (w.heap.size+2≤w1.heap.size):=by show _≤_;have h:=hb.size;simpa using h
 obtain ⟨k,m,D,nd,cd,AL,nl,cl,rfl⟩:=hr.form
 have hs2:((w.alloc (.cells #[.int .i64 sc,.string s,.int .u64 (n0:Int),.int .u64 (v0:Int)] 25)).alloc (.cells #[.int .i64 0,.int .u64 0,.slice none 0 0,.slice none 0 0] 94)).heap.size=w.heap.size+2:=by simp
 rw [hs2] at hr
 have hbx:=(Below.refl w1.heap.size w1).alloc (Nat.le_refl _) (.cells #[.int .i64 k,.int .u64 (m:Int),.slice D nd cd,.slice AL nl cl] 94)
 have HR:=hid (hr.grow hbx (Nat.le_refl _))
 have HB2:=hid (HB1.out.trans (hbx.mono HZ1.out))
 obtain ⟨⟨z0,z1,z2,z3⟩,f0,f1,f2,f3⟩:=zero4 (g:=w.heap.size+1) (by simp) HB2.out
 have HNE:Hid (¬ w.heap.size+1=w1.heap.size):=fun h=>by have:=HZ1.out;omega
 clear hr hb hs2 hbx
 go_wp2_with fail
 refine bodyPost_ret (v:=.agg #[.int .i64 k,.int .u64 (m:Int),.slice D nd cd,.slice AL nl cl]) (by simp [results,Tryz.results231,go_sem,z0,z1,z2,z3]) rfl ⟨_,rfl,?_,?_⟩
 ·
  exact HR.out.put4 (Nat.le_add_right _ 2) (Nat.lt_succ_self _) (Nat.le_of_eq size_put4.symm)
 ·
  exact below_set4 (HB0.out.trans (HB2.out.mono (Nat.le_add_right _ 2))) (Nat.le_succ _)
theorem usize_any (k:Int) (w:World):Calls Tryz.prog 232 #[.int .i64 k] w fun e w'=>e=.returned (.int .i64 (sumN k:Nat))∧Below w.heap.size w w':=by
 have C1:=hid (bytes_any k none 0 0 0 [] w Rd.nil_ (by decide))
 have hl:=crcBytes_len k []
 generalize crcBytes k []=q at *
 have HL:=hid hl
 clear hl
 go_enter Tryz.func232,Tryz.ntmps232
 go_wp2_with fail
 refine C1.out.mono ?_
 rintro e w1 ⟨A3,n3,c3,rfl,hr,-,hb⟩
 have e3:n3=sumN k:=hr.1.symm.trans HL.out
 subst e3
 have HB:=hid hb
 clear hb hr
 go_wp2_with fail
 go_ret
 exact ⟨rfl,HB.out⟩
theorem uitem_0 (S:Snt) (h:BH) (l:List Blk) (A:Option Addr) (n c:Nat) (w:World) (hS:Wd S w) (hd:h.Bd) (hw:Wr (h.bun l)) (hk:h.crc=0) :
  Calls Tryz.prog 207 #[bunV h A n c] w (GivesL w.heap.size (itmP (h.bun l) (nullsP (h.bun l))) w):=by
 have HX:Hid (itmP (h.bun l) (nullsP (h.bun l))=.mk 4 0 [] [.mk 0 7 [] [],.mk 0 h.flg [] [],.mk 0 0 [] [],itemE h.dst,itemE h.src,itemE h.rep,.mk 4 0 [] [.mk 0 h.tim [] [],.mk 0 h.seq [] []],.mk 0 h.lif [] []]):=by show _=_;unfold itmP partsP nullsP BH.bun;simp only [hk];rfl
 rw [HX.out]
 have HT:=hid (And.intro hd.flg (And.intro hd.tim (And.intro hd.seq hd.lif)))
 have hB0:=(((Below.refl w.heap.size w).alloc (Nat.le_refl _) (.cells #[.int .u64 (h.flg:Int),.int .i64 0,.int .i64 h.dsc,.string h.dnm,.int .u64 (h.dn:Int),.int .u64 (h.dv:Int),.int .i64 h.ssc,.string h.snm,.int .u64 (h.sn:Int),.int .u64 (h.sv:Int),.int .i64 h.rsc,.string h.rnm,.int .u64 (h.rn:Int),.int .u64 (h.rv:Int),.int .u64 (h.tim:Int),.int .u64 (h.seq:Int),.int .u64 (h.lif:Int),.slice A n c] 28)).alloc (le_alloc _ _) (.cells #[.int .i64 0,.int .u64 0,.slice none 0 0,.slice none 0 0] 94))
 have hb1:=((Below.refl (w.heap.size+1) (w.alloc (.cells #[.int .u64 (h.flg:Int),.int .i64 0,.int .i64 h.dsc,.string h.dnm,.int .u64 (h.dn:Int),.int .u64 (h.dv:Int),.int .i64 h.ssc,.string h.snm,.int .u64 (h.sn:Int),.int .u64 (h.sv:Int),.int .i64 h.rsc,.string h.rnm,.int .u64 (h.rn:Int),.int .u64 (h.rv:Int),.int .u64 (h.tim:Int),.int .u64 (h.seq:Int),.int .u64 (h.lif:Int),.slice A n c] 28))).alloc (by simp) (.cells #[.int .i64 0,.int .u64 0,.slice none 0 0,.slice none 0 0] 94))
 have hs0:((w.alloc (.cells #[.int .u64 (h.flg:Int),.int .i64 0,.int .i64 h.dsc,.string h.dnm,.int .u64 (h.dn:Int),.int .u64 (h.dv:Int),.int .i64 h.ssc,.string h.snm,.int .u64 (h.sn:Int),.int .u64 (h.sv:Int),.int .i64 h.rsc,.string h.rnm,.int .u64 (h.rn:Int),.int .u64 (h.rv:Int),.int .u64 (h.tim:Int),.int .u64 (h.seq:Int),.int .u64 (h.lif:Int),.slice A n c] 28)).alloc (.cells #[.int .i64 0,.int .u64 0,.slice none 0 0,.slice none 0 0] 94)).heap.size=w.heap.size+2:=by simp
 have hz:=fun (W':World) (hb:Below (w.heap.size+2) ((w.alloc (.cells #[.int .u64 (h.flg:Int),.int .i64 0,.int .i64 h.dsc,.string h.dnm,.int .u64 (h.dn:Int),.int .u64 (h.dv:Int),.int .i64 h.ssc,.string h.snm,.int .u64 (h.sn:Int),.int .u64 (h.sv:Int),.int .i64 h.rsc,.string h.rnm,.int .u64 (h.rn:Int),.int .u64 (h.rv:Int),.int .u64 (h.tim:Int),.int .u64 (h.seq:Int),.int .u64 (h.lif:Int),.slice A n c] 28)).alloc (.cells #[.int .i64 0,.int .u64 0,.slice none 0 0,.slice none 0 0] 94)) W')=>zero4 (w:=w.alloc (.cells #[.int .u64 (h.flg:Int),.int .i64 0,.int .i64 h.dsc,.string h.dnm,.int .u64 (h.dn:Int),.int .u64 (h.dv:Int),.int .i64 h.ssc,.string h.snm,.int .u64 (h.sn:Int),.int .u64 (h.sv:Int),.int .i64 h.rsc,.string h.rnm,.int .u64 (h.rn:Int),.int .u64 (h.rv:Int),.int .u64 (h.tim:Int),.int .u64 (h.seq:Int),.int .u64 (h.lif:Int),.slice A n c] 28)) (g:=w.heap.size+1) (by simp) hb
 have hL:=(hS.lds.alloc (.cells #[.int .u64 (h.flg:Int),.int .i64 0,.int .i64 h.dsc,.string h.dnm,.int .u64 (h.dn:Int),.int .u64 (h.dv:Int),.int .i64 h.ssc,.string h.snm,.int .u64 (h.sn:Int),.int .u64 (h.sv:Int),.int .i64 h.rsc,.string h.rnm,.int .u64 (h.rn:Int),.int .u64 (h.rv:Int),.int .u64 (h.tim:Int),.int .u64 (h.seq:Int),.int .u64 (h.lif:Int),.slice A n c] 28)).alloc (.cells #[.int .i64 0,.int .u64 0,.slice none 0 0,.slice none 0 0] 94)
 have HY:Hid (∀ (W:World),Below ((w.alloc (.cells #[.int .u64 (h.flg:Int),.int .i64 0,.int .i64 h.dsc,.string h.dnm,.int .u64 (h.dn:Int),.int .u64 (h.dv:Int),.int .i64 h.ssc,.string h.snm,.int .u64 (h.sn:Int),.int .u64 (h.sv:Int),.int .i64 h.rsc,.string h.rnm,.int .u64 (h.rn:Int),.int .u64 (h.rv:Int),.int .u64 (h.tim:Int),.int .u64 (h.seq:Int),.int .u64 (h.lif:Int),.slice A n c] 28)).alloc (.cells #[.int .i64 0,.int .u64 0,.slice none 0 0,.slice none 0 0] 94)).heap.size ((w.alloc (.cells #[.int .u64 (h.flg:Int),.int .i64 0,.int .i64 h.dsc,.string h.dnm,.int .u64 (h.dn:Int),.int .u64 (h.dv:Int),.int .i64 h.ssc,.string h.snm,.int .u64 (h.sn:Int),.int .u64 (h.sv:Int),.int .i64 h.rsc,.string h.rnm,.int .u64 (h.rn:Int),.int .u64 (h.rv:Int),.int .u64 (h.tim:Int),.int .u64 (h.seq:Int),.int .u64 (h.lif:Int),.slice A n c] 28)).alloc (.cells #[.int .i64 0,.int .u64 0,.slice none 0 0,.slice none 0 0] 94)) W→W.cell? ⟨w.heap.size,0,none⟩=some (.int .u64 (h.flg:Int))∧W.cell? ⟨w.heap.size,1,none⟩=some (.int .i64 0)∧W.cell? ⟨w.heap.size,2,none⟩=some (.int .i64 h.dsc)∧W.cell? ⟨w.heap.size,3,none⟩=some (.string h.dnm)∧W.cell? ⟨w.heap.size,4,none⟩=some (.int .u64 (h.dn:Int))∧W.cell? ⟨w.heap.size,5,none⟩=some (.int .u64 (h.dv:Int))∧W.cell? ⟨w.heap.size,6,none⟩=some (.int .i64 h.ssc)∧W.cell? ⟨w.heap.size,7,none⟩=some (.string h.snm)∧W.cell? ⟨w.heap.size,8,none⟩=some (.int .u64 (h.sn:Int))∧W.cell? ⟨w.heap.size,9,none⟩=some (.int .u64 (h.sv:Int))∧W.cell? ⟨w.heap.size,10,none⟩=some (.int .i64 h.rsc)∧W.cell? ⟨w.heap.size,11,none⟩=some (.string h.rnm)∧W.cell? ⟨w.heap.size,12,none⟩=some (.int .u64 (h.rn:Int))∧W.cell? ⟨w.heap.size,13,none⟩=some (.int .u64 (h.rv:Int))∧W.cell? ⟨w.heap.size,14,none⟩=some (.int .u64 (h.tim:Int))∧W.cell? ⟨w.heap.size,15,none⟩=some (.int .u64 (h.seq:Int))∧W.cell? ⟨w.heap.size,16,none⟩=some (.int .u64 (h.lif:Int))∧W.cell? ⟨w.heap.size,17,none⟩=some (.slice A n c)):=fun W hb=>box18 rfl (hb1.trans (hb.mono (by rw [hs0];exact Nat.le_succ _)))
 have E1:Hid (∀ (W:World),Below ((w.alloc (.cells #[.int .u64 (h.flg:Int),.int .i64 0,.int .i64 h.dsc,.string h.dnm,.int .u64 (h.dn:Int),.int .u64 (h.dv:Int),.int .i64 h.ssc,.string h.snm,.int .u64 (h.sn:Int),.int .u64 (h.sv:Int),.int .i64 h.rsc,.string h.rnm,.int .u64 (h.rn:Int),.int .u64 (h.rv:Int),.int .u64 (h.tim:Int),.int .u64 (h.seq:Int),.int .u64 (h.lif:Int),.slice A n c] 28)).alloc (.cells #[.int .i64 0,.int .u64 0,.slice none 0 0,.slice none 0 0] 94)).heap.size ((w.alloc (.cells #[.int .u64 (h.flg:Int),.int .i64 0,.int .i64 h.dsc,.string h.dnm,.int .u64 (h.dn:Int),.int .u64 (h.dv:Int),.int .i64 h.ssc,.string h.snm,.int .u64 (h.sn:Int),.int .u64 (h.sv:Int),.int .i64 h.rsc,.string h.rnm,.int .u64 (h.rn:Int),.int .u64 (h.rv:Int),.int .u64 (h.tim:Int),.int .u64 (h.seq:Int),.int .u64 (h.lif:Int),.slice A n c] 28)).alloc (.cells #[.int .i64 0,.int .u64 0,.slice none 0 0,.slice none 0 0] 94)) W→Calls Tryz.prog 231 #[epdV h.dsc h.dnm h.dn h.dv] W (GivesL W.heap.size (itemE h.dst) W)):=fun W hb=>uend_any S _ _ _ _ W (hL.below hb (Nat.le_refl _)) hd.dnm hd.dn hd.dv hw.2.1
 have E2:Hid (∀ (W:World),Below ((w.alloc (.cells #[.int .u64 (h.flg:Int),.int .i64 0,.int .i64 h.dsc,.string h.dnm,.int .u64 (h.dn:Int),.int .u64 (h.dv:Int),.int .i64 h.ssc,.string h.snm,.int .u64 (h.sn:Int),.int .u64 (h.sv:Int),.int .i64 h.rsc,.string h.rnm,.int .u64 (h.rn:Int),.int .u64 (h.rv:Int),.int .u64 (h.tim:Int),.int .u64 (h.seq:Int),.int .u64 (h.lif:Int),.slice A n c] 28)).alloc (.cells #[.int .i64 0,.int .u64 0,.slice none 0 0,.slice none 0 0] 94)).heap.size ((w.alloc (.cells #[.int .u64 (h.flg:Int),.int .i64 0,.int .i64 h.dsc,.string h.dnm,.int .u64 (h.dn:Int),.int .u64 (h.dv:Int),.int .i64 h.ssc,.string h.snm,.int .u64 (h.sn:Int),.int .u64 (h.sv:Int),.int .i64 h.rsc,.string h.rnm,.int .u64 (h.rn:Int),.int .u64 (h.rv:Int),.int .u64 (h.tim:Int),.int .u64 (h.seq:Int),.int .u64 (h.lif:Int),.slice A n c] 28)).alloc (.cells #[.int .i64 0,.int .u64 0,.slice none 0 0,.slice none 0 0] 94)) W→Calls Tryz.prog 231 #[epdV h.ssc h.snm h.sn h.sv] W (GivesL W.heap.size (itemE h.src) W)):=fun W hb=>uend_any S _ _ _ _ W (hL.below hb (Nat.le_refl _)) hd.snm hd.sn hd.sv hw.2.2.1
 have E3:Hid (∀ (W:World),Below ((w.alloc (.cells #[.int .u64 (h.flg:Int),.int .i64 0,.int .i64 h.dsc,.string h.dnm,.int .u64 (h.dn:Int),.int .u64 (h.dv:Int),.int .i64 h.ssc,.string h.snm,.int .u64 (h.sn:Int),.int .u64 (h.sv:Int),.int .i64 h.rsc,.string h.rnm,.int .u64 (h.rn:Int),.int .u64 (h.rv:Int),.int .u64 (h.tim:Int),.int .u64 (h.seq:Int),.int .u64 (h.lif:Int),.slice A n c] 28)).alloc (.cells #[.int .i64 0,.int .u64 0,.slice none 0 0,.slice none 0 0] 94)).heap.size ((w.alloc (.cells #[.int .u64 (h.flg:Int),.int .i64 0,.int .i64 h.dsc,.string h.dnm,.int .u64 (h.dn:Int),.int .u64 (h.dv:Int),.int .i64 h.ssc,.string h.snm,.int .u64 (h.sn:Int),.int .u64 (h.sv:Int),.int .i64 h.rsc,.string h.rnm,.int .u64 (h.rn:Int),.int .u64 (h.rv:Int),.int .u64 (h.tim:Int),.int .u64 (h.seq:Int),.int .u64 (h.lif:Int),.slice A n c] 28)).alloc (.cells #[.int .i64 0,.int .u64 0,.slice none 0 0,.slice none 0 0] 94)) W→Calls Tryz.prog 231 #[epdV h.rsc h.rnm h.rn h.rv] W (GivesL W.heap.size (itemE h.rep) W)):=fun W hb=>uend_any S _ _ _ _ W (hL.below hb (Nat.le_refl _)) hd.rnm hd.rn hd.rv hw.2.2.2
 have HZ:=hid hz
 have HB0:=hid hB0
 have CU:=hid cuintV
 have HPA:Hid (pars [.mk 0 7 [] [],.mk 0 h.flg [] [],.mk 0 0 [] [],itemE h.dst,itemE h.src,itemE h.rep,.mk 4 0 [] [.mk 0 h.tim [] [],.mk 0 h.seq [] []],.mk 0 h.lif [] []]≤30):=by
  show _≤_
  have p1:=(itemE_good hw.2.1).2.2
  have p2:=(itemE_good hw.2.2.1).2.2
  have p3:=(itemE_good hw.2.2.2).2.2
  have e1:(h.bun l).dst=h.dst:=rfl
  have e2:(h.bun l).src=h.src:=rfl
  have e3:(h.bun l).rep=h.rep:=rfl
  rw [e1] at p1
  rw [e2] at p2
  rw [e3] at p3
  simp [pars,par]
  omega
 clear hS hd hw hB0 hb1 hz hL
 unfold bunV epdV at *
 rw [hk]
 clear hk
 generalize itemE h.dst=ID at *
 generalize itemE h.src=IS at *
 generalize itemE h.rep=IR at *
 go_enter Tryz.func207,Tryz.ntmps207
 go_wp2_with fail
 generalize ((w.alloc (.cells #[.int .u64 (h.flg:Int),.int .i64 0,.int .i64 h.dsc,.string h.dnm,.int .u64 (h.dn:Int),.int .u64 (h.dv:Int),.int .i64 h.ssc,.string h.snm,.int .u64 (h.sn:Int),.int .u64 (h.sv:Int),.int .i64 h.rsc,.string h.rnm,.int .u64 (h.rn:Int),.int .u64 (h.rv:Int),.int .u64 (h.tim:Int),.int .u64 (h.seq:Int),.int .u64 (h.lif:Int),.slice A n c] 28)).alloc (.cells #[.int .i64 0,.int .u64 0,.slice none 0 0,.slice none 0 0] 94))=W0 at *
 have HS0:=hid hs0
 clear hs0
 go_region_held3 (fun W=>W.cell? ⟨w.heap.size,0,none⟩=some (.int .u64 (h.flg:Int))∧W.cell? ⟨w.heap.size,1,none⟩=some (.int .i64 0)∧W.cell? ⟨w.heap.size,2,none⟩=some (.int .i64 h.dsc)∧W.cell? ⟨w.heap.size,3,none⟩=some (.string h.dnm)∧W.cell? ⟨w.heap.size,4,none⟩=some (.int .u64 (h.dn:Int))∧W.cell? ⟨w.heap.size,5,none⟩=some (.int .u64 (h.dv:Int))∧W.cell? ⟨w.heap.size,6,none⟩=some (.int .i64 h.ssc)∧W.cell? ⟨w.heap.size,7,none⟩=some (.string h.snm)∧W.cell? ⟨w.heap.size,8,none⟩=some (.int .u64 (h.sn:Int))∧W.cell? ⟨w.heap.size,9,none⟩=some (.int .u64 (h.sv:Int))∧W.cell? ⟨w.heap.size,10,none⟩=some (.int .i64 h.rsc)∧W.cell? ⟨w.heap.size,11,none⟩=some (.string h.rnm)∧W.cell? ⟨w.heap.size,12,none⟩=some (.int .u64 (h.rn:Int))∧W.cell? ⟨w.heap.size,13,none⟩=some (.int .u64 (h.rv:Int))∧W.cell? ⟨w.heap.size,14,none⟩=some (.int .u64 (h.tim:Int))∧W.cell? ⟨w.heap.size,15,none⟩=some (.int .u64 (h.seq:Int))∧W.cell? ⟨w.heap.size,16,none⟩=some (.int .u64 (h.lif:Int))∧W.cell? ⟨w.heap.size,17,none⟩=some (.slice A n c))
  (first|(with_reducible exact HY.out _ B10.out)|(with_reducible exact HY.out _ B9.out)|(with_reducible exact HY.out _ B8.out)|(with_reducible exact HY.out _ B7.out)|(with_reducible exact HY.out _ B6.out)|(with_reducible exact HY.out _ B5.out)|(with_reducible exact HY.out _ B4.out)|(with_reducible exact HY.out _ B3.out)|(with_reducible exact HY.out _ B2.out)|(with_reducible exact HY.out _ B1.out)|(with_reducible exact HY.out _ (B8.out.alloc B8.out.size _))|(with_reducible exact HY.out _ (B10.out.alloc B10.out.size _))|(with_reducible exact HY.out _ (Below.refl _ _))|(with_reducible exact HY.out _ Below.drew_)|fail)
  (first
   | (go_at_call 152;have _g:=B9;clear _g;refine (CU.out _ _).mono ?_;rintro e w10 ⟨rfl,hb10⟩;have B10:=hid (Below.push B9.out (Nat.le_refl _) hb10);have D10:=hid hb10;clear hb10)
   | (go_at_call 153;refine (carray_two (lo:=w.heap.size+2) (by have:=B8.out.size;have:=HS0.out;omega) (RdI.mk_uint HT.out.2.1) (RdI.mk_uint HT.out.2.2.1) (by simp [pars,par])).mono ?_;rintro e w9 ⟨v9,rfl,hv9,hb9⟩;obtain ⟨k9,n9,A9,nd9,cd9,AL9,nl9,cl9,rfl⟩:=hv9.form;have V9:=hid hv9;have B9:=hid ((B8.out.alloc B8.out.size _).trans (hb9.mono (Nat.le_trans B8.out.size (le_alloc _ _))));have D9:Hid (Below w8.heap.size w8 w9):=((Below.refl _ w8).alloc (Nat.le_refl _) _).trans (hb9.mono (le_alloc _ _));clear hb9 hv9)
   | (go_at_call 152;have _g:=B7;clear _g;refine (CU.out _ _).mono ?_;rintro e w8 ⟨rfl,hb8⟩;have B8:=hid (Below.push B7.out (Nat.le_refl _) hb8);have D8:=hid hb8;clear hb8)
   | (go_at_call 152;have _g:=B6;clear _g;refine (CU.out _ _).mono ?_;rintro e w7 ⟨rfl,hb7⟩;have B7:=hid (Below.push B6.out (Nat.le_refl _) hb7);have D7:=hid hb7;clear hb7)
   | (go_at_call 231;have _g:=B5;clear _g;refine (E3.out _ B5.out).mono ?_;rintro e w6 ⟨v6,rfl,hv6,hb6⟩;obtain ⟨k6,n6,A6,nd6,cd6,AL6,nl6,cl6,rfl⟩:=hv6.form;have V6:=hid (hv6.grow (lo':=w.heap.size+2) (Below.refl _ _) (by have:=B5.out.size;have:=HS0.out;omega));clear hv6;have B6:=hid (Below.push B5.out (Nat.le_refl _) hb6);have D6:=hid hb6;clear hb6)
   | (go_at_call 231;have _g:=B4;clear _g;refine (E2.out _ B4.out).mono ?_;rintro e w5 ⟨v5,rfl,hv5,hb5⟩;obtain ⟨k5,n5,A5,nd5,cd5,AL5,nl5,cl5,rfl⟩:=hv5.form;have V5:=hid (hv5.grow (lo':=w.heap.size+2) (Below.refl _ _) (by have:=B4.out.size;have:=HS0.out;omega));clear hv5;have B5:=hid (Below.push B4.out (Nat.le_refl _) hb5);have D5:=hid hb5;clear hb5)
   | (go_at_call 231;have _g:=B3;clear _g;refine (E1.out _ B3.out).mono ?_;rintro e w4 ⟨v4,rfl,hv4,hb4⟩;obtain ⟨k4,n4,A4,nd4,cd4,AL4,nl4,cl4,rfl⟩:=hv4.form;have V4:=hid (hv4.grow (lo':=w.heap.size+2) (Below.refl _ _) (by have:=B3.out.size;have:=HS0.out;omega));clear hv4;have B4:=hid (Below.push B3.out (Nat.le_refl _) hb4);have D4:=hid hb4;clear hb4)
   | (go_at_call 152;have _g:=B2;clear _g;refine (CU.out _ _).mono ?_;rintro e w3 ⟨rfl,hb3⟩;have B3:=hid (Below.push B2.out (Nat.le_refl _) hb3);have D3:=hid hb3;clear hb3)
   | (go_at_call 152;have _g:=B1;clear _g;refine (CU.out _ _).mono ?_;rintro e w2 ⟨rfl,hb2⟩;have B2:=hid (Below.push B1.out (Nat.le_refl _) hb2);have D2:=hid hb2;clear hb2)
   | (go_at_call 152;refine (CU.out _ _).mono ?_;rintro e w1 ⟨rfl,hb1⟩;have B1:Hid (Below W0.heap.size W0 w1):=Below.drew_.trans hb1;clear hb1)
   | fail)
 have hlo5:w.heap.size+2≤w10.heap.size:=by have:=B10.out.size;have:=HS0.out;omega
 have hit:ItC (mask (lows (w.heap.size+2)) w10) w10.heap.size [.int .i64 0,.int .u64 7,.slice none 0 0,.slice none 0 0,.int .i64 0,.int .u64 (h.flg:Int),.slice none 0 0,.slice none 0 0,.int .i64 0,.int .u64 0,.slice none 0 0,.slice none 0 0,.int .i64 k4,.int .u64 (n4:Int),.slice A4 nd4 cd4,.slice AL4 nl4 cl4,.int .i64 k5,.int .u64 (n5:Int),.slice A5 nd5 cd5,.slice AL5 nl5 cl5,.int .i64 k6,.int .u64 (n6:Int),.slice A6 nd6 cd6,.slice AL6 nl6 cl6,.int .i64 k9,.int .u64 (n9:Int),.slice A9 nd9 cd9,.slice AL9 nl9 cl9,.int .i64 0,.int .u64 (h.lif:Int),.slice none 0 0,.slice none 0 0] [.mk 0 7 [] [],.mk 0 h.flg [] [],.mk 0 0 [] [],ID,IS,IR,.mk 4 0 [] [.mk 0 h.tim [] [],.mk 0 h.seq [] []],.mk 0 h.lif [] []]:=⟨RdI.mk_uint (n:=7) (by decide),RdI.mk_uint HT.out.1,RdI.mk_uint (n:=0) (by decide),V4.out.grow (Below.push (Below.push (Below.push (Below.push (Below.push D5.out (Nat.le_refl _) D6.out) (Nat.le_refl _) D7.out) (Nat.le_refl _) D8.out) (Nat.le_refl _) D9.out) (Nat.le_refl _) D10.out) (Nat.le_refl _),V5.out.grow (Below.push (Below.push (Below.push (Below.push D6.out (Nat.le_refl _) D7.out) (Nat.le_refl _) D8.out) (Nat.le_refl _) D9.out) (Nat.le_refl _) D10.out) (Nat.le_refl _),V6.out.grow (Below.push (Below.push (Below.push D7.out (Nat.le_refl _) D8.out) (Nat.le_refl _) D9.out) (Nat.le_refl _) D10.out) (Nat.le_refl _),V9.out.grow D10.out (Nat.le_refl _),RdI.mk_uint HT.out.2.2.2,trivial⟩
 obtain ⟨-,y1,-⟩:=HY.out _ (B10.out.alloc B10.out.size (.cells #[.int .i64 0,.int .u64 7,.slice none 0 0,.slice none 0 0,.int .i64 0,.int .u64 (h.flg:Int),.slice none 0 0,.slice none 0 0,.int .i64 0,.int .u64 0,.slice none 0 0,.slice none 0 0,.int .i64 k4,.int .u64 (n4:Int),.slice A4 nd4 cd4,.slice AL4 nl4 cl4,.int .i64 k5,.int .u64 (n5:Int),.slice A5 nd5 cd5,.slice AL5 nl5 cl5,.int .i64 k6,.int .u64 (n6:Int),.slice A6 nd6 cd6,.slice AL6 nl6 cl6,.int .i64 k9,.int .u64 (n9:Int),.slice A9 nd9 cd9,.slice AL9 nl9 cl9,.int .i64 0,.int .u64 (h.lif:Int),.slice none 0 0,.slice none 0 0] 94))
 have B11:=hid (B10.out.alloc B10.out.size (.cells #[.int .i64 0,.int .u64 7,.slice none 0 0,.slice none 0 0,.int .i64 0,.int .u64 (h.flg:Int),.slice none 0 0,.slice none 0 0,.int .i64 0,.int .u64 0,.slice none 0 0,.slice none 0 0,.int .i64 k4,.int .u64 (n4:Int),.slice A4 nd4 cd4,.slice AL4 nl4 cl4,.int .i64 k5,.int .u64 (n5:Int),.slice A5 nd5 cd5,.slice AL5 nl5 cl5,.int .i64 k6,.int .u64 (n6:Int),.slice A6 nd6 cd6,.slice AL6 nl6 cl6,.int .i64 k9,.int .u64 (n9:Int),.slice A9 nd9 cd9,.slice AL9 nl9 cl9,.int .i64 0,.int .u64 (h.lif:Int),.slice none 0 0,.slice none 0 0] 94))
 have HLO:=hid hlo5
 have HC:=hid (carray_row (W:=(w10.alloc (.cells #[.int .i64 0,.int .u64 7,.slice none 0 0,.slice none 0 0,.int .i64 0,.int .u64 (h.flg:Int),.slice none 0 0,.slice none 0 0,.int .i64 0,.int .u64 0,.slice none 0 0,.slice none 0 0,.int .i64 k4,.int .u64 (n4:Int),.slice A4 nd4 cd4,.slice AL4 nl4 cl4,.int .i64 k5,.int .u64 (n5:Int),.slice A5 nd5 cd5,.slice AL5 nl5 cl5,.int .i64 k6,.int .u64 (n6:Int),.slice A6 nd6 cd6,.slice AL6 nl6 cl6,.int .i64 k9,.int .u64 (n9:Int),.slice A9 nd9 cd9,.slice AL9 nl9 cl9,.int .i64 0,.int .u64 (h.lif:Int),.slice none 0 0,.slice none 0 0] 94))) (lo:=w.heap.size+2) (n:=8) (cap:=8) (by simp;omega) (Nat.le_of_eq (by simp)) (Nat.lt_succ_self _) (ItC.row (t:=94) hlo5 hit) rfl (by decide) (Nat.le_trans HPA.out (show 30≤1000000 by decide)) (Nat.le_refl _))
 clear hlo5 hit
 go_wp2_with fail
 refine HC.out.mono ?_
 rintro e wz ⟨vz,rfl,hvz,hbz⟩
 have hbE:Below (w.heap.size+2) W0 wz:=(B11.out.mono (Nat.le_of_eq HS0.out.symm)).trans (hbz.mono (by have:=HLO.out;simp;omega))
 clear hbz
 obtain ⟨kz,nz,Az,ndz,cdz,ALz,nlz,clz,rfl⟩:=hvz.form
 obtain ⟨⟨z0,z1,z2,z3⟩,f0,f1,f2,f3⟩:=HZ.out _ hbE
 have VZ:=hid hvz
 have BE:=hid hbE
 clear hvz hbE
 go_wp2_with fail
 refine bodyPost_ret (v:=.agg #[.int .i64 kz,.int .u64 (nz:Int),.slice Az ndz cdz,.slice ALz nlz clz]) (by simp [results,Tryz.results207,go_sem,z0,z1,z2,z3]) rfl ⟨_,rfl,?_,?_⟩
 ·
  exact VZ.out.put4 (Nat.le_add_right _ 2) (Nat.lt_succ_self _) (Nat.le_of_eq size_put4.symm)
 ·
  exact below_set4 (HB0.out.trans (BE.out.mono (Nat.le_add_right _ 2))) (Nat.le_succ _)
theorem uitem_1 (S:Snt) (h:BH) (l:List Blk) (A:Option Addr) (n c:Nat) (w:World) (hS:Wd S w) (hd:h.Bd) (hw:Wr (h.bun l)) (hk:h.crc=1) :
  Calls Tryz.prog 207 #[bunV h A n c] w (GivesL w.heap.size (itmP (h.bun l) (nullsP (h.bun l))) w):=by
 have HX:Hid (itmP (h.bun l) (nullsP (h.bun l))=.mk 4 0 [] [.mk 0 7 [] [],.mk 0 h.flg [] [],.mk 0 1 [] [],itemE h.dst,itemE h.src,itemE h.rep,.mk 4 0 [] [.mk 0 h.tim [] [],.mk 0 h.seq [] []],.mk 0 h.lif [] [],.mk 2 0 (List.replicate 2 0) []]):=by show _=_;unfold itmP partsP nullsP BH.bun;simp only [hk];rfl
 rw [HX.out]
 have HT:=hid (And.intro hd.flg (And.intro hd.tim (And.intro hd.seq hd.lif)))
 have hB0:=(((Below.refl w.heap.size w).alloc (Nat.le_refl _) (.cells #[.int .u64 (h.flg:Int),.int .i64 1,.int .i64 h.dsc,.string h.dnm,.int .u64 (h.dn:Int),.int .u64 (h.dv:Int),.int .i64 h.ssc,.string h.snm,.int .u64 (h.sn:Int),.int .u64 (h.sv:Int),.int .i64 h.rsc,.string h.rnm,.int .u64 (h.rn:Int),.int .u64 (h.rv:Int),.int .u64 (h.tim:Int),.int .u64 (h.seq:Int),.int .u64 (h.lif:Int),.slice A n c] 28)).alloc (le_alloc _ _) (.cells #[.int .i64 0,.int .u64 0,.slice none 0 0,.slice none 0 0] 94))
 have hb1:=((Below.refl (w.heap.size+1) (w.alloc (.cells #[.int .u64 (h.flg:Int),.int .i64 1,.int .i64 h.dsc,.string h.dnm,.int .u64 (h.dn:Int),.int .u64 (h.dv:Int),.int .i64 h.ssc,.string h.snm,.int .u64 (h.sn:Int),.int .u64 (h.sv:Int),.int .i64 h.rsc,.string h.rnm,.int .u64 (h.rn:Int),.int .u64 (h.rv:Int),.int .u64 (h.tim:Int),.int .u64 (h.seq:Int),.int .u64 (h.lif:Int),.slice A n c] 28))).alloc (by simp) (.cells #[.int .i64 0,.int .u64 0,.slice none 0 0,.slice none 0 0] 94))
 have hs0:((w.alloc (.cells #[.int .u64 (h.flg:Int),.int .i64 1,.int .i64 h.dsc,.string h.dnm,.int .u64 (h.dn:Int),.int .u64 (h.dv:Int),.int .i64 h.ssc,.string h.snm,.int .u64 (h.sn:Int),.int .u64 (h.sv:Int),.int .i64 h.rsc,.string h.rnm,.int .u64 (h.rn:Int),.int .u64 (h.rv:Int),.int .u64 (h.tim:Int),.int .u64 (h.seq:Int),.int .u64 (h.lif:Int),.slice A n c] 28)).alloc (.cells #[.int .i64 0,.int .u64 0,.slice none 0 0,.slice none 0 0] 94)).heap.size=w.heap.size+2:=by simp
 have hz:=fun (W':World) (hb:Below (w.heap.size+2) ((w.alloc (.cells #[.int .u64 (h.flg:Int),.int .i64 1,.int .i64 h.dsc,.string h.dnm,.int .u64 (h.dn:Int),.int .u64 (h.dv:Int),.int .i64 h.ssc,.string h.snm,.int .u64 (h.sn:Int),.int .u64 (h.sv:Int),.int .i64 h.rsc,.string h.rnm,.int .u64 (h.rn:Int),.int .u64 (h.rv:Int),.int .u64 (h.tim:Int),.int .u64 (h.seq:Int),.int .u64 (h.lif:Int),.slice A n c] 28)).alloc (.cells #[.int .i64 0,.int .u64 0,.slice none 0 0,.slice none 0 0] 94)) W')=>zero4 (w:=w.alloc (.cells #[.int .u64 (h.flg:Int),.int .i64 1,.int .i64 h.dsc,.string h.dnm,.int .u64 (h.dn:Int),.int .u64 (h.dv:Int),.int .i64 h.ssc,.string h.snm,.int .u64 (h.sn:Int),.int .u64 (h.sv:Int),.int .i64 h.rsc,.string h.rnm,.int .u64 (h.rn:Int),.int .u64 (h.rv:Int),.int .u64 (h.tim:Int),.int .u64 (h.seq:Int),.int .u64 (h.lif:Int),.slice A n c] 28)) (g:=w.heap.size+1) (by simp) hb
 have hL:=(hS.lds.alloc (.cells #[.int .u64 (h.flg:Int),.int .i64 1,.int .i64 h.dsc,.string h.dnm,.int .u64 (h.dn:Int),.int .u64 (h.dv:Int),.int .i64 h.ssc,.string h.snm,.int .u64 (h.sn:Int),.int .u64 (h.sv:Int),.int .i64 h.rsc,.string h.rnm,.int .u64 (h.rn:Int),.int .u64 (h.rv:Int),.int .u64 (h.tim:Int),.int .u64 (h.seq:Int),.int .u64 (h.lif:Int),.slice A n c] 28)).alloc (.cells #[.int .i64 0,.int .u64 0,.slice none 0 0,.slice none 0 0] 94)
 have HY:Hid (∀ (W:World),Below ((w.alloc (.cells #[.int .u64 (h.flg:Int),.int .i64 1,.int .i64 h.dsc,.string h.dnm,.int .u64 (h.dn:Int),.int .u64 (h.dv:Int),.int .i64 h.ssc,.string h.snm,.int .u64 (h.sn:Int),.int .u64 (h.sv:Int),.int .i64 h.rsc,.string h.rnm,.int .u64 (h.rn:Int),.int .u64 (h.rv:Int),.int .u64 (h.tim:Int),.int .u64 (h.seq:Int),.int .u64 (h.lif:Int),.slice A n c] 28)).alloc (.cells #[.int .i64 0,.int .u64 0,.slice none 0 0,.slice none 0 0] 94)).heap.size ((w.alloc (.cells #[.int .u64 (h.flg:Int),.int .i64 1,.int .i64 h.dsc,.string h.dnm,.int .u64 (h.dn:Int),.int .u64 (h.dv:Int),.int .i64 h.ssc,.string h.snm,.int .u64 (h.sn:Int),.int .u64 (h.sv:Int),.int .i64 h.rsc,.string h.rnm,.int .u64 (h.rn:Int),.int .u64 (h.rv:Int),.int .u64 (h.tim:Int),.int .u64 (h.seq:Int),.int .u64 (h.lif:Int),.slice A n c] 28)).alloc (.cells #[.int .i64 0,.int .u64 0,.slice none 0 0,.slice none 0 0] 94)) W→W.cell? ⟨w.heap.size,0,none⟩=some (.int .u64 (h.flg:Int))∧W.cell? ⟨w.heap.size,1,none⟩=some (.int .i64 1)∧W.cell? ⟨w.heap.size,2,none⟩=some (.int .i64 h.dsc)∧W.cell? ⟨w.heap.size,3,none⟩=some (.string h.dnm)∧W.cell? ⟨w.heap.size,4,none⟩=some (.int .u64 (h.dn:Int))∧W.cell? ⟨w.heap.size,5,none⟩=some (.int .u64 (h.dv:Int))∧W.cell? ⟨w.heap.size,6,none⟩=some (.int .i64 h.ssc)∧W.cell? ⟨w.heap.size,7,none⟩=some (.string h.snm)∧W.cell? ⟨w.heap.size,8,none⟩=some (.int .u64 (h.sn:Int))∧W.cell? ⟨w.heap.size,9,none⟩=some (.int .u64 (h.sv:Int))∧W.cell? ⟨w.heap.size,10,none⟩=some (.int .i64 h.rsc)∧W.cell? ⟨w.heap.size,11,none⟩=some (.string h.rnm)∧W.cell? ⟨w.heap.size,12,none⟩=some (.int .u64 (h.rn:Int))∧W.cell? ⟨w.heap.size,13,none⟩=some (.int .u64 (h.rv:Int))∧W.cell? ⟨w.heap.size,14,none⟩=some (.int .u64 (h.tim:Int))∧W.cell? ⟨w.heap.size,15,none⟩=some (.int .u64 (h.seq:Int))∧W.cell? ⟨w.heap.size,16,none⟩=some (.int .u64 (h.lif:Int))∧W.cell? ⟨w.heap.size,17,none⟩=some (.slice A n c)):=fun W hb=>box18 rfl (hb1.trans (hb.mono (by rw [hs0];exact Nat.le_succ _)))
 have E1:Hid (∀ (W:World),Below ((w.alloc (.cells #[.int .u64 (h.flg:Int),.int .i64 1,.int .i64 h.dsc,.string h.dnm,.int .u64 (h.dn:Int),.int .u64 (h.dv:Int),.int .i64 h.ssc,.string h.snm,.int .u64 (h.sn:Int),.int .u64 (h.sv:Int),.int .i64 h.rsc,.string h.rnm,.int .u64 (h.rn:Int),.int .u64 (h.rv:Int),.int .u64 (h.tim:Int),.int .u64 (h.seq:Int),.int .u64 (h.lif:Int),.slice A n c] 28)).alloc (.cells #[.int .i64 0,.int .u64 0,.slice none 0 0,.slice none 0 0] 94)).heap.size ((w.alloc (.cells #[.int .u64 (h.flg:Int),.int .i64 1,.int .i64 h.dsc,.string h.dnm,.int .u64 (h.dn:Int),.int .u64 (h.dv:Int),.int .i64 h.ssc,.string h.snm,.int .u64 (h.sn:Int),.int .u64 (h.sv:Int),.int .i64 h.rsc,.string h.rnm,.int .u64 (h.rn:Int),.int .u64 (h.rv:Int),.int .u64 (h.tim:Int),.int .u64 (h.seq:Int),.int .u64 (h.lif:Int),.slice A n c] 28)).alloc (.cells #[.int .i64 0,.int .u64 0,.slice none 0 0,.slice none 0 0] 94)) W→Calls Tryz.prog 231 #[epdV h.dsc h.dnm h.dn h.dv] W (GivesL W.heap.size (itemE h.dst) W)):=fun W hb=>uend_any S _ _ _ _ W (hL.below hb (Nat.le_refl _)) hd.dnm hd.dn hd.dv hw.2.1
 have E2:Hid (∀ (W:World),Below ((w.alloc (.cells #[.int .u64 (h.flg:Int),.int .i64 1,.int .i64 h.dsc,.string h.dnm,.int .u64 (h.dn:Int),.int .u64 (h.dv:Int),.int .i64 h.ssc,.string h.snm,.int .u64 (h.sn:Int),.int .u64 (h.sv:Int),.int .i64 h.rsc,.string h.rnm,.int .u64 (h.rn:Int),.int .u64 (h.rv:Int),.int .u64 (h.tim:Int),.int .u64 (h.seq:Int),.int .u64 (h.lif:Int),.slice A n c] 28)).alloc (.cells #[.int .i64 0,.int .u64 0,.slice none 0 0,.slice none 0 0] 94)).heap.size ((w.alloc (.cells #[.int .u64 (h.flg:Int),.int .i64 1,.int .i64 h.dsc,.string h.dnm,.int .u64 (h.dn:Int),.int .u64 (h.dv:Int),.int .i64 h.ssc,.string h.snm,.int .u64 (h.sn:Int),.int .u64 (h.sv:Int),.int .i64 h.rsc,.string h.rnm,.int .u64 (h.rn:Int),.int .u64 (h.rv:Int),.int .u64 (h.tim:Int),.int .u64 (h.seq:Int),.int .u64 (h.lif:Int),.slice A n c] 28)).alloc (.cells #[.int .i64 0,.int .u64 0,.slice none 0 0,.slice none 0 0] 94)) W→Calls Tryz.prog 231 #[epdV h.ssc h.snm h.sn h.sv] W (GivesL W.heap.size (itemE h.src) W)):=fun W hb=>uend_any S _ _ _ _ W (hL.below hb (Nat.le_refl _)) hd.snm hd.sn hd.sv hw.2.2.1
 have E3:Hid (∀ (W:World),Below ((w.alloc (.cells #[.int .u64 (h.flg:Int),.int .i64 1,.int .i64 h.dsc,.string h.dnm,.int .u64 (h.dn:Int),.int .u64 (h.dv:Int),.int .i64 h.ssc,.string h.snm,.int .u64 (h.sn:Int),.int .u64 (h.sv:Int),.int .i64 h.rsc,.string h.rnm,.int .u64 (h.rn:Int),.int .u64 (h.rv:Int),.int .u64 (h.tim:Int),.int .u64 (h.seq:Int),.int .u64 (h.lif:Int),.slice A n c] 28)).alloc (.cells #[.int .i64 0,.int .u64 0,.slice none 0 0,.slice none 0 0] 94)).heap.size ((w.alloc (.cells #[.int .u64 (h.flg:Int),.int .i64 1,.int .i64 h.dsc,.string h.dnm,.int .u64 (h.dn:Int),.int .u64 (h.dv:Int),.int .i64 h.ssc,.string h.snm,.int .u64 (h.sn:Int),.int .u64 (h.sv:Int),.int .i64 h.rsc,.string h.rnm,.int .u64 (h.rn:Int),.int .u64 (h.rv:Int),.int .u64 (h.tim:Int),.int .u64 (h.seq:Int),.int .u64 (h.lif:Int),.slice A n c] 28)).alloc (.cells #[.int .i64 0,.int .u64 0,.slice none 0 0,.slice none 0 0] 94)) W→Calls Tryz.prog 231 #[epdV h.rsc h.rnm h.rn h.rv] W (GivesL W.heap.size (itemE h.rep) W)):=fun W hb=>uend_any S _ _ _ _ W (hL.below hb (Nat.le_refl _)) hd.rnm hd.rn hd.rv hw.2.2.2
 have HZ:=hid hz
 have HB0:=hid hB0
 have CU:=hid cuintV
 have HPA:Hid (pars [.mk 0 7 [] [],.mk 0 h.flg [] [],.mk 0 1 [] [],itemE h.dst,itemE h.src,itemE h.rep,.mk 4 0 [] [.mk 0 h.tim [] [],.mk 0 h.seq [] []],.mk 0 h.lif [] []]≤30):=by
  show _≤_
  have p1:=(itemE_good hw.2.1).2.2
  have p2:=(itemE_good hw.2.2.1).2.2
  have p3:=(itemE_good hw.2.2.2).2.2
  have e1:(h.bun l).dst=h.dst:=rfl
  have e2:(h.bun l).src=h.src:=rfl
  have e3:(h.bun l).rep=h.rep:=rfl
  rw [e1] at p1
  rw [e2] at p2
  rw [e3] at p3
  simp [pars,par]
  omega
 clear hS hd hw hB0 hb1 hz hL
 unfold bunV epdV at *
 rw [hk]
 clear hk
 generalize itemE h.dst=ID at *
 generalize itemE h.src=IS at *
 generalize itemE h.rep=IR at *
 go_enter Tryz.func207,Tryz.ntmps207
 go_wp2_with fail
 generalize ((w.alloc (.cells #[.int .u64 (h.flg:Int),.int .i64 1,.int .i64 h.dsc,.string h.dnm,.int .u64 (h.dn:Int),.int .u64 (h.dv:Int),.int .i64 h.ssc,.string h.snm,.int .u64 (h.sn:Int),.int .u64 (h.sv:Int),.int .i64 h.rsc,.string h.rnm,.int .u64 (h.rn:Int),.int .u64 (h.rv:Int),.int .u64 (h.tim:Int),.int .u64 (h.seq:Int),.int .u64 (h.lif:Int),.slice A n c] 28)).alloc (.cells #[.int .i64 0,.int .u64 0,.slice none 0 0,.slice none 0 0] 94))=W0 at *
 have HS0:=hid hs0
 clear hs0
 go_region_held3 (fun W=>W.cell? ⟨w.heap.size,0,none⟩=some (.int .u64 (h.flg:Int))∧W.cell? ⟨w.heap.size,1,none⟩=some (.int .i64 1)∧W.cell? ⟨w.heap.size,2,none⟩=some (.int .i64 h.dsc)∧W.cell? ⟨w.heap.size,3,none⟩=some (.string h.dnm)∧W.cell? ⟨w.heap.size,4,none⟩=some (.int .u64 (h.dn:Int))∧W.cell? ⟨w.heap.size,5,none⟩=some (.int .u64 (h.dv:Int))∧W.cell? ⟨w.heap.size,6,none⟩=some (.int .i64 h.ssc)∧W.cell? ⟨w.heap.size,7,none⟩=some (.string h.snm)∧W.cell? ⟨w.heap.size,8,none⟩=some (.int .u64 (h.sn:Int))∧W.cell? ⟨w.heap.size,9,none⟩=some (.int .u64 (h.sv:Int))∧W.cell? ⟨w.heap.size,10,none⟩=some (.int .i64 h.rsc)∧W.cell? ⟨w.heap.size,11,none⟩=some (.string h.rnm)∧W.cell? ⟨w.heap.size,12,none⟩=some (.int .u64 (h.rn:Int))∧W.cell? ⟨w.heap.size,13,none⟩=some (.int .u64 (h.rv:Int))∧W.cell? ⟨w.heap.size,14,none⟩=some (.int .u64 (h.tim:Int))∧W.cell? ⟨w.heap.size,15,none⟩=some (.int .u64 (h.seq:Int))∧W.cell? ⟨w.heap.size,16,none⟩=some (.int .u64 (h.lif:Int))∧W.cell? ⟨w.heap.size,17,none⟩=some (.slice A n c))
  (first|(with_reducible exact HY.out _ B10.out)|(with_reducible exact HY.out _ B9.out)|(with_reducible exact HY.out _ B8.out)|(with_reducible exact HY.out _ B7.out)|(with_reducible exact HY.out _ B6.out)|(with_reducible exact HY.out _ B5.out)|(with_reducible exact HY.out _ B4.out)|(with_reducible exact HY.out _ B3.out)|(with_reducible exact HY.out _ B2.out)|(with_reducible exact HY.out _ B1.out)|(with_reducible exact HY.out _ (B8.out.alloc B8.out.size _))|(with_reducible exact HY.out _ (B10.out.alloc B10.out.size _))|(with_reducible exact HY.out _ (Below.refl _ _))|(with_reducible exact HY.out _ Below.drew_)|fail)
  (first
   | (go_at_call 152;have _g:=B9;clear _g;refine (CU.out _ _).mono ?_;rintro e w10 ⟨rfl,hb10⟩;have B10:=hid (Below.push B9.out (Nat.le_refl _) hb10);have D10:=hid hb10;clear hb10)
   | (go_at_call 153;refine (carray_two (lo:=w.heap.size+2) (by have:=B8.out.size;have:=HS0.out;omega) (RdI.mk_uint HT.out.2.1) (RdI.mk_uint HT.out.2.2.1) (by simp [pars,par])).mono ?_;rintro e w9 ⟨v9,rfl,hv9,hb9⟩;obtain ⟨k9,n9,A9,nd9,cd9,AL9,nl9,cl9,rfl⟩:=hv9.form;have V9:=hid hv9;have B9:=hid ((B8.out.alloc B8.out.size _).trans (hb9.mono (Nat.le_trans B8.out.size (le_alloc _ _))));have D9:Hid (Below w8.heap.size w8 w9):=((Below.refl _ w8).alloc (Nat.le_refl _) _).trans (hb9.mono (le_alloc _ _));clear hb9 hv9)
   | (go_at_call 152;have _g:=B7;clear _g;refine (CU.out _ _).mono ?_;rintro e w8 ⟨rfl,hb8⟩;have B8:=hid (Below.push B7.out (Nat.le_refl _) hb8);have D8:=hid hb8;clear hb8)
   | (go_at_call 152;have _g:=B6;clear _g;refine (CU.out _ _).mono ?_;rintro e w7 ⟨rfl,hb7⟩;have B7:=hid (Below.push B6.out (Nat.le_refl _) hb7);have D7:=hid hb7;clear hb7)
   | (go_at_call 231;have _g:=B5;clear _g;refine (E3.out _ B5.out).mono ?_;rintro e w6 ⟨v6,rfl,hv6,hb6⟩;obtain ⟨k6,n6,A6,nd6,cd6,AL6,nl6,cl6,rfl⟩:=hv6.form;have V6:=hid (hv6.grow (lo':=w.heap.size+2) (Below.refl _ _) (by have:=B5.out.size;have:=HS0.out;omega));clear hv6;have B6:=hid (Below.push B5.out (Nat.le_refl _) hb6);have D6:=hid hb6;clear hb6)
   | (go_at_call 231;have _g:=B4;clear _g;refine (E2.out _ B4.out).mono ?_;rintro e w5 ⟨v5,rfl,hv5,hb5⟩;obtain ⟨k5,n5,A5,nd5,cd5,AL5,nl5,cl5,rfl⟩:=hv5.form;have V5:=hid (hv5.grow (lo':=w.heap.size+2) (Below.refl _ _) (by have:=B4.out.size;have:=HS0.out;omega));clear hv5;have B5:=hid (Below.push B4.out (Nat.le_refl _) hb5);have D5:=hid hb5;clear hb5)
   | (go_at_call 231;have _g:=B3;clear _g;refine (E1.out _ B3.out).mono ?_;rintro e w4 ⟨v4,rfl,hv4,hb4⟩;obtain ⟨k4,n4,A4,nd4,cd4,AL4,nl4,cl4,rfl⟩:=hv4.form;have V4:=hid (hv4.grow (lo':=w.heap.size+2) (Below.refl _ _) (by have:=B3.out.size;have:=HS0.out;omega));clear hv4;have B4:=hid (Below.push B3.out (Nat.le_refl _) hb4);have D4:=hid hb4;clear hb4)
   | (go_at_call 152;have _g:=B2;clear _g;refine (CU.out _ _).mono ?_;rintro e w3 ⟨rfl,hb3⟩;have B3:=hid (Below.push B2.out (Nat.le_refl _) hb3);have D3:=hid hb3;clear hb3)
   | (go_at_call 152;have _g:=B1;clear _g;refine (CU.out _ _).mono ?_;rintro e w2 ⟨rfl,hb2⟩;have B2:=hid (Below.push B1.out (Nat.le_refl _) hb2);have D2:=hid hb2;clear hb2)
   | (go_at_call 152;refine (CU.out _ _).mono ?_;rintro e w1 ⟨rfl,hb1⟩;have B1:Hid (Below W0.heap.size W0 w1):=Below.drew_.trans hb1;clear hb1)
   | fail)
 have hlo5:w.heap.size+2≤w10.heap.size:=by have:=B10.out.size;have:=HS0.out;omega
 have hit:ItC (mask (lows (w.heap.size+2)) w10) w10.heap.size [.int .i64 0,.int .u64 7,.slice none 0 0,.slice none 0 0,.int .i64 0,.int .u64 (h.flg:Int),.slice none 0 0,.slice none 0 0,.int .i64 0,.int .u64 (IntKind.u64.wrap 1),.slice none 0 0,.slice none 0 0,.int .i64 k4,.int .u64 (n4:Int),.slice A4 nd4 cd4,.slice AL4 nl4 cl4,.int .i64 k5,.int .u64 (n5:Int),.slice A5 nd5 cd5,.slice AL5 nl5 cl5,.int .i64 k6,.int .u64 (n6:Int),.slice A6 nd6 cd6,.slice AL6 nl6 cl6,.int .i64 k9,.int .u64 (n9:Int),.slice A9 nd9 cd9,.slice AL9 nl9 cl9,.int .i64 0,.int .u64 (h.lif:Int),.slice none 0 0,.slice none 0 0] [.mk 0 7 [] [],.mk 0 h.flg [] [],.mk 0 1 [] [],ID,IS,IR,.mk 4 0 [] [.mk 0 h.tim [] [],.mk 0 h.seq [] []],.mk 0 h.lif [] []]:=⟨RdI.mk_uint (n:=7) (by decide),RdI.mk_uint HT.out.1,RdI.mk_uint (n:=1) (by decide),V4.out.grow (Below.push (Below.push (Below.push (Below.push (Below.push D5.out (Nat.le_refl _) D6.out) (Nat.le_refl _) D7.out) (Nat.le_refl _) D8.out) (Nat.le_refl _) D9.out) (Nat.le_refl _) D10.out) (Nat.le_refl _),V5.out.grow (Below.push (Below.push (Below.push (Below.push D6.out (Nat.le_refl _) D7.out) (Nat.le_refl _) D8.out) (Nat.le_refl _) D9.out) (Nat.le_refl _) D10.out) (Nat.le_refl _),V6.out.grow (Below.push (Below.push (Below.push D7.out (Nat.le_refl _) D8.out) (Nat.le_refl _) D9.out) (Nat.le_refl _) D10.out) (Nat.le_refl _),V9.out.grow D10.out (Nat.le_refl _),RdI.mk_uint HT.out.2.2.2,trivial⟩
 obtain ⟨-,y1,-⟩:=HY.out _ (B10.out.alloc B10.out.size (.cells #[.int .i64 0,.int .u64 7,.slice none 0 0,.slice none 0 0,.int .i64 0,.int .u64 (h.flg:Int),.slice none 0 0,.slice none 0 0,.int .i64 0,.int .u64 (IntKind.u64.wrap 1),.slice none 0 0,.slice none 0 0,.int .i64 k4,.int .u64 (n4:Int),.slice A4 nd4 cd4,.slice AL4 nl4 cl4,.int .i64 k5,.int .u64 (n5:Int),.slice A5 nd5 cd5,.slice AL5 nl5 cl5,.int .i64 k6,.int .u64 (n6:Int),.slice A6 nd6 cd6,.slice AL6 nl6 cl6,.int .i64 k9,.int .u64 (n9:Int),.slice A9 nd9 cd9,.slice AL9 nl9 cl9,.int .i64 0,.int .u64 (h.lif:Int),.slice none 0 0,.slice none 0 0] 94))
 have B11:=hid (B10.out.alloc B10.out.size (.cells #[.int .i64 0,.int .u64 7,.slice none 0 0,.slice none 0 0,.int .i64 0,.int .u64 (h.flg:Int),.slice none 0 0,.slice none 0 0,.int .i64 0,.int .u64 (IntKind.u64.wrap 1),.slice none 0 0,.slice none 0 0,.int .i64 k4,.int .u64 (n4:Int),.slice A4 nd4 cd4,.slice AL4 nl4 cl4,.int .i64 k5,.int .u64 (n5:Int),.slice A5 nd5 cd5,.slice AL5 nl5 cl5,.int .i64 k6,.int .u64 (n6:Int),.slice A6 nd6 cd6,.slice AL6 nl6 cl6,.int .i64 k9,.int .u64 (n9:Int),.slice A9 nd9 cd9,.slice AL9 nl9 cl9,.int .i64 0,.int .u64 (h.lif:Int),.slice none 0 0,.slice none 0 0] 94))
 have HLO:=hid hlo5
 obtain ⟨i0,hi0,hz0,hz1,hz2⟩:=info_parts info_item
 have HI:=hid hi0
 have HZ0:=hid hz0
 have HZ1:=hid hz1
 have HZ2:=hid hz2
 have HIT:=hid hit
 have mkz:=make_z2
 have CS:=hid (fun W=>usize_any 1 W)
 rw [show ((sumN 1:Nat):Int)=2 from rfl] at CS
 have O6:Hid ((w10.alloc (.cells #[.int .i64 0,.int .u64 7,.slice none 0 0,.slice none 0 0,.int .i64 0,.int .u64 (h.flg:Int),.slice none 0 0,.slice none 0 0,.int .i64 0,.int .u64 (IntKind.u64.wrap 1),.slice none 0 0,.slice none 0 0,.int .i64 k4,.int .u64 (n4:Int),.slice A4 nd4 cd4,.slice AL4 nl4 cl4,.int .i64 k5,.int .u64 (n5:Int),.slice A5 nd5 cd5,.slice AL5 nl5 cl5,.int .i64 k6,.int .u64 (n6:Int),.slice A6 nd6 cd6,.slice AL6 nl6 cl6,.int .i64 k9,.int .u64 (n9:Int),.slice A9 nd9 cd9,.slice AL9 nl9 cl9,.int .i64 0,.int .u64 (h.lif:Int),.slice none 0 0,.slice none 0 0] 94)).ownsRow (w.heap.size+2) 94 4 (.slice (some ⟨w10.heap.size,0,none⟩) 8 8) 8 [.int .i64 0,.int .u64 7,.slice none 0 0,.slice none 0 0,.int .i64 0,.int .u64 (h.flg:Int),.slice none 0 0,.slice none 0 0,.int .i64 0,.int .u64 (IntKind.u64.wrap 1),.slice none 0 0,.slice none 0 0,.int .i64 k4,.int .u64 (n4:Int),.slice A4 nd4 cd4,.slice AL4 nl4 cl4,.int .i64 k5,.int .u64 (n5:Int),.slice A5 nd5 cd5,.slice AL5 nl5 cl5,.int .i64 k6,.int .u64 (n6:Int),.slice A6 nd6 cd6,.slice AL6 nl6 cl6,.int .i64 k9,.int .u64 (n9:Int),.slice A9 nd9 cd9,.slice AL9 nl9 cl9,.int .i64 0,.int .u64 (h.lif:Int),.slice none 0 0,.slice none 0 0]):=World.ownsRow_lit (base:=w.heap.size+2) (e:=94) (size:=4) w10 #[.int .i64 0,.int .u64 7,.slice none 0 0,.slice none 0 0,.int .i64 0,.int .u64 (h.flg:Int),.slice none 0 0,.slice none 0 0,.int .i64 0,.int .u64 (IntKind.u64.wrap 1),.slice none 0 0,.slice none 0 0,.int .i64 k4,.int .u64 (n4:Int),.slice A4 nd4 cd4,.slice AL4 nl4 cl4,.int .i64 k5,.int .u64 (n5:Int),.slice A5 nd5 cd5,.slice AL5 nl5 cl5,.int .i64 k6,.int .u64 (n6:Int),.slice A6 nd6 cd6,.slice AL6 nl6 cl6,.int .i64 k9,.int .u64 (n9:Int),.slice A9 nd9 cd9,.slice AL9 nl9 cl9,.int .i64 0,.int .u64 (h.lif:Int),.slice none 0 0,.slice none 0 0] 8 hlo5 (by decide) rfl
 have HS6:Hid ((w10.alloc (.cells #[.int .i64 0,.int .u64 7,.slice none 0 0,.slice none 0 0,.int .i64 0,.int .u64 (h.flg:Int),.slice none 0 0,.slice none 0 0,.int .i64 0,.int .u64 (IntKind.u64.wrap 1),.slice none 0 0,.slice none 0 0,.int .i64 k4,.int .u64 (n4:Int),.slice A4 nd4 cd4,.slice AL4 nl4 cl4,.int .i64 k5,.int .u64 (n5:Int),.slice A5 nd5 cd5,.slice AL5 nl5 cl5,.int .i64 k6,.int .u64 (n6:Int),.slice A6 nd6 cd6,.slice AL6 nl6 cl6,.int .i64 k9,.int .u64 (n9:Int),.slice A9 nd9 cd9,.slice AL9 nl9 cl9,.int .i64 0,.int .u64 (h.lif:Int),.slice none 0 0,.slice none 0 0] 94)).heap.size=w10.heap.size+1):=by show _=_;simp
 clear hlo5 hit hi0 hz0 hz1 hz2
 generalize hW6:(w10.alloc (.cells #[.int .i64 0,.int .u64 7,.slice none 0 0,.slice none 0 0,.int .i64 0,.int .u64 (h.flg:Int),.slice none 0 0,.slice none 0 0,.int .i64 0,.int .u64 (IntKind.u64.wrap 1),.slice none 0 0,.slice none 0 0,.int .i64 k4,.int .u64 (n4:Int),.slice A4 nd4 cd4,.slice AL4 nl4 cl4,.int .i64 k5,.int .u64 (n5:Int),.slice A5 nd5 cd5,.slice AL5 nl5 cl5,.int .i64 k6,.int .u64 (n6:Int),.slice A6 nd6 cd6,.slice AL6 nl6 cl6,.int .i64 k9,.int .u64 (n9:Int),.slice A9 nd9 cd9,.slice AL9 nl9 cl9,.int .i64 0,.int .u64 (h.lif:Int),.slice none 0 0,.slice none 0 0] 94))=W6 at *
 have HW6:=hid hW6
 clear hW6
 go_wp2_with fail
 refine (CS.out _).mono ?_
 rintro e w11 ⟨rfl,hb11⟩
 have CB2:Hid (Calls Tryz.prog 132 #[.slice (some ⟨w11.heap.size,0,none⟩) 2 2] (w11.alloc (.cells #[.int .u8 0,.int .u8 0] 5)) (GivesL (w10.heap.size+1) (.mk 2 0 (List.replicate 2 0) []) (w11.alloc (.cells #[.int .u8 0,.int .u8 0] 5)))) :=
  cbytesL_any (w10.heap.size+1) (some ⟨w11.heap.size,0,none⟩) 2 2 (w11.heap.size+1) (List.replicate 2 0) _ (by have h1:=hb11.size;have:=HS6.out;simp;omega) (Nat.le_of_eq (by simp)) (Rd.lit w11 w11.heap.size rfl (List.replicate 2 0) 5 #[.int .u8 0,.int .u8 0] rfl 2 rfl) (by decide)
 have B7':Hid (Below W6.heap.size W6 (w11.alloc (.cells #[.int .u8 0,.int .u8 0] 5))):=hb11.alloc hb11.size _
 clear hb11
 go_wp2_with fail
 refine CB2.out.mono ?_
 rintro e wq ⟨vq,rfl,hvq,hbq⟩
 obtain ⟨kq,nq,Aq,ndq,cdq,ALq,nlq,clq,rfl⟩:=hvq.form
 have BQ:=hid (B7'.out.trans (hbq.mono B7'.out.size))
 have VQ:=hid hvq
 have OX:Hid ((wq.alloc (.cells #[.int .i64 kq,.int .u64 (nq:Int),.slice Aq ndq cdq,.slice ALq nlq clq] 94)).ownsRow (w.heap.size+2) 94 4 (.slice (some ⟨w10.heap.size,0,none⟩) 8 8) 8 [.int .i64 0,.int .u64 7,.slice none 0 0,.slice none 0 0,.int .i64 0,.int .u64 (h.flg:Int),.slice none 0 0,.slice none 0 0,.int .i64 0,.int .u64 (IntKind.u64.wrap 1),.slice none 0 0,.slice none 0 0,.int .i64 k4,.int .u64 (n4:Int),.slice A4 nd4 cd4,.slice AL4 nl4 cl4,.int .i64 k5,.int .u64 (n5:Int),.slice A5 nd5 cd5,.slice AL5 nl5 cl5,.int .i64 k6,.int .u64 (n6:Int),.slice A6 nd6 cd6,.slice AL6 nl6 cl6,.int .i64 k9,.int .u64 (n9:Int),.slice A9 nd9 cd9,.slice AL9 nl9 cl9,.int .i64 0,.int .u64 (h.lif:Int),.slice none 0 0,.slice none 0 0]):=ownsRow_below O6.out (BQ.out.alloc BQ.out.size _)
 have NX:Hid (∀ j u,([.int .i64 kq,.int .u64 (nq:Int),.slice Aq ndq cdq,.slice ALq nlq clq]:List Value)[j]?=some u→(wq.alloc (.cells #[.int .i64 kq,.int .u64 (nq:Int),.slice Aq ndq cdq,.slice ALq nlq clq] 94)).cell? ((⟨wq.heap.size,0,none⟩:Addr).add j)=some u):=fun j u hj=>by
  rw [show (⟨wq.heap.size,0,none⟩:Addr).add j=⟨wq.heap.size,j,none⟩ by unfold Addr.add;split <;> simp_all,World.cell?_alloc_at _ _ _ _ rfl]
  simpa using hj
 have NO:Hid (∀ u∈([.int .i64 kq,.int .u64 (nq:Int),.slice Aq ndq cdq,.slice ALq nlq clq]:List Value),u.oneCell'=true):=fun u hu=>by
  simp only [List.mem_cons,List.not_mem_nil,or_false] at hu
  rcases hu with rfl|rfl|rfl|rfl <;> rfl
 have HBS:Hid (w.heap.size+2≤(wq.alloc (.cells #[.int .i64 kq,.int .u64 (nq:Int),.slice Aq ndq cdq,.slice ALq nlq clq] 94)).heap.size):=by show _≤_;have h1:=BQ.out.size;have:=HS6.out;have:=HLO.out;simp;omega
 clear hvq hbq
 go_wp2_with (first
  | (at_builtin;refine wpList_append_lies _ rfl (.tmp 36) (.tmp 42) 91 rfl (w.heap.size+2) 94 i0 _ 4 64 Tryz.underlying91 HI.out HZ0.out HZ1.out HZ2.out rfl (by decide) _ 8 _ rfl OX.out ⟨wq.heap.size,0,none⟩ 1 1 _ rfl rfl NX.out NO.out (by decide) (by decide) (by decide) HBS.out _ rfl ?_;intro g cap wB ho hg hat hlt;have OB:=hid ho;have GB:=hid hg;have AT:=hid hat;have LT:=hid hlt;clear ho hg hat hlt)
  | fail)
 have hwB:=GB.out.size
 have hwq:w10.heap.size+1≤wq.heap.size:=by have h1:=BQ.out.size;have:=HS6.out;omega
 have hsA:(wq.alloc (.cells #[.int .i64 kq,.int .u64 (nq:Int),.slice Aq ndq cdq,.slice ALq nlq clq] 94)).heap.size=wq.heap.size+1:=by simp
 have hblk:∀ j,j<wq.heap.size→j≠w10.heap.size→wB.heap[j]?=wq.heap[j]?:=fun j hj hne=>by
  rw [GB.out.block j (by rw [hsA];omega) (fun e=>by cases e;exact hne rfl),Below.heap_alloc _ _ _ hj]
 have hblk5:∀ j,j<w10.heap.size→wB.heap[j]?=w10.heap[j]?:=fun j hj=>by
  have h6:=(BQ.out.block j (by rw [HS6.out];omega)).trans (show W6.heap[j]?=w10.heap[j]? by rw [← HW6.out];exact Below.heap_alloc _ _ _ hj)
  rw [hblk j (by omega) (by omega),h6]
 have hitB:ItC (mask (lows (w.heap.size+2)) wB) wB.heap.size ([.int .i64 0,.int .u64 7,.slice none 0 0,.slice none 0 0,.int .i64 0,.int .u64 (h.flg:Int),.slice none 0 0,.slice none 0 0,.int .i64 0,.int .u64 (IntKind.u64.wrap 1),.slice none 0 0,.slice none 0 0,.int .i64 k4,.int .u64 (n4:Int),.slice A4 nd4 cd4,.slice AL4 nl4 cl4,.int .i64 k5,.int .u64 (n5:Int),.slice A5 nd5 cd5,.slice AL5 nl5 cl5,.int .i64 k6,.int .u64 (n6:Int),.slice A6 nd6 cd6,.slice AL6 nl6 cl6,.int .i64 k9,.int .u64 (n9:Int),.slice A9 nd9 cd9,.slice AL9 nl9 cl9,.int .i64 0,.int .u64 (h.lif:Int),.slice none 0 0,.slice none 0 0]++[.int .i64 kq,.int .u64 (nq:Int),.slice Aq ndq cdq,.slice ALq nlq clq]) ([.mk 0 7 [] [],.mk 0 h.flg [] [],.mk 0 1 [] [],ID,IS,IR,.mk 4 0 [] [.mk 0 h.tim [] [],.mk 0 h.seq [] []],.mk 0 h.lif [] []]++[.mk 2 0 (List.replicate 2 0) []]) :=
  ItC.snoc (VQ.out.mask_go (by omega) (fun j hj hs=>hblk j hj (by have:=lows_f.1 hs;omega)) (fun j hj hs=>lows_f.2 (by have:=lows_f.1 hs;have:=HLO.out;omega))) (HIT.out.mask_go (by omega) (fun j hj _=>hblk5 j hj) (fun _ _ h=>h))
 have hlg:w.heap.size+2≤g:=by
  rcases AT.out with h|h
  ·
   cases h;exact HLO.out
  ·
   rw [h,hsA];have:=HLO.out;omega
 have ho:=OB.out
 have hcap:9≤cap:=by
  rcases ho.2 with ⟨hv,_⟩|⟨g',cap',cur,hv,_,_,hnc,_⟩
  ·
   cases hv
  ·
   injection hv with _ _ h3
   omega
 have hBB:Below (w.heap.size+2) W6 wB:=(BQ.out.mono (by rw [HS6.out];have:=HLO.out;omega)).trans ((Below.refl (w.heap.size+2) wq).alloc (by have:=HLO.out;omega) _ |>.trans ⟨GB.out.os,GB.out.tape,GB.out.output,GB.out.size,fun j hj=>GB.out.block j (by rw [hsA];have:=HLO.out;omega) (fun e=>by have e':j=w10.heap.size:=(by cases e;rfl);have:=HLO.out;omega)⟩)
 have HC:=hid (carray_row (W:=wB) (b:=g) (B:=wB.heap.size) (lo:=w.heap.size+2) (n:=9) (cap:=cap) (by have:=HLO.out;omega) (Nat.le_refl _) LT.out (ItC.lie hitB (fun j u hj=>by
  have hjl:j<9*4:=by
   rcases Nat.lt_or_ge j 36 with h|h
   ·
    exact h
   ·
    rw [List.getElem?_eq_none (by simpa using h)] at hj;cases hj
  rw [Nat.zero_add,mask_cell (lows_f.2 hlg),World.ownsRow.cellAt ho j hjl]
  exact hj)) rfl (by decide) (by rw [pars_app];have:=HPA.out;have e:pars [.mk 2 0 (List.replicate 2 0) []]=1:=rfl;omega) hcap)
 have HBB:=hid hBB
 have HWB:=hid (show w.heap.size+2≤wB.heap.size by have:=HLO.out;omega)
 clear hwB hwq hsA hblk hblk5 hitB hlg ho hcap hBB
 go_wp2_with fail
 refine HC.out.mono ?_
 rintro e wz ⟨vz,rfl,hvz,hbz⟩
 have hbE:Below (w.heap.size+2) W0 wz:=((B11.out.mono (Nat.le_of_eq HS0.out.symm)).trans HBB.out).trans (hbz.mono HWB.out)
 clear hbz
 obtain ⟨kz,nz,Az,ndz,cdz,ALz,nlz,clz,rfl⟩:=hvz.form
 obtain ⟨⟨z0,z1,z2,z3⟩,f0,f1,f2,f3⟩:=HZ.out _ hbE
 have VZ:=hid hvz
 have BE:=hid hbE
 clear hvz hbE
 go_wp2_with fail
 refine bodyPost_ret (v:=.agg #[.int .i64 kz,.int .u64 (nz:Int),.slice Az ndz cdz,.slice ALz nlz clz]) (by simp [results,Tryz.results207,go_sem,z0,z1,z2,z3]) rfl ⟨_,rfl,?_,?_⟩
 ·
  exact VZ.out.put4 (Nat.le_add_right _ 2) (Nat.lt_succ_self _) (Nat.le_of_eq size_put4.symm)
 ·
  exact below_set4 (HB0.out.trans (BE.out.mono (Nat.le_add_right _ 2))) (Nat.le_succ _)
theorem uitem_2 (S:Snt) (h:BH) (l:List Blk) (A:Option Addr) (n c:Nat) (w:World) (hS:Wd S w) (hd:h.Bd) (hw:Wr (h.bun l)) (hk:h.crc=2) :
  Calls Tryz.prog 207 #[bunV h A n c] w (GivesL w.heap.size (itmP (h.bun l) (nullsP (h.bun l))) w):=by
 have HX:Hid (itmP (h.bun l) (nullsP (h.bun l))=.mk 4 0 [] [.mk 0 7 [] [],.mk 0 h.flg [] [],.mk 0 2 [] [],itemE h.dst,itemE h.src,itemE h.rep,.mk 4 0 [] [.mk 0 h.tim [] [],.mk 0 h.seq [] []],.mk 0 h.lif [] [],.mk 2 0 (List.replicate 4 0) []]):=by show _=_;unfold itmP partsP nullsP BH.bun;simp only [hk];rfl
 rw [HX.out]
 have HT:=hid (And.intro hd.flg (And.intro hd.tim (And.intro hd.seq hd.lif)))
 have hB0:=(((Below.refl w.heap.size w).alloc (Nat.le_refl _) (.cells #[.int .u64 (h.flg:Int),.int .i64 2,.int .i64 h.dsc,.string h.dnm,.int .u64 (h.dn:Int),.int .u64 (h.dv:Int),.int .i64 h.ssc,.string h.snm,.int .u64 (h.sn:Int),.int .u64 (h.sv:Int),.int .i64 h.rsc,.string h.rnm,.int .u64 (h.rn:Int),.int .u64 (h.rv:Int),.int .u64 (h.tim:Int),.int .u64 (h.seq:Int),.int .u64 (h.lif:Int),.slice A n c] 28)).alloc (le_alloc _ _) (.cells #[.int .i64 0,.int .u64 0,.slice none 0 0,.slice none 0 0] 94))
 have hb1:=((Below.refl (w.heap.size+1) (w.alloc (.cells #[.int .u64 (h.flg:Int),.int .i64 2,.int .i64 h.dsc,.string h.dnm,.int .u64 (h.dn:Int),.int .u64 (h.dv:Int),.int .i64 h.ssc,.string h.snm,.int .u64 (h.sn:Int),.int .u64 (h.sv:Int),.int .i64 h.rsc,.string h.rnm,.int .u64 (h.rn:Int),.int .u64 (h.rv:Int),.int .u64 (h.tim:Int),.int .u64 (h.seq:Int),.int .u64 (h.lif:Int),.slice A n c] 28))).alloc (by simp) (.cells #[.int .i64 0,.int .u64 0,.slice none 0 0,.slice none 0 0] 94))
 have hs0:((w.alloc (.cells #[.int .u64 (h.flg:Int),.int .i64 2,.int .i64 h.dsc,.string h.dnm,.int .u64 (h.dn:Int),.int .u64 (h.dv:Int),.int .i64 h.ssc,.string h.snm,.int .u64 (h.sn:Int),.int .u64 (h.sv:Int),.int .i64 h.rsc,.string h.rnm,.int .u64 (h.rn:Int),.int .u64 (h.rv:Int),.int .u64 (h.tim:Int),.int .u64 (h.seq:Int),.int .u64 (h.lif:Int),.slice A n c] 28)).alloc (.cells #[.int .i64 0,.int .u64 0,.slice none 0 0,.slice none 0 0] 94)).heap.size=w.heap.size+2:=by simp
 have hz:=fun (W':World) (hb:Below (w.heap.size+2) ((w.alloc (.cells #[.int .u64 (h.flg:Int),.int .i64 2,.int .i64 h.dsc,.string h.dnm,.int .u64 (h.dn:Int),.int .u64 (h.dv:Int),.int .i64 h.ssc,.string h.snm,.int .u64 (h.sn:Int),.int .u64 (h.sv:Int),.int .i64 h.rsc,.string h.rnm,.int .u64 (h.rn:Int),.int .u64 (h.rv:Int),.int .u64 (h.tim:Int),.int .u64 (h.seq:Int),.int .u64 (h.lif:Int),.slice A n c] 28)).alloc (.cells #[.int .i64 0,.int .u64 0,.slice none 0 0,.slice none 0 0] 94)) W')=>zero4 (w:=w.alloc (.cells #[.int .u64 (h.flg:Int),.int .i64 2,.int .i64 h.dsc,.string h.dnm,.int .u64 (h.dn:Int),.int .u64 (h.dv:Int),.int .i64 h.ssc,.string h.snm,.int .u64 (h.sn:Int),.int .u64 (h.sv:Int),.int .i64 h.rsc,.string h.rnm,.int .u64 (h.rn:Int),.int .u64 (h.rv:Int),.int .u64 (h.tim:Int),.int .u64 (h.seq:Int),.int .u64 (h.lif:Int),.slice A n c] 28)) (g:=w.heap.size+1) (by simp) hb
 have hL:=(hS.lds.alloc (.cells #[.int .u64 (h.flg:Int),.int .i64 2,.int .i64 h.dsc,.string h.dnm,.int .u64 (h.dn:Int),.int .u64 (h.dv:Int),.int .i64 h.ssc,.string h.snm,.int .u64 (h.sn:Int),.int .u64 (h.sv:Int),.int .i64 h.rsc,.string h.rnm,.int .u64 (h.rn:Int),.int .u64 (h.rv:Int),.int .u64 (h.tim:Int),.int .u64 (h.seq:Int),.int .u64 (h.lif:Int),.slice A n c] 28)).alloc (.cells #[.int .i64 0,.int .u64 0,.slice none 0 0,.slice none 0 0] 94)
 have HY:Hid (∀ (W:World),Below ((w.alloc (.cells #[.int .u64 (h.flg:Int),.int .i64 2,.int .i64 h.dsc,.string h.dnm,.int .u64 (h.dn:Int),.int .u64 (h.dv:Int),.int .i64 h.ssc,.string h.snm,.int .u64 (h.sn:Int),.int .u64 (h.sv:Int),.int .i64 h.rsc,.string h.rnm,.int .u64 (h.rn:Int),.int .u64 (h.rv:Int),.int .u64 (h.tim:Int),.int .u64 (h.seq:Int),.int .u64 (h.lif:Int),.slice A n c] 28)).alloc (.cells #[.int .i64 0,.int .u64 0,.slice none 0 0,.slice none 0 0] 94)).heap.size ((w.alloc (.cells #[.int .u64 (h.flg:Int),.int .i64 2,.int .i64 h.dsc,.string h.dnm,.int .u64 (h.dn:Int),.int .u64 (h.dv:Int),.int .i64 h.ssc,.string h.snm,.int .u64 (h.sn:Int),.int .u64 (h.sv:Int),.int .i64 h.rsc,.string h.rnm,.int .u64 (h.rn:Int),.int .u64 (h.rv:Int),.int .u64 (h.tim:Int),.int .u64 (h.seq:Int),.int .u64 (h.lif:Int),.slice A n c] 28)).alloc (.cells #[.int .i64 0,.int .u64 0,.slice none 0 0,.slice none 0 0] 94)) W→W.cell? ⟨w.heap.size,0,none⟩=some (.int .u64 (h.flg:Int))∧W.cell? ⟨w.heap.size,1,none⟩=some (.int .i64 2)∧W.cell? ⟨w.heap.size,2,none⟩=some (.int .i64 h.dsc)∧W.cell? ⟨w.heap.size,3,none⟩=some (.string h.dnm)∧W.cell? ⟨w.heap.size,4,none⟩=some (.int .u64 (h.dn:Int))∧W.cell? ⟨w.heap.size,5,none⟩=some (.int .u64 (h.dv:Int))∧W.cell? ⟨w.heap.size,6,none⟩=some (.int .i64 h.ssc)∧W.cell? ⟨w.heap.size,7,none⟩=some (.string h.snm)∧W.cell? ⟨w.heap.size,8,none⟩=some (.int .u64 (h.sn:Int))∧W.cell? ⟨w.heap.size,9,none⟩=some (.int .u64 (h.sv:Int))∧W.cell? ⟨w.heap.size,10,none⟩=some (.int .i64 h.rsc)∧W.cell? ⟨w.heap.size,11,none⟩=some (.string h.rnm)∧W.cell? ⟨w.heap.size,12,none⟩=some (.int .u64 (h.rn:Int))∧W.cell? ⟨w.heap.size,13,none⟩=some (.int .u64 (h.rv:Int))∧W.cell? ⟨w.heap.size,14,none⟩=some (.int .u64 (h.tim:Int))∧W.cell? ⟨w.heap.size,15,none⟩=some (.int .u64 (h.seq:Int))∧W.cell? ⟨w.heap.size,16,none⟩=some (.int .u64 (h.lif:Int))∧W.cell? ⟨w.heap.size,17,none⟩=some (.slice A n c)):=fun W hb=>box18 rfl (hb1.trans (hb.mono (by rw [hs0];exact Nat.le_succ _)))
 have E1:Hid (∀ (W:World),Below ((w.alloc (.cells #[.int .u64 (h.flg:Int),.int .i64 2,.int .i64 h.dsc,.string h.dnm,.int .u64 (h.dn:Int),.int .u64 (h.dv:Int),.int .i64 h.ssc,.string h.snm,.int .u64 (h.sn:Int),.int .u64 (h.sv:Int),.int .i64 h.rsc,.string h.rnm,.int .u64 (h.rn:Int),.int .u64 (h.rv:Int),.int .u64 (h.tim:Int),.int .u64 (h.seq:Int),.int .u64 (h.lif:Int),.slice A n c] 28)).alloc (.cells #[.int .i64 0,.int .u64 0,.slice none 0 0,.slice none 0 0] 94)).heap.size ((w.alloc (.cells #[.int .u64 (h.flg:Int),.int .i64 2,.int .i64 h.dsc,.string h.dnm,.int .u64 (h.dn:Int),.int .u64 (h.dv:Int),.int .i64 h.ssc,.string h.snm,.int .u64 (h.sn:Int),.int .u64 (h.sv:Int),.int .i64 h.rsc,.string h.rnm,.int .u64 (h.rn:Int),.int .u64 (h.rv:Int),.int .u64 (h.tim:Int),.int .u64 (h.seq:Int),.int .u64 (h.lif:Int),.slice A n c] 28)).alloc (.cells #[.int .i64 0,.int .u64 0,.slice none 0 0,.slice none 0 0] 94)) W→Calls Tryz.prog 231 #[epdV h.dsc h.dnm h.dn h.dv] W (GivesL W.heap.size (itemE h.dst) W)):=fun W hb=>uend_any S _ _ _ _ W (hL.below hb (Nat.le_refl _)) hd.dnm hd.dn hd.dv hw.2.1
 have E2:Hid (∀ (W:World),Below ((w.alloc (.cells #[.int .u64 (h.flg:Int),.int .i64 2,.int .i64 h.dsc,.string h.dnm,.int .u64 (h.dn:Int),.int .u64 (h.dv:Int),.int .i64 h.ssc,.string h.snm,.int .u64 (h.sn:Int),.int .u64 (h.sv:Int),.int .i64 h.rsc,.string h.rnm,.int .u64 (h.rn:Int),.int .u64 (h.rv:Int),.int .u64 (h.tim:Int),.int .u64 (h.seq:Int),.int .u64 (h.lif:Int),.slice A n c] 28)).alloc (.cells #[.int .i64 0,.int .u64 0,.slice none 0 0,.slice none 0 0] 94)).heap.size ((w.alloc (.cells #[.int .u64 (h.flg:Int),.int .i64 2,.int .i64 h.dsc,.string h.dnm,.int .u64 (h.dn:Int),.int .u64 (h.dv:Int),.int .i64 h.ssc,.string h.snm,.int .u64 (h.sn:Int),.int .u64 (h.sv:Int),.int .i64 h.rsc,.string h.rnm,.int .u64 (h.rn:Int),.int .u64 (h.rv:Int),.int .u64 (h.tim:Int),.int .u64 (h.seq:Int),.int .u64 (h.lif:Int),.slice A n c] 28)).alloc (.cells #[.int .i64 0,.int .u64 0,.slice none 0 0,.slice none 0 0] 94)) W→Calls Tryz.prog 231 #[epdV h.ssc h.snm h.sn h.sv] W (GivesL W.heap.size (itemE h.src) W)):=fun W hb=>uend_any S _ _ _ _ W (hL.below hb (Nat.le_refl _)) hd.snm hd.sn hd.sv hw.2.2.1
 have E3:Hid (∀ (W:World),Below ((w.alloc (.cells #[.int .u64 (h.flg:Int),.int .i64 2,.int .i64 h.dsc,.string h.dnm,.int .u64 (h.dn:Int),.int .u64 (h.dv:Int),.int .i64 h.ssc,.string h.snm,.int .u64 (h.sn:Int),.int .u64 (h.sv:Int),.int .i64 h.rsc,.string h.rnm,.int .u64 (h.rn:Int),.int .u64 (h.rv:Int),.int .u64 (h.tim:Int),.int .u64 (h.seq:Int),.int .u64 (h.lif:Int),.slice A n c] 28)).alloc (.cells #[.int .i64 0,.int .u64 0,.slice none 0 0,.slice none 0 0] 94)).heap.size ((w.alloc (.cells #[.int .u64 (h.flg:Int),.int .i64 2,.int .i64 h.dsc,.string h.dnm,.int .u64 (h.dn:Int),.int .u64 (h.dv:Int),.int .i64 h.ssc,.string h.snm,.int .u64 (h.sn:Int),.int .u64 (h.sv:Int),.int .i64 h.rsc,.string h.rnm,.int .u64 (h.rn:Int),.int .u64 (h.rv:Int),.int .u64 (h.tim:Int),.int .u64 (h.seq:Int),.int .u64 (h.lif:Int),.slice A n c] 28)).alloc (.cells #[.int .i64 0,.int .u64 0,.slice none 0 0,.slice none 0 0] 94)) W→Calls Tryz.prog 231 #[epdV h.rsc h.rnm h.rn h.rv] W (GivesL W.heap.size (itemE h.rep) W)):=fun W hb=>uend_any S _ _ _ _ W (hL.below hb (Nat.le_refl _)) hd.rnm hd.rn hd.rv hw.2.2.2
 have HZ:=hid hz
 have HB0:=hid hB0
 have CU:=hid cuintV
 have HPA:Hid (pars [.mk 0 7 [] [],.mk 0 h.flg [] [],.mk 0 2 [] [],itemE h.dst,itemE h.src,itemE h.rep,.mk 4 0 [] [.mk 0 h.tim [] [],.mk 0 h.seq [] []],.mk 0 h.lif [] []]≤30):=by
  show _≤_
  have p1:=(itemE_good hw.2.1).2.2
  have p2:=(itemE_good hw.2.2.1).2.2
  have p3:=(itemE_good hw.2.2.2).2.2
  have e1:(h.bun l).dst=h.dst:=rfl
  have e2:(h.bun l).src=h.src:=rfl
  have e3:(h.bun l).rep=h.rep:=rfl
  rw [e1] at p1
  rw [e2] at p2
  rw [e3] at p3
  simp [pars,par]
  omega
 clear hS hd hw hB0 hb1 hz hL
 unfold bunV epdV at *
 rw [hk]
 clear hk
 generalize itemE h.dst=ID at *
 generalize itemE h.src=IS at *
 generalize itemE h.rep=IR at *
 go_enter Tryz.func207,Tryz.ntmps207
 go_wp2_with fail
 generalize ((w.alloc (.cells #[.int .u64 (h.flg:Int),.int .i64 2,.int .i64 h.dsc,.string h.dnm,.int .u64 (h.dn:Int),.int .u64 (h.dv:Int),.int .i64 h.ssc,.string h.snm,.int .u64 (h.sn:Int),.int .u64 (h.sv:Int),.int .i64 h.rsc,.string h.rnm,.int .u64 (h.rn:Int),.int .u64 (h.rv:Int),.int .u64 (h.tim:Int),.int .u64 (h.seq:Int),.int .u64 (h.lif:Int),.slice A n c] 28)).alloc (.cells #[.int .i64 0,.int .u64 0,.slice none 0 0,.slice none 0 0] 94))=W0 at *
 have HS0:=hid hs0
 clear hs0
 go_region_held3 (fun W=>W.cell? ⟨w.heap.size,0,none⟩=some (.int .u64 (h.flg:Int))∧W.cell? ⟨w.heap.size,1,none⟩=some (.int .i64 2)∧W.cell? ⟨w.heap.size,2,none⟩=some (.int .i64 h.dsc)∧W.cell? ⟨w.heap.size,3,none⟩=some (.string h.dnm)∧W.cell? ⟨w.heap.size,4,none⟩=some (.int .u64 (h.dn:Int))∧W.cell? ⟨w.heap.size,5,none⟩=some (.int .u64 (h.dv:Int))∧W.cell? ⟨w.heap.size,6,none⟩=some (.int .i64 h.ssc)∧W.cell? ⟨w.heap.size,7,none⟩=some (.string h.snm)∧W.cell? ⟨w.heap.size,8,none⟩=some (.int .u64 (h.sn:Int))∧W.cell? ⟨w.heap.size,9,none⟩=some (.int .u64 (h.sv:Int))∧W.cell? ⟨w.heap.size,10,none⟩=some (.int .i64 h.rsc)∧W.cell? ⟨w.heap.size,11,none⟩=some (.string h.rnm)∧W.cell? ⟨w.heap.size,12,none⟩=some (.int .u64 (h.rn:Int))∧W.cell? ⟨w.heap.size,13,none⟩=some (.int .u64 (h.rv:Int))∧W.cell? ⟨w.heap.size,14,none⟩=some (.int .u64 (h.tim:Int))∧W.cell? ⟨w.heap.size,15,none⟩=some (.int .u64 (h.seq:Int))∧W.cell? ⟨w.heap.size,16,none⟩=some (.int .u64 (h.lif:Int))∧W.cell? ⟨w.heap.size,17,none⟩=some (.slice A n c))
  (first|(with_reducible exact HY.out _ B10.out)|(with_reducible exact HY.out _ B9.out)|(with_reducible exact HY.out _ B8.out)|(with_reducible exact HY.out _ B7.out)|(with_reducible exact HY.out _ B6.out)|(with_reducible exact HY.out _ B5.out)|(with_reducible exact HY.out _ B4.out)|(with_reducible exact HY.out _ B3.out)|(with_reducible exact HY.out _ B2.out)|(with_reducible exact HY.out _ B1.out)|(with_reducible exact HY.out _ (B8.out.alloc B8.out.size _))|(with_reducible exact HY.out _ (B10.out.alloc B10.out.size _))|(with_reducible exact HY.out _ (Below.refl _ _))|(with_reducible exact HY.out _ Below.drew_)|fail)
  (first
   | (go_at_call 152;have _g:=B9;clear _g;refine (CU.out _ _).mono ?_;rintro e w10 ⟨rfl,hb10⟩;have B10:=hid (Below.push B9.out (Nat.le_refl _) hb10);have D10:=hid hb10;clear hb10)
   | (go_at_call 153;refine (carray_two (lo:=w.heap.size+2) (by have:=B8.out.size;have:=HS0.out;omega) (RdI.mk_uint HT.out.2.1) (RdI.mk_uint HT.out.2.2.1) (by simp [pars,par])).mono ?_;rintro e w9 ⟨v9,rfl,hv9,hb9⟩;obtain ⟨k9,n9,A9,nd9,cd9,AL9,nl9,cl9,rfl⟩:=hv9.form;have V9:=hid hv9;have B9:=hid ((B8.out.alloc B8.out.size _).trans (hb9.mono (Nat.le_trans B8.out.size (le_alloc _ _))));have D9:Hid (Below w8.heap.size w8 w9):=((Below.refl _ w8).alloc (Nat.le_refl _) _).trans (hb9.mono (le_alloc _ _));clear hb9 hv9)
   | (go_at_call 152;have _g:=B7;clear _g;refine (CU.out _ _).mono ?_;rintro e w8 ⟨rfl,hb8⟩;have B8:=hid (Below.push B7.out (Nat.le_refl _) hb8);have D8:=hid hb8;clear hb8)
   | (go_at_call 152;have _g:=B6;clear _g;refine (CU.out _ _).mono ?_;rintro e w7 ⟨rfl,hb7⟩;have B7:=hid (Below.push B6.out (Nat.le_refl _) hb7);have D7:=hid hb7;clear hb7)
   | (go_at_call 231;have _g:=B5;clear _g;refine (E3.out _ B5.out).mono ?_;rintro e w6 ⟨v6,rfl,hv6,hb6⟩;obtain ⟨k6,n6,A6,nd6,cd6,AL6,nl6,cl6,rfl⟩:=hv6.form;have V6:=hid (hv6.grow (lo':=w.heap.size+2) (Below.refl _ _) (by have:=B5.out.size;have:=HS0.out;omega));clear hv6;have B6:=hid (Below.push B5.out (Nat.le_refl _) hb6);have D6:=hid hb6;clear hb6)
   | (go_at_call 231;have _g:=B4;clear _g;refine (E2.out _ B4.out).mono ?_;rintro e w5 ⟨v5,rfl,hv5,hb5⟩;obtain ⟨k5,n5,A5,nd5,cd5,AL5,nl5,cl5,rfl⟩:=hv5.form;have V5:=hid (hv5.grow (lo':=w.heap.size+2) (Below.refl _ _) (by have:=B4.out.size;have:=HS0.out;omega));clear hv5;have B5:=hid (Below.push B4.out (Nat.le_refl _) hb5);have D5:=hid hb5;clear hb5)
   | (go_at_call 231;have _g:=B3;clear _g;refine (E1.out _ B3.out).mono ?_;rintro e w4 ⟨v4,rfl,hv4,hb4⟩;obtain ⟨k4,n4,A4,nd4,cd4,AL4,nl4,cl4,rfl⟩:=hv4.form;have V4:=hid (hv4.grow (lo':=w.heap.size+2) (Below.refl _ _) (by have:=B3.out.size;have:=HS0.out;omega));clear hv4;have B4:=hid (Below.push B3.out (Nat.le_refl _) hb4);have D4:=hid hb4;clear hb4)
   | (go_at_call 152;have _g:=B2;clear _g;refine (CU.out _ _).mono ?_;rintro e w3 ⟨rfl,hb3⟩;have B3:=hid (Below.push B2.out (Nat.le_refl _) hb3);have D3:=hid hb3;clear hb3)
   | (go_at_call 152;have _g:=B1;clear _g;refine (CU.out _ _).mono ?_;rintro e w2 ⟨rfl,hb2⟩;have B2:=hid (Below.push B1.out (Nat.le_refl _) hb2);have D2:=hid hb2;clear hb2)
   | (go_at_call 152;refine (CU.out _ _).mono ?_;rintro e w1 ⟨rfl,hb1⟩;have B1:Hid (Below W0.heap.size W0 w1):=Below.drew_.trans hb1;clear hb1)
   | fail)
 have hlo5:w.heap.size+2≤w10.heap.size:=by have:=B10.out.size;have:=HS0.out;omega
 have hit:ItC (mask (lows (w.heap.size+2)) w10) w10.heap.size [.int .i64 0,.int .u64 7,.slice none 0 0,.slice none 0 0,.int .i64 0,.int .u64 (h.flg:Int),.slice none 0 0,.slice none 0 0,.int .i64 0,.int .u64 (IntKind.u64.wrap 2),.slice none 0 0,.slice none 0 0,.int .i64 k4,.int .u64 (n4:Int),.slice A4 nd4 cd4,.slice AL4 nl4 cl4,.int .i64 k5,.int .u64 (n5:Int),.slice A5 nd5 cd5,.slice AL5 nl5 cl5,.int .i64 k6,.int .u64 (n6:Int),.slice A6 nd6 cd6,.slice AL6 nl6 cl6,.int .i64 k9,.int .u64 (n9:Int),.slice A9 nd9 cd9,.slice AL9 nl9 cl9,.int .i64 0,.int .u64 (h.lif:Int),.slice none 0 0,.slice none 0 0] [.mk 0 7 [] [],.mk 0 h.flg [] [],.mk 0 2 [] [],ID,IS,IR,.mk 4 0 [] [.mk 0 h.tim [] [],.mk 0 h.seq [] []],.mk 0 h.lif [] []]:=⟨RdI.mk_uint (n:=7) (by decide),RdI.mk_uint HT.out.1,RdI.mk_uint (n:=2) (by decide),V4.out.grow (Below.push (Below.push (Below.push (Below.push (Below.push D5.out (Nat.le_refl _) D6.out) (Nat.le_refl _) D7.out) (Nat.le_refl _) D8.out) (Nat.le_refl _) D9.out) (Nat.le_refl _) D10.out) (Nat.le_refl _),V5.out.grow (Below.push (Below.push (Below.push (Below.push D6.out (Nat.le_refl _) D7.out) (Nat.le_refl _) D8.out) (Nat.le_refl _) D9.out) (Nat.le_refl _) D10.out) (Nat.le_refl _),V6.out.grow (Below.push (Below.push (Below.push D7.out (Nat.le_refl _) D8.out) (Nat.le_refl _) D9.out) (Nat.le_refl _) D10.out) (Nat.le_refl _),V9.out.grow D10.out (Nat.le_refl _),RdI.mk_uint HT.out.2.2.2,trivial⟩
 obtain ⟨-,y1,-⟩:=HY.out _ (B10.out.alloc B10.out.size (.cells #[.int .i64 0,.int .u64 7,.slice none 0 0,.slice none 0 0,.int .i64 0,.int .u64 (h.flg:Int),.slice none 0 0,.slice none 0 0,.int .i64 0,.int .u64 (IntKind.u64.wrap 2),.slice none 0 0,.slice none 0 0,.int .i64 k4,.int .u64 (n4:Int),.slice A4 nd4 cd4,.slice AL4 nl4 cl4,.int .i64 k5,.int .u64 (n5:Int),.slice A5 nd5 cd5,.slice AL5 nl5 cl5,.int .i64 k6,.int .u64 (n6:Int),.slice A6 nd6 cd6,.slice AL6 nl6 cl6,.int .i64 k9,.int .u64 (n9:Int),.slice A9 nd9 cd9,.slice AL9 nl9 cl9,.int .i64 0,.int .u64 (h.lif:Int),.slice none 0 0,.slice none 0 0] 94))
 have B11:=hid (B10.out.alloc B10.out.size (.cells #[.int .i64 0,.int .u64 7,.slice none 0 0,.slice none 0 0,.int .i64 0,.int .u64 (h.flg:Int),.slice none 0 0,.slice none 0 0,.int .i64 0,.int .u64 (IntKind.u64.wrap 2),.slice none 0 0,.slice none 0 0,.int .i64 k4,.int .u64 (n4:Int),.slice A4 nd4 cd4,.slice AL4 nl4 cl4,.int .i64 k5,.int .u64 (n5:Int),.slice A5 nd5 cd5,.slice AL5 nl5 cl5,.int .i64 k6,.int .u64 (n6:Int),.slice A6 nd6 cd6,.slice AL6 nl6 cl6,.int .i64 k9,.int .u64 (n9:Int),.slice A9 nd9 cd9,.slice AL9 nl9 cl9,.int .i64 0,.int .u64 (h.lif:Int),.slice none 0 0,.slice none 0 0] 94))
 have HLO:=hid hlo5
 obtain ⟨i0,hi0,hz0,hz1,hz2⟩:=info_parts info_item
 have HI:=hid hi0
 have HZ0:=hid hz0
 have HZ1:=hid hz1
 have HZ2:=hid hz2
 have HIT:=hid hit
 have mkz:=make_z4
 have CS:=hid (fun W=>usize_any 2 W)
 rw [show ((sumN 2:Nat):Int)=4 from rfl] at CS
 have O6:Hid ((w10.alloc (.cells #[.int .i64 0,.int .u64 7,.slice none 0 0,.slice none 0 0,.int .i64 0,.int .u64 (h.flg:Int),.slice none 0 0,.slice none 0 0,.int .i64 0,.int .u64 (IntKind.u64.wrap 2),.slice none 0 0,.slice none 0 0,.int .i64 k4,.int .u64 (n4:Int),.slice A4 nd4 cd4,.slice AL4 nl4 cl4,.int .i64 k5,.int .u64 (n5:Int),.slice A5 nd5 cd5,.slice AL5 nl5 cl5,.int .i64 k6,.int .u64 (n6:Int),.slice A6 nd6 cd6,.slice AL6 nl6 cl6,.int .i64 k9,.int .u64 (n9:Int),.slice A9 nd9 cd9,.slice AL9 nl9 cl9,.int .i64 0,.int .u64 (h.lif:Int),.slice none 0 0,.slice none 0 0] 94)).ownsRow (w.heap.size+2) 94 4 (.slice (some ⟨w10.heap.size,0,none⟩) 8 8) 8 [.int .i64 0,.int .u64 7,.slice none 0 0,.slice none 0 0,.int .i64 0,.int .u64 (h.flg:Int),.slice none 0 0,.slice none 0 0,.int .i64 0,.int .u64 (IntKind.u64.wrap 2),.slice none 0 0,.slice none 0 0,.int .i64 k4,.int .u64 (n4:Int),.slice A4 nd4 cd4,.slice AL4 nl4 cl4,.int .i64 k5,.int .u64 (n5:Int),.slice A5 nd5 cd5,.slice AL5 nl5 cl5,.int .i64 k6,.int .u64 (n6:Int),.slice A6 nd6 cd6,.slice AL6 nl6 cl6,.int .i64 k9,.int .u64 (n9:Int),.slice A9 nd9 cd9,.slice AL9 nl9 cl9,.int .i64 0,.int .u64 (h.lif:Int),.slice none 0 0,.slice none 0 0]):=World.ownsRow_lit (base:=w.heap.size+2) (e:=94) (size:=4) w10 #[.int .i64 0,.int .u64 7,.slice none 0 0,.slice none 0 0,.int .i64 0,.int .u64 (h.flg:Int),.slice none 0 0,.slice none 0 0,.int .i64 0,.int .u64 (IntKind.u64.wrap 2),.slice none 0 0,.slice none 0 0,.int .i64 k4,.int .u64 (n4:Int),.slice A4 nd4 cd4,.slice AL4 nl4 cl4,.int .i64 k5,.int .u64 (n5:Int),.slice A5 nd5 cd5,.slice AL5 nl5 cl5,.int .i64 k6,.int .u64 (n6:Int),.slice A6 nd6 cd6,.slice AL6 nl6 cl6,.int .i64 k9,.int .u64 (n9:Int),.slice A9 nd9 cd9,.slice AL9 nl9 cl9,.int .i64 0,.int .u64 (h.lif:Int),.slice none 0 0,.slice none 0 0] 8 hlo5 (by decide) rfl
 have HS6:Hid ((w10.alloc (.cells #[.int .i64 0,.int .u64 7,.slice none 0 0,.slice none 0 0,.int .i64 0,.int .u64 (h.flg:Int),.slice none 0 0,.slice none 0 0,.int .i64 0,.int .u64 (IntKind.u64.wrap 2),.slice none 0 0,.slice none 0 0,.int .i64 k4,.int .u64 (n4:Int),.slice A4 nd4 cd4,.slice AL4 nl4 cl4,.int .i64 k5,.int .u64 (n5:Int),.slice A5 nd5 cd5,.slice AL5 nl5 cl5,.int .i64 k6,.int .u64 (n6:Int),.slice A6 nd6 cd6,.slice AL6 nl6 cl6,.int .i64 k9,.int .u64 (n9:Int),.slice A9 nd9 cd9,.slice AL9 nl9 cl9,.int .i64 0,.int .u64 (h.lif:Int),.slice none 0 0,.slice none 0 0] 94)).heap.size=w10.heap.size+1):=by show _=_;simp
 clear hlo5 hit hi0 hz0 hz1 hz2
 generalize hW6:(w10.alloc (.cells #[.int .i64 0,.int .u64 7,.slice none 0 0,.slice none 0 0,.int .i64 0,.int .u64 (h.flg:Int),.slice none 0 0,.slice none 0 0,.int .i64 0,.int .u64 (IntKind.u64.wrap 2),.slice none 0 0,.slice none 0 0,.int .i64 k4,.int .u64 (n4:Int),.slice A4 nd4 cd4,.slice AL4 nl4 cl4,.int .i64 k5,.int .u64 (n5:Int),.slice A5 nd5 cd5,.slice AL5 nl5 cl5,.int .i64 k6,.int .u64 (n6:Int),.slice A6 nd6 cd6,.slice AL6 nl6 cl6,.int .i64 k9,.int .u64 (n9:Int),.slice A9 nd9 cd9,.slice AL9 nl9 cl9,.int .i64 0,.int .u64 (h.lif:Int),.slice none 0 0,.slice none 0 0] 94))=W6 at *
 have HW6:=hid hW6
 clear hW6
 go_wp2_with fail
 refine (CS.out _).mono ?_
 rintro e w11 ⟨rfl,hb11⟩
 have CB2:Hid (Calls Tryz.prog 132 #[.slice (some ⟨w11.heap.size,0,none⟩) 4 4] (w11.alloc (.cells #[.int .u8 0,.int .u8 0,.int .u8 0,.int .u8 0] 5)) (GivesL (w10.heap.size+1) (.mk 2 0 (List.replicate 4 0) []) (w11.alloc (.cells #[.int .u8 0,.int .u8 0,.int .u8 0,.int .u8 0] 5)))) :=
  cbytesL_any (w10.heap.size+1) (some ⟨w11.heap.size,0,none⟩) 4 4 (w11.heap.size+1) (List.replicate 4 0) _ (by have h1:=hb11.size;have:=HS6.out;simp;omega) (Nat.le_of_eq (by simp)) (Rd.lit w11 w11.heap.size rfl (List.replicate 4 0) 5 #[.int .u8 0,.int .u8 0,.int .u8 0,.int .u8 0] rfl 4 rfl) (by decide)
 have B7':Hid (Below W6.heap.size W6 (w11.alloc (.cells #[.int .u8 0,.int .u8 0,.int .u8 0,.int .u8 0] 5))):=hb11.alloc hb11.size _
 clear hb11
 go_wp2_with fail
 refine CB2.out.mono ?_
 rintro e wq ⟨vq,rfl,hvq,hbq⟩
 obtain ⟨kq,nq,Aq,ndq,cdq,ALq,nlq,clq,rfl⟩:=hvq.form
 have BQ:=hid (B7'.out.trans (hbq.mono B7'.out.size))
 have VQ:=hid hvq
 have OX:Hid ((wq.alloc (.cells #[.int .i64 kq,.int .u64 (nq:Int),.slice Aq ndq cdq,.slice ALq nlq clq] 94)).ownsRow (w.heap.size+2) 94 4 (.slice (some ⟨w10.heap.size,0,none⟩) 8 8) 8 [.int .i64 0,.int .u64 7,.slice none 0 0,.slice none 0 0,.int .i64 0,.int .u64 (h.flg:Int),.slice none 0 0,.slice none 0 0,.int .i64 0,.int .u64 (IntKind.u64.wrap 2),.slice none 0 0,.slice none 0 0,.int .i64 k4,.int .u64 (n4:Int),.slice A4 nd4 cd4,.slice AL4 nl4 cl4,.int .i64 k5,.int .u64 (n5:Int),.slice A5 nd5 cd5,.slice AL5 nl5 cl5,.int .i64 k6,.int .u64 (n6:Int),.slice A6 nd6 cd6,.slice AL6 nl6 cl6,.int .i64 k9,.int .u64 (n9:Int),.slice A9 nd9 cd9,.slice AL9 nl9 cl9,.int .i64 0,.int .u64 (h.lif:Int),.slice none 0 0,.slice none 0 0]):=ownsRow_below O6.out (BQ.out.alloc BQ.out.size _)
 have NX:Hid (∀ j u,([.int .i64 kq,.int .u64 (nq:Int),.slice Aq ndq cdq,.slice ALq nlq clq]:List Value)[j]?=some u→(wq.alloc (.cells #[.int .i64 kq,.int .u64 (nq:Int),.slice Aq ndq cdq,.slice ALq nlq clq] 94)).cell? ((⟨wq.heap.size,0,none⟩:Addr).add j)=some u):=fun j u hj=>by
  rw [show (⟨wq.heap.size,0,none⟩:Addr).add j=⟨wq.heap.size,j,none⟩ by unfold Addr.add;split <;> simp_all,World.cell?_alloc_at _ _ _ _ rfl]
  simpa using hj
 have NO:Hid (∀ u∈([.int .i64 kq,.int .u64 (nq:Int),.slice Aq ndq cdq,.slice ALq nlq clq]:List Value),u.oneCell'=true):=fun u hu=>by
  simp only [List.mem_cons,List.not_mem_nil,or_false] at hu
  rcases hu with rfl|rfl|rfl|rfl <;> rfl
 have HBS:Hid (w.heap.size+2≤(wq.alloc (.cells #[.int .i64 kq,.int .u64 (nq:Int),.slice Aq ndq cdq,.slice ALq nlq clq] 94)).heap.size):=by show _≤_;have h1:=BQ.out.size;have:=HS6.out;have:=HLO.out;simp;omega
 clear hvq hbq
 go_wp2_with (first
  | (at_builtin;refine wpList_append_lies _ rfl (.tmp 36) (.tmp 42) 91 rfl (w.heap.size+2) 94 i0 _ 4 64 Tryz.underlying91 HI.out HZ0.out HZ1.out HZ2.out rfl (by decide) _ 8 _ rfl OX.out ⟨wq.heap.size,0,none⟩ 1 1 _ rfl rfl NX.out NO.out (by decide) (by decide) (by decide) HBS.out _ rfl ?_;intro g cap wB ho hg hat hlt;have OB:=hid ho;have GB:=hid hg;have AT:=hid hat;have LT:=hid hlt;clear ho hg hat hlt)
  | fail)
 have hwB:=GB.out.size
 have hwq:w10.heap.size+1≤wq.heap.size:=by have h1:=BQ.out.size;have:=HS6.out;omega
 have hsA:(wq.alloc (.cells #[.int .i64 kq,.int .u64 (nq:Int),.slice Aq ndq cdq,.slice ALq nlq clq] 94)).heap.size=wq.heap.size+1:=by simp
 have hblk:∀ j,j<wq.heap.size→j≠w10.heap.size→wB.heap[j]?=wq.heap[j]?:=fun j hj hne=>by
  rw [GB.out.block j (by rw [hsA];omega) (fun e=>by cases e;exact hne rfl),Below.heap_alloc _ _ _ hj]
 have hblk5:∀ j,j<w10.heap.size→wB.heap[j]?=w10.heap[j]?:=fun j hj=>by
  have h6:=(BQ.out.block j (by rw [HS6.out];omega)).trans (show W6.heap[j]?=w10.heap[j]? by rw [← HW6.out];exact Below.heap_alloc _ _ _ hj)
  rw [hblk j (by omega) (by omega),h6]
 have hitB:ItC (mask (lows (w.heap.size+2)) wB) wB.heap.size ([.int .i64 0,.int .u64 7,.slice none 0 0,.slice none 0 0,.int .i64 0,.int .u64 (h.flg:Int),.slice none 0 0,.slice none 0 0,.int .i64 0,.int .u64 (IntKind.u64.wrap 2),.slice none 0 0,.slice none 0 0,.int .i64 k4,.int .u64 (n4:Int),.slice A4 nd4 cd4,.slice AL4 nl4 cl4,.int .i64 k5,.int .u64 (n5:Int),.slice A5 nd5 cd5,.slice AL5 nl5 cl5,.int .i64 k6,.int .u64 (n6:Int),.slice A6 nd6 cd6,.slice AL6 nl6 cl6,.int .i64 k9,.int .u64 (n9:Int),.slice A9 nd9 cd9,.slice AL9 nl9 cl9,.int .i64 0,.int .u64 (h.lif:Int),.slice none 0 0,.slice none 0 0]++[.int .i64 kq,.int .u64 (nq:Int),.slice Aq ndq cdq,.slice ALq nlq clq]) ([.mk 0 7 [] [],.mk 0 h.flg [] [],.mk 0 2 [] [],ID,IS,IR,.mk 4 0 [] [.mk 0 h.tim [] [],.mk 0 h.seq [] []],.mk 0 h.lif [] []]++[.mk 2 0 (List.replicate 4 0) []]) :=
  ItC.snoc (VQ.out.mask_go (by omega) (fun j hj hs=>hblk j hj (by have:=lows_f.1 hs;omega)) (fun j hj hs=>lows_f.2 (by have:=lows_f.1 hs;have:=HLO.out;omega))) (HIT.out.mask_go (by omega) (fun j hj _=>hblk5 j hj) (fun _ _ h=>h))
 have hlg:w.heap.size+2≤g:=by
  rcases AT.out with h|h
  ·
   cases h;exact HLO.out
  ·
   rw [h,hsA];have:=HLO.out;omega
 have ho:=OB.out
 have hcap:9≤cap:=by
  rcases ho.2 with ⟨hv,_⟩|⟨g',cap',cur,hv,_,_,hnc,_⟩
  ·
   cases hv
  ·
   injection hv with _ _ h3
   omega
 have hBB:Below (w.heap.size+2) W6 wB:=(BQ.out.mono (by rw [HS6.out];have:=HLO.out;omega)).trans ((Below.refl (w.heap.size+2) wq).alloc (by have:=HLO.out;omega) _ |>.trans ⟨GB.out.os,GB.out.tape,GB.out.output,GB.out.size,fun j hj=>GB.out.block j (by rw [hsA];have:=HLO.out;omega) (fun e=>by have e':j=w10.heap.size:=(by cases e;rfl);have:=HLO.out;omega)⟩)
 have HC:=hid (carray_row (W:=wB) (b:=g) (B:=wB.heap.size) (lo:=w.heap.size+2) (n:=9) (cap:=cap) (by have:=HLO.out;omega) (Nat.le_refl _) LT.out (ItC.lie hitB (fun j u hj=>by
  have hjl:j<9*4:=by
   rcases Nat.lt_or_ge j 36 with h|h
   ·
    exact h
   ·
    rw [List.getElem?_eq_none (by simpa using h)] at hj;cases hj
  rw [Nat.zero_add,mask_cell (lows_f.2 hlg),World.ownsRow.cellAt ho j hjl]
  exact hj)) rfl (by decide) (by rw [pars_app];have:=HPA.out;have e:pars [.mk 2 0 (List.replicate 4 0) []]=1:=rfl;omega) hcap)
 have HBB:=hid hBB
 have HWB:=hid (show w.heap.size+2≤wB.heap.size by have:=HLO.out;omega)
 clear hwB hwq hsA hblk hblk5 hitB hlg ho hcap hBB
 go_wp2_with fail
 refine HC.out.mono ?_
 rintro e wz ⟨vz,rfl,hvz,hbz⟩
 have hbE:Below (w.heap.size+2) W0 wz:=((B11.out.mono (Nat.le_of_eq HS0.out.symm)).trans HBB.out).trans (hbz.mono HWB.out)
 clear hbz
 obtain ⟨kz,nz,Az,ndz,cdz,ALz,nlz,clz,rfl⟩:=hvz.form
 obtain ⟨⟨z0,z1,z2,z3⟩,f0,f1,f2,f3⟩:=HZ.out _ hbE
 have VZ:=hid hvz
 have BE:=hid hbE
 clear hvz hbE
 go_wp2_with fail
 refine bodyPost_ret (v:=.agg #[.int .i64 kz,.int .u64 (nz:Int),.slice Az ndz cdz,.slice ALz nlz clz]) (by simp [results,Tryz.results207,go_sem,z0,z1,z2,z3]) rfl ⟨_,rfl,?_,?_⟩
 ·
  exact VZ.out.put4 (Nat.le_add_right _ 2) (Nat.lt_succ_self _) (Nat.le_of_eq size_put4.symm)
 ·
  exact below_set4 (HB0.out.trans (BE.out.mono (Nat.le_add_right _ 2))) (Nat.le_succ _)
theorem uitem_any (S:Snt) (h:BH) (l:List Blk) (A:Option Addr) (n c:Nat) (w:World) (hS:Wd S w) (hd:h.Bd) (hw:Wr (h.bun l)) :
  Calls Tryz.prog 207 #[bunV h A n c] w (GivesL w.heap.size (itmP (h.bun l) (nullsP (h.bun l))) w):=by
 have h3:h.crc=0∨h.crc=1∨h.crc=2:=by have h1:0≤h.crc∧h.crc≤2:=hw.1;omega
 rcases h3 with h3|h3|h3
 ·
  exact uitem_0 S h l A n c w hS hd hw h3
 ·
  exact uitem_1 S h l A n c w hS hd hw h3
 ·
  exact uitem_2 S h l A n c w hS hd hw h3
end Go.Proofs.YteckeagobafoiaaGreatDoor
