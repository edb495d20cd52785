import Derived.Test.YtlecbblmaadpiaaGreatDoorKBunF
import Derived.Test.YtlecbblmaadpiaaGreatDoorKBunG
import Derived.Test.YtlecbblmaadpiaaGreatDoorKBunH
import Derived.Test.YtlecbblmaadpiaaGreatDoorKKDecL
import Derived.Deep.RegionHeld3
namespace Go.Proofs.YtlecbblmaadpiaaGreatDoor
set_option maxRecDepth 100000
set_option maxHeartbeats 16000000
open Go.RowKit
open Go.Lib (hid)
def PrimU (l:List UInt8) (w:World) (e:Ending) (w':World):Prop:=Below w.heap.size w w' ∧
 ((∃ (h:BH) (N:Nat),e=.returned (.tuple #[bunV h none 0 0,.int .i64 (N:Int),.nilIface])∧h.Bd∧PrimAt l (h.bun [])∧N=(primW (h.bun [])).length) ∨
  ((∀ b,¬ PrimAt l b)∧∃ z s,z≠0∧e=.returned (.tuple #[.agg #[.int .u64 0,.int .i64 0,.int .i64 0,.string ⟨#[]⟩,.int .u64 0,.int .u64 0,.int .i64 0,.string ⟨#[]⟩,.int .u64 0,.int .u64 0,.int .i64 0,.string ⟨#[]⟩,.int .u64 0,.int .u64 0,.int .u64 0,.int .u64 0,.int .u64 0,.slice none 0 0],.int .i64 0,ufl z s])))
theorem ucompare_ok (A A':Option Addr) (n c n' c' s:Nat) (u v:List UInt8) (w:World) (h:Rd w w.heap.size A n u) (hc:n≤c) (h':Rd w w.heap.size A' n' v) (hc':n'≤c') (hs:s≤n') (hn:n≤140737488355328) (hn':n'≤140737488355328) (hz:cmpU u v s=0) :
  Calls Tryz.prog 210 #[.slice A n c,.slice A' n' c',.int .i64 (s:Int)] w fun e w'=>e=.returned .nilIface∧Below w.heap.size w w' :=
 (ucompare_any A A' n c n' c' w.heap.size s u v w h hc h' hc' hs hn hn').mono fun e w' hh=>by
  rw [hz] at hh
  rcases hh.2 with ⟨-,h2⟩|⟨h2,-⟩
  ·
   exact ⟨h2,hh.1⟩
  ·
   exact absurd rfl h2
theorem ucompare_no (A A':Option Addr) (n c n' c' s:Nat) (u v:List UInt8) (w:World) (h:Rd w w.heap.size A n u) (hc:n≤c) (h':Rd w w.heap.size A' n' v) (hc':n'≤c') (hs:s≤n') (hn:n≤140737488355328) (hn':n'≤140737488355328) (hz:cmpU u v s≠0) :
  Calls Tryz.prog 210 #[.slice A n c,.slice A' n' c',.int .i64 (s:Int)] w fun e w'=>∃ q,e=.returned (ufl (cmpU u v s) q)∧Below w.heap.size w w' :=
 (ucompare_any A A' n c n' c' w.heap.size s u v w h hc h' hc' hs hn hn').mono fun e w' hh=>by
  rcases hh.2 with ⟨h2,-⟩|⟨-,q,h2⟩
  ·
   exact absurd h2 hz
  ·
   exact ⟨q,h2,hh.1⟩
theorem ureadP_any (S:Snt) (A:Option Addr) (n c B:Nat) (l:List UInt8) (w:World) (hS:Wd S w) (hB:B≤w.heap.size) (h:Rd w B A n l) (hn:n≤140737488355328) (hc:n≤c) :
  Calls Tryz.prog 174 #[.slice A n c] w (PrimU l w):=by
 have HB0:=hid ((Below.refl w.heap.size w).alloc nlr (.cells #[.int .u64 0,.int .i64 0,.int .i64 0,.string ⟨#[]⟩,.int .u64 0,.int .u64 0,.int .i64 0,.string ⟨#[]⟩,.int .u64 0,.int .u64 0,.int .i64 0,.string ⟨#[]⟩,.int .u64 0,.int .u64 0,.int .u64 0,.int .u64 0,.int .u64 0,.slice none 0 0] 73))
 have C1:=hid (cdecode_any A n c B l (w.alloc (.cells #[.int .u64 0,.int .i64 0,.int .i64 0,.string ⟨#[]⟩,.int .u64 0,.int .u64 0,.int .i64 0,.string ⟨#[]⟩,.int .u64 0,.int .u64 0,.int .i64 0,.string ⟨#[]⟩,.int .u64 0,.int .u64 0,.int .u64 0,.int .u64 0,.int .u64 0,.slice none 0 0] 73)) (Nat.le_trans hB (le_alloc _ _)) (h.alloc hB _) hn hc (hS.alloc _).laid)
 have HR0:=hid (fun (W:World) (hb:Below (w.heap.size+1) (w.alloc (.cells #[.int .u64 0,.int .i64 0,.int .i64 0,.string ⟨#[]⟩,.int .u64 0,.int .u64 0,.int .i64 0,.string ⟨#[]⟩,.int .u64 0,.int .u64 0,.int .i64 0,.string ⟨#[]⟩,.int .u64 0,.int .u64 0,.int .u64 0,.int .u64 0,.int .u64 0,.slice none 0 0] 73)) W)=>row_of_box rfl hb)
 have HWd:=hid (hS.alloc (.cells #[.int .u64 0,.int .i64 0,.int .i64 0,.string ⟨#[]⟩,.int .u64 0,.int .u64 0,.int .i64 0,.string ⟨#[]⟩,.int .u64 0,.int .u64 0,.int .i64 0,.string ⟨#[]⟩,.int .u64 0,.int .u64 0,.int .u64 0,.int .u64 0,.int .u64 0,.slice none 0 0] 73))
 have HR:=hid h
 have HH:=hid (And.intro hB (And.intro hn hc))
 have q1:=fun (W:World) (u:TypeId) (x:Value)=>run_neq_iface_nil (P:=Tryz.prog) (w:=W) 95 (by kernel_rfl) u x
 have q2:=fun (W:World) (u:TypeId) (x:Value)=>run_eql_iface_nil (P:=Tryz.prog) (w:=W) 95 (by kernel_rfl) u x
 have hs0:(w.alloc (.cells #[.int .u64 0,.int .i64 0,.int .i64 0,.string ⟨#[]⟩,.int .u64 0,.int .u64 0,.int .i64 0,.string ⟨#[]⟩,.int .u64 0,.int .u64 0,.int .i64 0,.string ⟨#[]⟩,.int .u64 0,.int .u64 0,.int .u64 0,.int .u64 0,.int .u64 0,.slice none 0 0] 73)).heap.size=w.heap.size+1:=by simp
 have HS0:=hid hs0
 clear h hB hn hc hS
 rcases decode_cases l with ⟨z,hz,hd⟩|⟨x,r,hl,hf,hsz,hd⟩
 ·
  have hzn:z≠0:=by omega
  have hz0:(z==0)=false:=by simpa using hzn
  have HNO:Hid (∀ b,¬ PrimAt l b):=fun b hb=>by
   have:=hb.dec
   rw [hd] at this
   simp at this
   exact hzn this.2.2
  have HZN:=hid hzn
  rw [hd] at C1
  clear hd hz hzn
  go_enter Tryz.func174,Tryz.ntmps174
  go_wp2_with fail
  refine C1.out.mono ?_
  rintro e w1 ⟨v,rfl,hv,hb⟩
  obtain ⟨k1,n1,A1,nd1,cd1,AL1,nl1,cl1,rfl⟩:=hv.form
  rw [hs0] at hb
  have hb2:Below (w.heap.size+1) (w.alloc (.cells #[.int .u64 0,.int .i64 0,.int .i64 0,.string ⟨#[]⟩,.int .u64 0,.int .u64 0,.int .i64 0,.string ⟨#[]⟩,.int .u64 0,.int .u64 0,.int .i64 0,.string ⟨#[]⟩,.int .u64 0,.int .u64 0,.int .u64 0,.int .u64 0,.int .u64 0,.slice none 0 0] 73)) (w1.alloc (.cells #[.int .i64 k1,.int .u64 (n1:Int),.slice A1 nd1 cd1,.slice AL1 nl1 cl1] 30)):=hb.alloc (by have:=hb.size;rw [hs0] at this;exact this) _
  have B2:=hid hb2
  clear hb hv hb2
  go_wp2_with (first
   | (refine wpList_st18 rfl 73 (.tmp 2) (.tmp 19) rfl _ rfl rfl _ _ (HR0.out _ B2.out) info_bun rfl rfl ?_;intro W' hrow' _ _ hbel _;have HWB:=hid (hbel _ _ (HB0.out.trans (B2.out.mono (Nat.le_succ _))) nlr);clear hbel)
   | fail)
  exact bodyPost_ret (res_btt Tryz.results174 _ _ rfl hrow' rfl) rfl ⟨HWB.out,.inr ⟨HNO.out,z,_,HZN.out,rfl⟩⟩
 ·
  obtain ⟨M,hM⟩:∃ M,M=(wri x).length:=⟨_,rfl⟩
  rw [← hM] at hd
  have hMn:M≤n:=by rw [← HR.out.1,hl,List.length_append,hM];omega
  obtain ⟨D1,d1,k1,hd1,-,r1⟩:=cut_h (P:=Tryz.prog) 27 5 Tryz.underlying27 size_u8 c HR.out (M:Int) M rfl hMn HH.out.2.2
  have HD:=hid hd
  have HR1:=hid (And.intro r1 (And.intro hd1 hMn))
  rw [hd] at C1
  have HPA:Hid (∀ b,PrimAt l b→x=itmP b (sumP b)∧M=(primW b).length∧l.take M=primW b):=fun b hb=>by
   have h1:=hb.dec
   rw [hd] at h1
   simp only [Prod.mk.injEq,and_true] at h1
   have h2:M=(primW b).length:=by omega
   obtain ⟨-,-,m,rfl⟩:=hb
   exact ⟨h1.1,h2,by rw [h2,List.take_left]⟩
  clear hl hf hsz hM hd r1 hd1 hMn
  go_enter Tryz.func174,Tryz.ntmps174
  go_wp2_with fail
  refine C1.out.mono ?_
  rintro e w1 ⟨v,rfl,hv,hb⟩
  obtain ⟨k,m,d,ls⟩:=x
  obtain ⟨Aa,nda,cda,ALa,cla,rfl,-,-,-,-,hla,hrowa⟩:=hv.open
  rw [hs0] at hb
  have hw1:w.heap.size+1≤w1.heap.size:=by have:=hb.size;rw [hs0] at this;exact this
  have hb2:=hb.alloc hw1 (.cells #[.int .i64 k,.int .u64 (m:Int),.slice Aa nda cda,.slice ALa ls.length cla] 30)
  have C2:=hid (uver_any (.mk k m d ls) _ w1.heap.size (w1.alloc (.cells #[.int .i64 k,.int .u64 (m:Int),.slice Aa nda cda,.slice ALa ls.length cla] 30)) (le_alloc _ _) (hv.alloc nlr _))
  have B2:=hid hb2
  have HW1:=hid hw1
  have HV0:=hid (@verB_0 (.mk k m d ls))
  have HVP:Hid (∀ b,PrimAt l b→verB (.mk k m d ls)=0∧Wr b∧ls=(itmP b (sumP b)).list):=fun b hb=>by
   obtain ⟨h1,-,-⟩:=HPA.out b hb
   refine ⟨by rw [h1];exact verB_itmP,hb.1,?_⟩
   have:=congrArg Itm.list h1
   exact this
  have HML:Hid (∀ b,PrimAt l b→l.take M=primW b):=fun b hb=>(HPA.out b hb).2.2
  have HROW:=hid (And.intro hla hrowa)
  generalize verB (.mk k m d ls)=vz at *
  clear hv hb hb2 hw1 hla hrowa HPA
  go_wp2_with fail
  refine C2.out.mono ?_
  rintro e w2 ⟨hb,⟨hvz,rfl⟩|⟨hvz,s,rfl⟩⟩
  case inr =>
   have HNO:Hid (∀ b,¬ PrimAt l b):=fun b hb=>hvz (HVP.out b hb).1
   have B3:=hid (B2.out.trans (hb.mono (by have:=HW1.out;simp;omega)))
   have HVZ:=hid hvz
   clear hb hvz
   unfold ufl at *
   go_wp2_with (first
    | (refine wpList_st18 rfl 73 (.tmp 2) (.tmp 28) rfl _ rfl rfl _ _ (HR0.out _ B3.out) info_bun rfl rfl ?_;intro W' hrow' _ _ hbel _;have HWB:=hid (hbel _ _ (HB0.out.trans (B3.out.mono (Nat.le_succ _))) nlr);clear hbel)
    | fail)
   exact bodyPost_ret (res_btt Tryz.results174 _ _ rfl hrow' rfl) rfl ⟨HWB.out,.inr ⟨HNO.out,vz,_,HVZ.out,rfl⟩⟩
  have h8:=HV0.out hvz
  simp only [Itm.list] at h8
  obtain ⟨b,o,rfl,hbb,hks⟩:=HROW.out.2 (by omega)
  have hbI:=(Below.refl w1.heap.size w1).alloc nlr (.cells #[.int .i64 k,.int .u64 (m:Int),.slice Aa nda cda,.slice (some ⟨b,o,none⟩) ls.length cla] 30)
  have hb12:=hbI.trans (hb.mono (le_alloc _ _))
  have B3:=hid (B2.out.trans (hb.mono (by have:=HW1.out;simp;omega)))
  have hw2:w1.heap.size≤w2.heap.size:=hb12.size
  have C3:=hid (utaken_any S b o ls.length cla w1.heap.size ls w2 (HWd.out.below (B3.out.mono nlr) (Nat.le_of_eq HS0.out)) hw2 hbb (hks.below hbb hb12) rfl h8 HROW.out.1.1)
  obtain ⟨-,-,-,g3⟩:=box_cells4 hb
  have HW2:=hid hw2
  clear hb hbb hks hbI hb12 hw2 h8 hvz HV0 C2 HROW
  generalize ls.length=nls at *
  go_wp2_with fail
  refine C3.out.mono ?_
  rintro e w3 ⟨hb,⟨h,rfl,hbd,hwr,hprim⟩|⟨hno,z,s,hz,rfl⟩⟩
  case inr =>
   have HNO:Hid (∀ b,¬ PrimAt l b):=fun bb hb=>hno bb _ (HVP.out bb hb).2.1 (HVP.out bb hb).2.2
   have B4:=hid (Below.push B3.out (Nat.le_of_eq HS0.out.symm) hb)
   have HVZ:=hid hz
   clear hb hz hno g3
   unfold ufl at *
   go_wp2_with (first
    | (refine wpList_st18 rfl 73 (.tmp 9) (.tmp 34) rfl _ rfl rfl _ _ (heap_alloc_new w3 _) info_bun rfl rfl ?_;intro W9 _ _ _ hbel _;have B9:=hid (hbel _ _ (B4.out.alloc (by have:=B4.out.size;have:=HS0.out;omega) _) (by have:=B4.out.size;have:=HS0.out;omega));clear hbel)
    | (refine wpList_st18 rfl 73 (.tmp 2) (.tmp 49) rfl _ rfl rfl _ _ (HR0.out _ B9.out) info_bun rfl rfl ?_;intro W' hrow' _ _ hbel _;have HWB:=hid (hbel _ _ (HB0.out.trans (B9.out.mono (Nat.le_succ _))) nlr);clear hbel)
    | fail)
   exact bodyPost_ret (res_btt Tryz.results174 _ _ rfl hrow' rfl) rfl ⟨HWB.out,.inr ⟨HNO.out,z,_,HVZ.out,rfl⟩⟩
  have B4:=hid (Below.push B3.out (Nat.le_of_eq HS0.out.symm) hb)
  have HBD:=hid (And.intro hbd hwr)
  have HPR:=hid hprim
  clear hb hbd hwr hprim g3
  unfold bunV at *
  go_wp2_with (first
   | (refine wpList_st18 rfl 73 (.tmp 9) (.tmp 34) rfl _ rfl rfl _ _ (heap_alloc_new w3 _) info_bun rfl rfl ?_;intro W9 hrow9 _ _ hbel hsz9;have B9:=hid (hbel _ _ (B4.out.alloc (by have:=B4.out.size;have:=HS0.out;omega) _) (by have:=B4.out.size;have:=HS0.out;omega));have HROW9:=hid hrow9;clear hbel hrow9)
   | fail)
  have hs9:W9.heap.size=w3.heap.size+1:=by rw [hsz9];simp
  have hlt9:w3.heap.size<W9.heap.size:=by omega
  have hw3:w.heap.size+1≤w3.heap.size:=by have:=B4.out.size;have:=HS0.out;omega
  have HX9:Hid (∀ W,Below W9.heap.size W9 W→W.cell? ⟨w3.heap.size,0,none⟩=some (.int .u64 (h.flg:Int))∧W.cell? ⟨w3.heap.size,1,none⟩=some (.int .i64 h.crc)∧W.cell? ⟨w3.heap.size,2,none⟩=some (.int .i64 h.dsc)∧W.cell? ⟨w3.heap.size,3,none⟩=some (.string h.dnm)∧W.cell? ⟨w3.heap.size,4,none⟩=some (.int .u64 (h.dn:Int))∧W.cell? ⟨w3.heap.size,5,none⟩=some (.int .u64 (h.dv:Int))∧W.cell? ⟨w3.heap.size,6,none⟩=some (.int .i64 h.ssc)∧W.cell? ⟨w3.heap.size,7,none⟩=some (.string h.snm)∧W.cell? ⟨w3.heap.size,8,none⟩=some (.int .u64 (h.sn:Int))∧W.cell? ⟨w3.heap.size,9,none⟩=some (.int .u64 (h.sv:Int))∧W.cell? ⟨w3.heap.size,10,none⟩=some (.int .i64 h.rsc)∧W.cell? ⟨w3.heap.size,11,none⟩=some (.string h.rnm)∧W.cell? ⟨w3.heap.size,12,none⟩=some (.int .u64 (h.rn:Int))∧W.cell? ⟨w3.heap.size,13,none⟩=some (.int .u64 (h.rv:Int))∧W.cell? ⟨w3.heap.size,14,none⟩=some (.int .u64 (h.tim:Int))∧W.cell? ⟨w3.heap.size,15,none⟩=some (.int .u64 (h.seq:Int))∧W.cell? ⟨w3.heap.size,16,none⟩=some (.int .u64 (h.lif:Int))∧W.cell? ⟨w3.heap.size,17,none⟩=some (.slice none 0 0)):=fun W hW=>by
   have hr:=(hW.block w3.heap.size hlt9).trans HROW9.out
   exact ⟨cell_row hr 0 rfl,cell_row hr 1 rfl,cell_row hr 2 rfl,cell_row hr 3 rfl,cell_row hr 4 rfl,cell_row hr 5 rfl,cell_row hr 6 rfl,cell_row hr 7 rfl,cell_row hr 8 rfl,cell_row hr 9 rfl,cell_row hr 10 rfl,cell_row hr 11 rfl,cell_row hr 12 rfl,cell_row hr 13 rfl,cell_row hr 14 rfl,cell_row hr 15 rfl,cell_row hr 16 rfl,cell_row hr 17 rfl⟩
  have HR9:=hid (fun (W:World) (hW:Below W9.heap.size W9 W)=>(hW.block w3.heap.size hlt9).trans HROW9.out)
  have HB9:Hid (∀ W,Below W9.heap.size W9 W→Below (w.heap.size+1) (w.alloc (.cells #[.int .u64 0,.int .i64 0,.int .i64 0,.string ⟨#[]⟩,.int .u64 0,.int .u64 0,.int .i64 0,.string ⟨#[]⟩,.int .u64 0,.int .u64 0,.int .i64 0,.string ⟨#[]⟩,.int .u64 0,.int .u64 0,.int .u64 0,.int .u64 0,.int .u64 0,.slice none 0 0] 73)) W):=fun W hW=>B9.out.trans (hW.mono (by omega))
  have R3:Hid (∀ W,Below W9.heap.size W9 W→Rd W W.heap.size D1 M (l.take M)):=fun W hW=>(HR1.out.1.below (((HB0.out.trans ((HB9.out W hW).mono (Nat.le_succ _)))).mono HH.out.1)).more (by have:=(HB9.out W hW).size;have:=HS0.out;have:=HH.out.1;omega)
  have CW:=hid (fun W (hW:Below W9.heap.size W9 W)=>uwriteP_any S h [] none 0 0 W (HWd.out.below (HB9.out W hW) (Nat.le_of_eq HS0.out)) HBD.out.1 HBD.out.2)
  unfold bunV at CW
  have CS:=hid (fun W=>usize_any h.crc W)
  have hpl:=primW_len HBD.out.2
  have hpe:=primW_lenE (h.bun [])
  have ec:(h.bun []).crc=h.crc:=rfl
  rw [ec] at hpe
  have HNP:Hid (∀ b,PrimAt l b→l.take M=primW (h.bun [])):=fun b hb=>by
   rw [HML.out b hb]
   exact ((HPR.out b _ (HVP.out b hb).2.1 (HVP.out b hb).2.2).1).symm
  have HOK:Hid (l.take M=primW (h.bun [])→PrimAt l (h.bun [])∧M=(primW (h.bun [])).length):=fun he=>by
   refine ⟨⟨HBD.out.2,⟨HBD.out.1.flg,HBD.out.1.tim,HBD.out.1.seq,HBD.out.1.lif⟩,l.drop M,by rw [← he,List.take_append_drop]⟩,?_⟩
   rw [← he,List.length_take,HR.out.1]
   have:=HR1.out.2.2
   omega
  obtain ⟨NB0,hNB⟩:∃ q,(primW (h.bun [])).length=q:=⟨_,rfl⟩
  have HBL:=hid hNB
  rw [hNB] at hpl hpe HOK
  have hsle:sumN h.crc≤NB0:=by omega
  generalize hPW:primW (h.bun [])=PW at *
  have HPW:=hid hPW
  clear hPW
  generalize sumN h.crc=SN at *
  clear HPR HVP HML hNB hs9 hw3 ec
  by_cases hz:cmpU (l.take M) PW SN=0
  ·
   have HEQ:=hid (HOK.out (cmpU_0 hz))
   have C8:=hid (fun (A':Option Addr) (c':Nat) (W:World) (hr1:Rd W W.heap.size D1 M (l.take M)) (hr2:Rd W W.heap.size A' NB0 PW) (hc':NB0≤c')=>ucompare_ok D1 A' M d1 NB0 c' SN (l.take M) PW W hr1 HR1.out.2.1 hr2 hc' hsle (Nat.le_trans HR1.out.2.2 HH.out.2.1) (by omega) hz)
   clear hz hsle hpl hpe HOK
   go_region_held3 (fun W=>W.cell? ⟨w3.heap.size,0,none⟩=some (.int .u64 (h.flg:Int))∧W.cell? ⟨w3.heap.size,1,none⟩=some (.int .i64 h.crc)∧W.cell? ⟨w3.heap.size,2,none⟩=some (.int .i64 h.dsc)∧W.cell? ⟨w3.heap.size,3,none⟩=some (.string h.dnm)∧W.cell? ⟨w3.heap.size,4,none⟩=some (.int .u64 (h.dn:Int))∧W.cell? ⟨w3.heap.size,5,none⟩=some (.int .u64 (h.dv:Int))∧W.cell? ⟨w3.heap.size,6,none⟩=some (.int .i64 h.ssc)∧W.cell? ⟨w3.heap.size,7,none⟩=some (.string h.snm)∧W.cell? ⟨w3.heap.size,8,none⟩=some (.int .u64 (h.sn:Int))∧W.cell? ⟨w3.heap.size,9,none⟩=some (.int .u64 (h.sv:Int))∧W.cell? ⟨w3.heap.size,10,none⟩=some (.int .i64 h.rsc)∧W.cell? ⟨w3.heap.size,11,none⟩=some (.string h.rnm)∧W.cell? ⟨w3.heap.size,12,none⟩=some (.int .u64 (h.rn:Int))∧W.cell? ⟨w3.heap.size,13,none⟩=some (.int .u64 (h.rv:Int))∧W.cell? ⟨w3.heap.size,14,none⟩=some (.int .u64 (h.tim:Int))∧W.cell? ⟨w3.heap.size,15,none⟩=some (.int .u64 (h.seq:Int))∧W.cell? ⟨w3.heap.size,16,none⟩=some (.int .u64 (h.lif:Int))∧W.cell? ⟨w3.heap.size,17,none⟩=some (.slice none 0 0))
    (first|(with_reducible exact HX9.out _ B8.out)|(with_reducible exact HX9.out _ B7.out)|(with_reducible exact HX9.out _ B6.out)|(with_reducible exact HX9.out _ Below.drew_)|(with_reducible exact HX9.out _ (Below.refl _ _))|fail)
    (first
     | (go_at_call 210;refine (C8.out _ _ _ (R7.out.more nlr) S7.out HC4.out).mono ?_;rintro e w8 ⟨rfl,hb8⟩;have B8:=hid (Below.push B7.out nlr hb8);clear hb8)
     | (go_at_call 183;refine (CS.out _).mono ?_;rintro e w7 ⟨rfl,hb7⟩;have B7:=hid (Below.push B6.out nlr hb7);have R7:=hid (R3.out _ B7.out);have S7:=hid ((S6.out.below hb7).more hb7.size);clear hb7)
     | (go_at_call 99;refine (CW.out _ Below.drew_).mono ?_;rintro e w6 ⟨v6,rfl,ho6,hb6⟩;have B6:Hid (Below W9.heap.size W9 w6):=Below.drew_.trans hb6;obtain ⟨A4,c4,rfl,hc4,-,hr4⟩:=ho6.rd;rw [HBL.out] at hr4 hc4 ⊢;have S6:=hid hr4;have HC4:=hid hc4;clear hb6 ho6 hr4 hc4)
     | fail)
   go_wp2_with (first
    | (refine wpList_ld18 rfl (.tmp 9) rfl _ rfl _ _ (HR9.out _ B8.out) rfl ?_)
    | (refine wpList_st18 rfl 73 (.tmp 2) (.tmp 51) rfl _ rfl rfl _ _ (HR0.out _ (HB9.out _ B8.out)) info_bun rfl rfl ?_;intro W' hrow' _ _ hbel _;have HWB:=hid (hbel _ _ (HB0.out.trans ((HB9.out _ B8.out).mono (Nat.le_succ _))) nlr);clear hbel)
    | fail)
   exact bodyPost_ret (res_btt Tryz.results174 _ _ rfl hrow' rfl) rfl ⟨HWB.out,.inl ⟨h,M,rfl,HBD.out.1,HEQ.out.1,HEQ.out.2.trans (by rw [HPW.out];exact HBL.out.symm)⟩⟩
  ·
   have HNO:Hid (∀ b,¬ PrimAt l b):=fun b hb=>by
    rw [HNP.out b hb] at hz
    exact hz (cmpU_same _ _)
   have C8:=hid (fun (A':Option Addr) (c':Nat) (W:World) (hr1:Rd W W.heap.size D1 M (l.take M)) (hr2:Rd W W.heap.size A' NB0 PW) (hc':NB0≤c')=>ucompare_no D1 A' M d1 NB0 c' SN (l.take M) PW W hr1 HR1.out.2.1 hr2 hc' hsle (Nat.le_trans HR1.out.2.2 HH.out.2.1) (by omega) hz)
   have HZC:=hid hz
   generalize hZC:cmpU (l.take M) PW SN=ZC at *
   clear hz hZC hsle hpl hpe HOK HNP
   unfold ufl at *
   go_region_held3 (fun W=>W.cell? ⟨w3.heap.size,0,none⟩=some (.int .u64 (h.flg:Int))∧W.cell? ⟨w3.heap.size,1,none⟩=some (.int .i64 h.crc)∧W.cell? ⟨w3.heap.size,2,none⟩=some (.int .i64 h.dsc)∧W.cell? ⟨w3.heap.size,3,none⟩=some (.string h.dnm)∧W.cell? ⟨w3.heap.size,4,none⟩=some (.int .u64 (h.dn:Int))∧W.cell? ⟨w3.heap.size,5,none⟩=some (.int .u64 (h.dv:Int))∧W.cell? ⟨w3.heap.size,6,none⟩=some (.int .i64 h.ssc)∧W.cell? ⟨w3.heap.size,7,none⟩=some (.string h.snm)∧W.cell? ⟨w3.heap.size,8,none⟩=some (.int .u64 (h.sn:Int))∧W.cell? ⟨w3.heap.size,9,none⟩=some (.int .u64 (h.sv:Int))∧W.cell? ⟨w3.heap.size,10,none⟩=some (.int .i64 h.rsc)∧W.cell? ⟨w3.heap.size,11,none⟩=some (.string h.rnm)∧W.cell? ⟨w3.heap.size,12,none⟩=some (.int .u64 (h.rn:Int))∧W.cell? ⟨w3.heap.size,13,none⟩=some (.int .u64 (h.rv:Int))∧W.cell? ⟨w3.heap.size,14,none⟩=some (.int .u64 (h.tim:Int))∧W.cell? ⟨w3.heap.size,15,none⟩=some (.int .u64 (h.seq:Int))∧W.cell? ⟨w3.heap.size,16,none⟩=some (.int .u64 (h.lif:Int))∧W.cell? ⟨w3.heap.size,17,none⟩=some (.slice none 0 0))
    (first|(with_reducible exact HX9.out _ B8.out)|(with_reducible exact HX9.out _ B7.out)|(with_reducible exact HX9.out _ B6.out)|(with_reducible exact HX9.out _ Below.drew_)|(with_reducible exact HX9.out _ (Below.refl _ _))|fail)
    (first
     | (go_at_call 210;refine (C8.out _ _ _ (R7.out.more nlr) S7.out HC4.out).mono ?_;rintro e w8 ⟨q8,rfl,hb8⟩;have B8:=hid (Below.push B7.out nlr hb8);clear hb8)
     | (go_at_call 183;refine (CS.out _).mono ?_;rintro e w7 ⟨rfl,hb7⟩;have B7:=hid (Below.push B6.out nlr hb7);have R7:=hid (R3.out _ B7.out);have S7:=hid ((S6.out.below hb7).more hb7.size);clear hb7)
     | (go_at_call 99;refine (CW.out _ Below.drew_).mono ?_;rintro e w6 ⟨v6,rfl,ho6,hb6⟩;have B6:Hid (Below W9.heap.size W9 w6):=Below.drew_.trans hb6;obtain ⟨A4,c4,rfl,hc4,-,hr4⟩:=ho6.rd;rw [HBL.out] at hr4 hc4 ⊢;have S6:=hid hr4;have HC4:=hid hc4;clear hb6 ho6 hr4 hc4)
     | fail)
   go_wp2_with (first
    | (refine wpList_st18 rfl 73 (.tmp 2) (.tmp 49) rfl _ rfl rfl _ _ (HR0.out _ (HB9.out _ B8.out)) info_bun rfl rfl ?_;intro W' hrow' _ _ hbel _;have HWB:=hid (hbel _ _ (HB0.out.trans ((HB9.out _ B8.out).mono (Nat.le_succ _))) nlr);clear hbel)
    | fail)
   exact bodyPost_ret (res_btt Tryz.results174 _ _ rfl hrow' rfl) rfl ⟨HWB.out,.inr ⟨HNO.out,ZC,_,HZC.out,rfl⟩⟩
end Go.Proofs.YtlecbblmaadpiaaGreatDoor
