/- What a signed bundle is to Verify and Covers, of any targets. -/
import Derived.Test.YteckeagobafoiaaGreatDoorQBibG
import Derived.Test.YteckeagobafoiaaGreatDoorQBihC
import Derived.Test.YteckeagobafoiaaGreatDoorQBihH
import Derived.Test.YteckeagobafoiaaGreatDoorQBihN
import Derived.Test.YteckeagobafoiaaGreatDoorQCfBibBack
import Derived.Lib.SmallJoins
import Derived.ChangeArms
import Derived.WalkKit
import Derived.ProofKit
import Derived.OpenShut
import Derived.ShutString
import Derived.ChangeOld
import Derived.Below
import Derived.SizedLaws
import Derived.Deep.DeepHandedRow
namespace Go.Proofs.YteckeagobafoiaaGreatDoor
set_option maxRecDepth 100000
set_option maxHeartbeats 16000000
open Go.RowKit
def xN (b:Bun) (tgs:List Nat) (num:Nat) (sc:Int) (src:Epd) (k:List UInt8):Bb:=sgX tgs src sc (sgT b tgs num sc k).1
def nxN (h:BH) (l:List Blk) (tgs:List Nat) (num:Nat) (sc:Int) (src:Epd) (k:List UInt8):List Blk:=putB l (sgK num (xN (h.bun l) tgs num sc src k))
def OkN (h:BH) (l:List Blk) (tgs:List Nat) (num:Nat) (sc:Int) (src:Epd) (k:List UInt8):Prop :=
 (sgT (h.bun l) tgs num sc k).2=0∧rgtB (xN (h.bun l) tgs num sc src k)=true∧cauU (h.bun l)=0∧cauU (h.bun (nxN h l tgs num sc src k))=0
theorem sgn_n {h:BH} {l:List Blk} {tgs:List Nat} {num:Nat} {sc:Int} {src:Epd} {k:List UInt8} {w:World} {e:Ending} {w':World} (hs:SgnE h l tgs num sc src k w e w') :
  Below w.heap.size w w'∧((∃ z:Int,z≠0∧e=.returned (.tuple #[.agg #[.int .u64 0,.int .i64 0,.int .i64 0,.string ⟨#[]⟩,.int .u64 0,.int .u64 0,.int .i64 0,.string ⟨#[]⟩,.int .u64 0,.int .u64 0,.int .i64 0,.string ⟨#[]⟩,.int .u64 0,.int .u64 0,.int .u64 0,.int .u64 0,.int .u64 0,.slice none 0 0],.int .i64 z])) ∨
   (OkN h l tgs num sc src k∧∃ (A:Option Addr) (n c:Nat),e=.returned (.tuple #[bunV h A n c,.int .i64 0])∧RdL w' w'.heap.size A n (nxN h l tgs num sc src k)∧n≤c)):=by
 obtain ⟨hb,⟨z,hz,hor,rfl⟩|⟨h1,h2,h3,h4,A,n,c,rfl,hr,hc⟩⟩:=hs
 ·
  exact ⟨hb,.inl ⟨z,hz,rfl⟩⟩
 ·
  exact ⟨hb,.inr ⟨⟨h1,h2,h3,h4⟩,A,n,c,rfl,hr.unmask_,hc⟩⟩
section
variable {h:BH} {l:List Blk} {tgs:List Nat} {num:Nat} {sc:Int} {src:Epd} {k:List UInt8}
theorem OkN.v (h1:OkN h l tgs num sc src k) (h64:∀ t∈tgs,t<18446744073709551616):vrB (h.bun (nxN h l tgs num sc src k)) num k=(some (xN (h.bun l) tgs num sc src k),0):=vr_sign h1.1 h1.2.1 h64 h1.2.2.1 h1.2.2.2
theorem OkN.dat (h1:OkN h l tgs num sc src k) (hd:∀ x∈l,x.dat.length≤5000):∀ x∈nxN h l tgs num sc src k,x.dat.length≤5000:=fun x hx=>by
 unfold nxN putB at hx
 rw [List.mem_append,List.mem_cons] at hx
 rcases hx with hx|rfl|hx
 ·
  exact hd x (List.mem_of_mem_take hx)
 ·
  have:=bibW_len (rgt_iff.1 h1.2.1)
  show (bibW _).length≤5000
  omega
 ·
  exact hd x (List.mem_of_mem_drop hx)
theorem OkN.cov (h1:OkN h l tgs num sc src k) (h64:∀ t∈tgs,t<18446744073709551616) {t:Nat} (ht:t∈tgs):covB t (nxN h l tgs num sc src k)=covB t l++[num]:=by
 have e:(xN (h.bun l) tgs num sc src k).tgs=tgs:=rfl
 have h64':∀ t∈(xN (h.bun l) tgs num sc src k).tgs,t<18446744073709551616:=by rw [e];exact h64
 unfold nxN
 rw [cov_put h1.2.2.1 h1.2.1 h64',e,if_pos (List.contains_iff_mem.2 ht)]
theorem OkN.len (h1:OkN h l tgs num sc src k):l.length+1=(nxN h l tgs num sc src k).length∧(nxN h l tgs num sc src k).length≤16:=by
 refine ⟨?_,(bok h1.2.2.2).1.2⟩
 unfold nxN
 exact put_len_.symm
end
theorem ep_inj {sc ec:Int} {s s':ByteArray} {n v n' v':Nat} (h:ep sc s n v=ep ec s' n' v'):sc=ec∧s=s'∧n=n'∧v=v':=by
 unfold ep at h
 injection h with h1 h2 h3 h4
 refine ⟨h1,?_,h3,h4⟩
 cases s;cases s'
 simp at h2
 rw [h2]
theorem giv_all {o:Option Bb} {z:Int} {X:Bb} {ec:Int} {s:ByteArray} {nd sv:Nat} {w:World} {e:Ending} {w':World} (hv:o=some X∧z=0) (hX:X.src=ep ec s nd sv) (hg:GivX o z w e w') :
  Below w.heap.size w w'∧∃ (A:Option Addr) (n c:Nat) (At:Option Addr) (nt ct:Nat),e=.returned (.tuple #[bibV A n c ec s nd sv X.sco At nt ct,.int .i64 0])∧RdN w' w'.heap.size A n X.tgs∧n≤140737488355328:=by
 obtain ⟨rfl,rfl⟩:=hv
 obtain ⟨hb,⟨x,v,hx,rfl,hr⟩|⟨hx,-⟩⟩:=hg
 ·
  obtain rfl:=Option.some.inj hx
  obtain ⟨A,n,c,sc',s',nd',sv',At,nt,ct,rfl,hn,-,hN,-,-,hs,-⟩:=hr
  obtain ⟨rfl,rfl,rfl,rfl⟩:=ep_inj (hs.symm.trans hX)
  exact ⟨hb,A,n,c,At,nt,ct,rfl,hN.sub_ (fun _ _ hc=>mask_sub hc) (Nat.le_refl _),hn.2⟩
 ·
  cases hx
theorem num_last {L M:List Nat} {x:Nat} {w:World} {e:Ending} {w':World} (hL:L=M++[x]) (hg:NumsE L w e w'):Below w.heap.size w w'∧∃ (b o c:Nat),e=.returned (.slice (some ⟨b,o,none⟩) (M.length+1) c)∧w'.cell? ⟨b,o+M.length,none⟩=some (.int .u64 (x:Int)):=by
 subst hL
 obtain ⟨hb,A,n,c,rfl,-,hr⟩:=hg
 have hn:n=M.length+1:=by rw [← hr.1];simp
 subst hn
 obtain ⟨b,o,rfl,-,hc⟩:=hr.2 (by omega)
 refine ⟨hb,b,o,c,rfl,?_⟩
 rw [hc M.length (by omega)]
 simp [List.getD]
open Go.Lib (hid)
theorem bibBack_walk (h:BH) (l:List Blk) (A:Option Addr) (n c:Nat) (At:Option Addr) (nt ct:Nat) (tgs:List Nat) (a2 sc:Int) (ec:Int) (s:ByteArray) (nd sv:Nat) (Ak:Option Addr) (nk ck:Nat) (k:List UInt8) (w:World) (S:Snt) (T:Snb)
  (hin:BunIn w h l A n c) (ht:RdN w w.heap.size At nt tgs∧nt≤ct∧∀ t∈tgs,t<18446744073709551616) (h2:(Lit.int .u64 a2).wf=true) (_hsc:(Lit.int .i64 sc).wf=true) (hs:s.size≤140737488355328) (hnd:nd<18446744073709551616) (hsv:sv<18446744073709551616) (hk:Rd w w.heap.size Ak nk k∧nk≤ck∧ck≤140737488351232) (hS:Wd S w) (hT:Ldb T w) :
  Calls Tryz.prog 7 #[bunV h A n c,.slice At nt ct,.int .u64 a2,.int .i64 sc,epdV ec s nd sv,.slice Ak nk ck] w fun e w'=>e=.returned (.bool true)∧Below w.heap.size w w':=by
 obtain ⟨num,hnum,rfl⟩:∃ q:Nat,q<18446744073709551616∧a2=(q:Int):=⟨a2.toNat,by have h:=wfU h2;omega,by have h:=wfU h2;omega⟩
 obtain ⟨hBd,hr,hc⟩:=hin
 obtain ⟨rt,ht1,h64⟩:=ht
 obtain ⟨rk,hk1,hk2⟩:=hk
 have HBA:Hid (Below w.heap.size w (w.alloc (.cells #[.int .u64 (h.flg:Int),.int .i64 h.crc,.int .i64 h.dsc,.string h.dnm,.int .u64 (h.dn:Int),.int .u64 (h.dv:Int),.int .i64 h.ssc,.string h.snm,.int .u64 (h.sn:Int),.int .u64 (h.sv:Int),.int .i64 h.rsc,.string h.rnm,.int .u64 (h.rn:Int),.int .u64 (h.rv:Int),.int .u64 (h.tim:Int),.int .u64 (h.seq:Int),.int .u64 (h.lif:Int),.slice A n c] 28))):=(Below.refl _ _).alloc (Nat.le_refl _) _
 have HB0:Hid (Below w.heap.size w ((w.alloc (.cells #[.int .u64 (h.flg:Int),.int .i64 h.crc,.int .i64 h.dsc,.string h.dnm,.int .u64 (h.dn:Int),.int .u64 (h.dv:Int),.int .i64 h.ssc,.string h.snm,.int .u64 (h.sn:Int),.int .u64 (h.sv:Int),.int .i64 h.rsc,.string h.rnm,.int .u64 (h.rn:Int),.int .u64 (h.rv:Int),.int .u64 (h.tim:Int),.int .u64 (h.seq:Int),.int .u64 (h.lif:Int),.slice A n c] 28)).alloc (.cells #[.int .i64 ec,.string s,.int .u64 (nd:Int),.int .u64 (sv:Int)] 25))):=HBA.out.alloc (le_alloc _ _) _
 have HSA:Hid ((w.alloc (.cells #[.int .u64 (h.flg:Int),.int .i64 h.crc,.int .i64 h.dsc,.string h.dnm,.int .u64 (h.dn:Int),.int .u64 (h.dv:Int),.int .i64 h.ssc,.string h.snm,.int .u64 (h.sn:Int),.int .u64 (h.sv:Int),.int .i64 h.rsc,.string h.rnm,.int .u64 (h.rn:Int),.int .u64 (h.rv:Int),.int .u64 (h.tim:Int),.int .u64 (h.seq:Int),.int .u64 (h.lif:Int),.slice A n c] 28)).heap.size=w.heap.size+1):=by show _=_;simp
 have QA:Hid (((w.alloc (.cells #[.int .u64 (h.flg:Int),.int .i64 h.crc,.int .i64 h.dsc,.string h.dnm,.int .u64 (h.dn:Int),.int .u64 (h.dv:Int),.int .i64 h.ssc,.string h.snm,.int .u64 (h.sn:Int),.int .u64 (h.sv:Int),.int .i64 h.rsc,.string h.rnm,.int .u64 (h.rn:Int),.int .u64 (h.rv:Int),.int .u64 (h.tim:Int),.int .u64 (h.seq:Int),.int .u64 (h.lif:Int),.slice A n c] 28)).alloc (.cells #[.int .i64 ec,.string s,.int .u64 (nd:Int),.int .u64 (sv:Int)] 25)).heap[w.heap.size]?=some (.cells #[.int .u64 (h.flg:Int),.int .i64 h.crc,.int .i64 h.dsc,.string h.dnm,.int .u64 (h.dn:Int),.int .u64 (h.dv:Int),.int .i64 h.ssc,.string h.snm,.int .u64 (h.sn:Int),.int .u64 (h.sv:Int),.int .i64 h.rsc,.string h.rnm,.int .u64 (h.rn:Int),.int .u64 (h.rv:Int),.int .u64 (h.tim:Int),.int .u64 (h.seq:Int),.int .u64 (h.lif:Int),.slice A n c] 28 (0,0))):=row_of_box (w:=w) rfl ((Below.refl (w.heap.size+1) (w.alloc (.cells #[.int .u64 (h.flg:Int),.int .i64 h.crc,.int .i64 h.dsc,.string h.dnm,.int .u64 (h.dn:Int),.int .u64 (h.dv:Int),.int .i64 h.ssc,.string h.snm,.int .u64 (h.sn:Int),.int .u64 (h.sv:Int),.int .i64 h.rsc,.string h.rnm,.int .u64 (h.rn:Int),.int .u64 (h.rv:Int),.int .u64 (h.tim:Int),.int .u64 (h.seq:Int),.int .u64 (h.lif:Int),.slice A n c] 28))).alloc (Nat.le_of_eq HSA.out.symm) _)
 have QE:Hid (((w.alloc (.cells #[.int .u64 (h.flg:Int),.int .i64 h.crc,.int .i64 h.dsc,.string h.dnm,.int .u64 (h.dn:Int),.int .u64 (h.dv:Int),.int .i64 h.ssc,.string h.snm,.int .u64 (h.sn:Int),.int .u64 (h.sv:Int),.int .i64 h.rsc,.string h.rnm,.int .u64 (h.rn:Int),.int .u64 (h.rv:Int),.int .u64 (h.tim:Int),.int .u64 (h.seq:Int),.int .u64 (h.lif:Int),.slice A n c] 28)).alloc (.cells #[.int .i64 ec,.string s,.int .u64 (nd:Int),.int .u64 (sv:Int)] 25)).heap[w.heap.size+1]?=some (.cells #[.int .i64 ec,.string s,.int .u64 (nd:Int),.int .u64 (sv:Int)] 25 (0,0))):=row_of_box (w:=(w.alloc (.cells #[.int .u64 (h.flg:Int),.int .i64 h.crc,.int .i64 h.dsc,.string h.dnm,.int .u64 (h.dn:Int),.int .u64 (h.dv:Int),.int .i64 h.ssc,.string h.snm,.int .u64 (h.sn:Int),.int .u64 (h.sv:Int),.int .i64 h.rsc,.string h.rnm,.int .u64 (h.rn:Int),.int .u64 (h.rv:Int),.int .u64 (h.tim:Int),.int .u64 (h.seq:Int),.int .u64 (h.lif:Int),.slice A n c] 28))) (by simp) (Below.refl _ _)
 have HSW:=hid (fun (W:World) (hb:Below w.heap.size w W)=>And.intro (hS.below hb (Nat.le_refl _)) (hT.below hb (Nat.le_refl _)))
 have CH:=hid (fun (W:World) (hb:Below w.heap.size w W)=>heads10_any S T W (HSW.out W hb).1 (HSW.out W hb).2)
 have CF:=hid (fun (W:World) (hb:Below w.heap.size w W)=>few10_any h l A n c W.heap.size W ((hr.below hb).more hb.size) (Nat.le_refl _))
 have RT:=hid (fun (W:World) (hb:Below w.heap.size w W)=>(rt.below hb).more hb.size)
 have CS:=hid (fun (hdat:∀ x∈l,x.dat.length≤5000) (h200:nk≤200) (h5:nt≤5) (W:World) (hb:Below w.heap.size w W) =>
  (isign_any S T h l A n c W.heap.size tgs At nt ct num sc ec s nd sv Ak nk ck k W (HSW.out W hb).1 (HSW.out W hb).2 hBd ((hr.below hb).more hb.size) (Nat.le_refl _) hc (RT.out W hb) ht1 h64 (by omega) hnum hs hnd hsv ((rk.below hb).more hb.size) ⟨hk1,by omega,by omega⟩ hdat).mono fun _ _ h=>sgn_n h)
 obtain ⟨l1,hl1⟩:∃ l1,l1=nxN h l tgs num sc (ep ec s nd sv) k:=⟨_,rfl⟩
 have CV:=hid (fun (A:Option Addr) (n c:Nat) (hc:n≤c) (hdat:∀ x∈l1,x.dat.length≤5000) (h200:nk≤200) (X:Bb) (hX:X.src=ep ec s nd sv) (hv:vrB (h.bun l1) num k=(some X,0)) (W:World) (hb:Below w.heap.size w W) (hr:RdL W W.heap.size A n l1) =>
  (iverify_any S T h l1 A n c W.heap.size num Ak nk ck k W (HSW.out W hb).1 (HSW.out W hb).2 hBd hr (Nat.le_refl _) hc ((rk.below hb).more hb.size) ⟨hk1,by omega,by omega⟩ hdat).mono fun _ _ h=>giv_all (X:=X) ⟨congrArg Prod.fst hv,congrArg Prod.snd hv⟩ hX h)
 have CC:=hid (fun (A:Option Addr) (n c:Nat) (hc:n≤c) (h16:n≤1000) (t:Nat) (M:List Nat) (hz:cauU (h.bun l1)=0) (hM:covB t l1=M++[num]) (W:World) (hb:Below w.heap.size w W) (hr:RdL W W.heap.size A n l1) =>
  (icovers_any S T h l1 A n c W.heap.size t W (HSW.out W hb).1 (HSW.out W hb).2 hBd hr (Nat.le_refl _) hc h16).mono fun _ _ h=>num_last ((if_pos hz).trans hM) h)
 have HL1:=hid hl1
 have H64:=hid h64
 have HTL:Hid (tgs.length=nt):=rt.1
 have RTW:=hid rt
 clear hBd hr hc rt ht1 h64 rk hk1 hk2 hnum hs hnd hsv hS hT _hsc h2 hl1
 rw [← HL1.out] at CS
 unfold bunV epdV bibV at *
 go_enter Tryz.func7,Tryz.ntmps7
 go_wp2_with (first
  | (refine wpList_ld18 rfl (.tmp 6) rfl _ rfl _ _ QA.out rfl ?_)
  | fail)
 generalize ((w.alloc (.cells #[.int .u64 (h.flg:Int),.int .i64 h.crc,.int .i64 h.dsc,.string h.dnm,.int .u64 (h.dn:Int),.int .u64 (h.dv:Int),.int .i64 h.ssc,.string h.snm,.int .u64 (h.sn:Int),.int .u64 (h.sv:Int),.int .i64 h.rsc,.string h.rnm,.int .u64 (h.rn:Int),.int .u64 (h.rv:Int),.int .u64 (h.tim:Int),.int .u64 (h.seq:Int),.int .u64 (h.lif:Int),.slice A n c] 28)).alloc (.cells #[.int .i64 ec,.string s,.int .u64 (nd:Int),.int .u64 (sv:Int)] 25))=w0 at *
 refine (CF.out _ HB0.out).mono ?_
 rintro e w1 ⟨R,rfl,hR,hb⟩
 have T1:=hid (HB0.out.trans (hb.mono HB0.out.size))
 have RA1:=hid (row_on QA.out hb (row_lt QA.out))
 have RE1:=hid (row_on QE.out hb (row_lt QE.out))
 have HRR:=hid hR
 clear hb hR QA QE HB0 HBA HSA
 cases R with
 | false =>
  go_wp2_with fail
  refine (CH.out w1 T1.out).mono ?_
  rintro e wh ⟨rfl,hb2⟩
  have TH:=hid (T1.out.trans (hb2.mono T1.out.size))
  clear hb2
  go_wp2_with fail
  go_ret
  exact ⟨rfl,TH.out⟩
 | true =>
 by_cases hnt:5<nt
 ·
  have thnt:decide ((5:Int)<(nt:Int))=true:=decide_eq_true (by omega)
  clear hnt
  go_wp2_with fail
  refine (CH.out w1 T1.out).mono ?_
  rintro e wh ⟨rfl,hb2⟩
  have TH:=hid (T1.out.trans (hb2.mono T1.out.size))
  clear hb2
  go_wp2_with fail
  go_ret
  exact ⟨rfl,TH.out⟩
 have thnt:decide ((5:Int)<(nt:Int))=false:=decide_eq_false (by omega)
 by_cases hnk:200<nk
 ·
  have thnk:decide ((200:Int)<(nk:Int))=true:=decide_eq_true (by omega)
  clear hnk
  go_wp2_with fail
  refine (CH.out w1 T1.out).mono ?_
  rintro e wh ⟨rfl,hb2⟩
  have TH:=hid (T1.out.trans (hb2.mono T1.out.size))
  clear hb2
  go_wp2_with fail
  go_ret
  exact ⟨rfl,TH.out⟩
 have thnk:decide ((200:Int)<(nk:Int))=false:=decide_eq_false (by omega)
 have HNK:Hid (nk≤200):=Nat.le_of_not_lt hnk
 have HNT:Hid (nt≤5):=Nat.le_of_not_lt hnt
 have HD:Hid (n≤20∧∀ x∈l,x.dat.length≤5000):=⟨(HRR.out rfl).1,fun x hx=>Nat.le_trans ((HRR.out rfl).2 x hx) (by decide)⟩
 have e0:=cell_row RE1.out 0 rfl
 have e1:=cell_row RE1.out 1 rfl
 have e2:=cell_row RE1.out 2 rfl
 have e3:=cell_row RE1.out 3 rfl
 clear hnt hnk HRR
 go_wp2_with (first
  | (refine wpList_ld18 rfl (.tmp 6) rfl _ rfl _ _ RA1.out rfl ?_)
  | fail)
 refine (CS.out HD.out.2 HNK.out HNT.out w1 T1.out).mono ?_
 rintro e w3 ⟨hb,⟨z,hz,rfl⟩|⟨hok,A3,n3,c3,rfl,hr3,hc3⟩⟩
 case inl =>
  have tz:(z != 0)=true:=by simp [hz]
  have T3:=hid (T1.out.trans (hb.mono T1.out.size))
  clear hb hz e0 e1 e2 e3
  go_wp2_with (first
   | (refine wpList_st18 rfl 28 (.tmp 13) (.tmp 41) rfl _ rfl rfl _ _ (heap_alloc_new w3 _) info_bun rfl rfl ?_;intro w4 hrow4 _ _ hbel hsz4;have T4:=hid (hbel _ _ (T3.out.alloc T3.out.size _) T3.out.size);have q17:=cell_row hrow4 17 rfl;clear hbel hrow4 hsz4)
   | fail)
  refine (CH.out w4 T4.out).mono ?_
  rintro e wh ⟨rfl,hb2⟩
  have TH:=hid (T4.out.trans (hb2.mono T4.out.size))
  clear hb2
  go_wp2_with fail
  go_ret
  exact ⟨rfl,TH.out⟩
 have T3:=hid (T1.out.trans (hb.mono T1.out.size))
 have RE3:=hid (row_on RE1.out hb (row_lt RE1.out))
 have R3:=hid hr3
 have HC3:=hid hc3
 have HD1:Hid (∀ x∈l1,x.dat.length≤5000):=by rw [HL1.out];exact hok.dat HD.out.2
 have HZ1:Hid (cauU (h.bun l1)=0):=by rw [HL1.out];exact hok.2.2.2
 have HV1:Hid (vrB (h.bun l1) num k=(some (xN (h.bun l) tgs num sc (ep ec s nd sv) k),0)):=by rw [HL1.out];exact hok.v H64.out
 have HCV:Hid (∀ t∈tgs,covB t l1=covB t l++[num]):=fun t ht=>by rw [HL1.out];exact hok.cov H64.out ht
 have HN3:Hid (n3≤1000):=by
  have h1:=hok.len.2
  rw [← HL1.out,hr3.1] at h1
  exact Nat.le_trans h1 (by decide)
 have HNL:Hid (l.length≤20):=by
  have h1:=hok.len
  exact Nat.le_trans (Nat.le_of_succ_le (Nat.le_of_eq h1.1)) (Nat.le_trans h1.2 (by decide))
 clear hb hr3 hc3 hok RA1 RE1 T1 CS e0 e1 e2 e3 thnt thnk CF
 go_wp2_with (first
  | (refine wpList_st18 rfl 28 (.tmp 13) (.tmp 41) rfl _ rfl rfl _ _ (heap_alloc_new w3 _) info_bun rfl rfl ?_;intro w4 hrow4 _ _ hbel hsz4;have T4:=hid (hbel _ _ (T3.out.alloc T3.out.size _) T3.out.size);have D4:=hid (hbel _ _ ((Below.refl w3.heap.size w3).alloc (Nat.le_refl _) _) (Nat.le_refl _));have RX4:=hid hrow4;have RE4:=hid (row_on RE3.out D4.out (row_lt RE3.out));have R4:=hid ((R3.out.below D4.out).more D4.out.size);clear hbel hrow4 hsz4)
  | (refine wpList_ld18 rfl (.tmp 13) rfl _ rfl _ _ RX4.out rfl ?_)
  | fail)
 refine (CV.out A3 n3 c3 HC3.out HD1.out HNK.out _ rfl HV1.out w4 T4.out R4.out).mono ?_
 rintro e w5 ⟨hb,A5,n5,c5,At5,nt5,ct5,rfl,hN5,hn5⟩
 have T5:=hid (T4.out.trans (hb.mono T4.out.size))
 have RX5:=hid (row_on RX4.out hb (row_lt RX4.out))
 have RE5:=hid (row_on RE4.out hb (row_lt RE4.out))
 have R5:=hid ((R4.out.below hb).more hb.size)
 have N5:Hid (RdN w5 w5.heap.size A5 n5 tgs):=hN5
 have HN5:=hid hn5
 have hsx:(xN (h.bun l) tgs num sc (ep ec s nd sv) k).sco=sc:=rfl
 rw [hsx]
 obtain ⟨gx,hgx⟩:∃ gx,gx=w3.heap.size:=⟨_,rfl⟩
 rw [← hgx] at RX5
 rw [← hgx]
 clear hb hN5 hn5 hsx RE3 R3 T3 RX4 RE4 R4 D4 T4 CV HV1 HD1 hgx
 have tsc:((sc:Int) != sc)=false:=by simp
 have FN:∀ W,(binOp .neq 25 (.agg #[.int .i64 ec,.string s,.int .u64 (nd:Int),.int .u64 (sv:Int)]) (.agg #[.int .i64 ec,.string s,.int .u64 (nd:Int),.int .u64 (sv:Int)])).run Tryz.prog W=.ok (.bool false) W:=fun W=>by go_simp
 go_wp2_with (first
  | (refine wpList_st7 rfl 39 (.tmp 15) (.tmp 57) rfl _ _ _ _ _ _ _ _ rfl rfl _ _ (heap_alloc_new w5 _) info_bib rfl rfl ?_;intro w6 hst;have T6:=hid (hst.2.1 _ _ (T5.out.alloc T5.out.size _) T5.out.size);have D6:=hid (hst.2.1 _ _ ((Below.refl w5.heap.size w5).alloc (Nat.le_refl _) _) (Nat.le_refl _));have RX6:=hid (row_on RX5.out D6.out (row_lt RX5.out));have RE6:=hid (row_on RE5.out D6.out (row_lt RE5.out));have R6:=hid ((R5.out.below D6.out).more D6.out.size);have N6:=hid ((N5.out.below D6.out).more D6.out.size);have RB6:=hid hst.1;have q0:=cell_row RB6.out 0 rfl;clear hst)
  | fail)
 refine (rnumbers_any A5 At n5 nt c5 ct _ _ tgs tgs w6 N6.out (RT.out w6 T6.out) HN5.out (by have:=HNT.out;omega)).mono ?_
 rintro e w7 ⟨rfl,m7,hm7⟩
 have D7:Hid (Below w6.heap.size w6 w7):=by rw [hm7];exact below_drewN _ _ _
 have T7:=hid (T6.out.trans (D7.out.mono T6.out.size))
 have RX7:=hid (row_on RX6.out D7.out (row_lt RX6.out))
 have RE7:=hid (row_on RE6.out D7.out (row_lt RE6.out))
 have RB7:=hid (row_on RB6.out D7.out (row_lt RB6.out))
 have R7:=hid ((R6.out.below D7.out).more D7.out.size)
 rw [show (tgs==tgs)=true from beq_self_eq_true tgs]
 have b1:=cell_row RB7.out 1 rfl
 have b2:=cell_row RB7.out 2 rfl
 have b3:=cell_row RB7.out 3 rfl
 have b4:=cell_row RB7.out 4 rfl
 have b5:=cell_row RB7.out 5 rfl
 have e0:=cell_row RE7.out 0 rfl
 have e1:=cell_row RE7.out 1 rfl
 have e2:=cell_row RE7.out 2 rfl
 have e3:=cell_row RE7.out 3 rfl
 clear hm7 D7 q0 RX6 RE6 RB6 R6 N6 D6 RX5 RE5 R5 N5 T5 T6
 go_wp2_with fail
 go_loopw [12,17,18] (fun r i v wr=>∃ j:Nat,j≤nt∧i=.int .i64 (j:Int)∧Hid (Below w.heap.size w wr)∧Hid (wr.heap[gx]?=some (.cells #[.int .u64 (h.flg:Int),.int .i64 h.crc,.int .i64 h.dsc,.string h.dnm,.int .u64 (h.dn:Int),.int .u64 (h.dv:Int),.int .i64 h.ssc,.string h.snm,.int .u64 (h.sn:Int),.int .u64 (h.sv:Int),.int .i64 h.rsc,.string h.rnm,.int .u64 (h.rn:Int),.int .u64 (h.rv:Int),.int .u64 (h.tim:Int),.int .u64 (h.seq:Int),.int .u64 (h.lif:Int),.slice A3 n3 c3] 28 (0,0)))∧Hid (RdL wr wr.heap.size A3 n3 l1)) (fun _ i _ _=>nt - (intOf i).toNat)
 case atStart=>exact ⟨0,Nat.zero_le _,rfl,T7,RX7,R7⟩
 case round =>
  obtain ⟨j,hj,rfl,TW,RXW,RW⟩:=hrel
  by_cases hlt:j<nt
  ·
   have hii:decide ((j:Int)<(nt:Int))=true:=decide_eq_true (by omega)
   obtain ⟨b,o,rfl,hbl,hcell⟩:=RTW.out.get j hlt
   obtain ⟨t,ht⟩:∃ t,t=tgs.getD j 0:=⟨_,rfl⟩
   rw [← ht] at hcell
   have hmem:t∈tgs:=by
    have hjl:j<tgs.length:=by rw [HTL.out];exact hlt
    have e:tgs.getD j 0=tgs[j]:=by simp [List.getD,hjl]
    rw [ht,e]
    exact List.getElem_mem hjl
   have CT1:Hid (wr.cell? ⟨b,o+j,none⟩=some (.int .u64 (t:Int))):=(TW.out.cell (p:=⟨b,o+j,none⟩) hbl).trans hcell
   have HMEM:=hid hmem
   have i0:(0:Int)≤(j:Int):=by omega
   have i1:(j:Int)<(nt:Int):=by omega
   clear hcell hmem ht hbl
   go_wp2_with fail
   try simp only [Act.put,List.setIfInBounds_toArray,List.set_cons_zero,List.set_cons_succ]
   refine wp_region_held_drew (S:=fun W=>W.heap[gx]?=some (.cells #[.int .u64 (h.flg:Int),.int .i64 h.crc,.int .i64 h.dsc,.string h.dnm,.int .u64 (h.dn:Int),.int .u64 (h.dv:Int),.int .i64 h.ssc,.string h.snm,.int .u64 (h.sn:Int),.int .u64 (h.sv:Int),.int .i64 h.rsc,.string h.rnm,.int .u64 (h.rn:Int),.int .u64 (h.rv:Int),.int .u64 (h.tim:Int),.int .u64 (h.seq:Int),.int .u64 (h.lif:Int),.slice A3 n3 c3] 28 (0,0))∧W.cell? ⟨b,o+j,none⟩=some (.int .u64 (t:Int))) (by kernel_rfl) ⟨RXW.out,CT1.out⟩ (fun hHeld=>?_)
   refine takeR (i:=0) rfl (by kernel_rfl) (by kernel_rfl) (by kernel_rfl) (fun _ _ _ h=>h) (by rfl) (fun W hW=>exec_ld18 rfl rfl hW.1 rfl) (by assumption) ?_
   try simp only [Act.put,List.setIfInBounds_toArray,List.set_cons_zero,List.set_cons_succ]
   refine takeR (i:=1) (v:=.slice (some ⟨b,o,none⟩) nt ct) rfl (by kernel_rfl) (by kernel_rfl) (by kernel_rfl) (fun _ _ _ h=>h) (by rfl) (by intro W hSw;go_simp) (by assumption) ?_
   try simp only [Act.put,List.setIfInBounds_toArray,List.set_cons_zero,List.set_cons_succ]
   refine takeR (i:=2) (v:=.int .i64 (j:Int)) rfl (by kernel_rfl) (by kernel_rfl) (by kernel_rfl) (fun _ _ _ h=>h) (by rfl) (by intro W hSw;go_simp) (by assumption) ?_
   try simp only [Act.put,List.setIfInBounds_toArray,List.set_cons_zero,List.set_cons_succ]
   refine takeR (i:=3) (v:=.pointer (some ⟨b,o+j,none⟩)) rfl (by kernel_rfl) (by kernel_rfl) (by kernel_rfl) (fun _ _ _ h=>h) (by rfl) (by intro W hSw;go_simp) (by assumption) ?_
   try simp only [Act.put,List.setIfInBounds_toArray,List.set_cons_zero,List.set_cons_succ]
   refine takeR (i:=4) (v:=.int .u64 (t:Int)) rfl (by kernel_rfl) (by kernel_rfl) (by kernel_rfl) (fun _ _ _ h=>h) (by rfl) (by intro W hSw;have hc2:=hSw.2;go_simp) (by assumption) ?_
   try simp only [Act.put,List.setIfInBounds_toArray,List.set_cons_zero,List.set_cons_succ]
   have BT:Hid (Below wr.heap.size wr wr.drew):=Below.drew_
   obtain ⟨wc,hwc⟩:∃ wc,wc=wr.drew:=⟨_,rfl⟩
   rw [← hwc] at BT
   rw [← hwc]
   clear hwc hHeld
   have TC:=hid (TW.out.trans (BT.out.mono TW.out.size))
   have RXC:=hid (row_on RXW.out BT.out (row_lt RXW.out))
   have RC:=hid ((RW.out.below BT.out).more BT.out.size)
   refine wpAnyH_ready (rs:=[5]) (by kernel_rfl) (by simp) ?_
   refine AllReadyH.cons rfl (fun K hK=>?_) AllReadyH.nil
   rw [if_pos (by rfl)]
   go_simp
   refine (CC.out A3 n3 c3 HC3.out HN3.out t _ HZ1.out (HCV.out t HMEM.out) wc TC.out RC.out).mono ?_
   have hml:=cov_len t l
   generalize (covB t l).length=m at *
   rintro e wd ⟨hb,b2,o2,c2,rfl,k0⟩
   have TD:=hid (TC.out.trans (hb.mono TC.out.size))
   have RXD:=hid (row_on RXC.out hb (row_lt RXC.out))
   have RD:=hid ((RC.out.below hb).more hb.size)
   have CTD:Hid (wd.cell? ⟨b,o+j,none⟩=some (.int .u64 (t:Int))):=by
    have h1:=CT1.out
    have h2:=World.block_lt_of_cell? wr _ h1
    rw [← h1]
    exact ((BT.out.trans (hb.mono BT.out.size)).cell h2)
   have hm20:m≤20:=Nat.le_trans hml HNL.out
   obtain ⟨N,hN⟩:∃ N,N=m+1:=⟨_,rfl⟩
   rw [← hN]
   have tN:((N:Int)==0)=false:=by rw [beq_eq_false_iff_ne];omega
   have u1:wrap64 ((N:Int) - 1)=(m:Int):=by unfold wrap64;omega
   have m0:(0:Int)≤(m:Int):=by omega
   have m1:(m:Int)<(N:Int):=by omega
   have tnum:((num:Int) != (num:Int))=false:=by simp
   clear hb hml hm20 hN
   go_simp
   refine hK.out _ _ ⟨RXD.out,CTD.out⟩ (fun hHeld=>?_)
   try simp only [Act.put,List.setIfInBounds_toArray,List.set_cons_zero,List.set_cons_succ]
   clear hK K
   refine takeR (i:=6) (v:=.slice (some ⟨b2,o2,none⟩) N c2) rfl (by kernel_rfl) (by kernel_rfl) (by kernel_rfl) (fun _ _ _ h=>h) (by rfl) (by intro W hSw;go_simp) (by assumption) ?_
   try simp only [Act.put,List.setIfInBounds_toArray,List.set_cons_zero,List.set_cons_succ]
   refine wpAnyH_done (by kernel_rfl) ?_ _
   clear hHeld
   go_wp2_with fail
   have h5:=HNT.out
   have hw:wrap64 ((j:Int)+1)=((j+1:Nat):Int):=by unfold wrap64;omega
   rw [hw]
   clear hw
   go_roundw
   case rel=>exact ⟨j+1,by omega,rfl,TD,RXD,RD⟩
   case measure=>simp [intOf];omega
  ·
   obtain rfl:j=nt:=by omega
   have hii:decide ((j:Int)<(j:Int))=false:=decide_eq_false (by omega)
   go_wp2_with fail
   refine (CH.out wr TW.out).mono ?_
   rintro e wh ⟨rfl,hb2⟩
   have TH:=hid (TW.out.trans (hb2.mono TW.out.size))
   clear hb2
   go_wp2_with fail
   go_ret
   exact ⟨rfl,TH.out⟩
end Go.Proofs.YteckeagobafoiaaGreatDoor
/- BibBack returns true for every input, and leaves each argument as it was. No condition. -/
namespace Go.Proofs.YteckeagobafoiaaGreatDoor.bibBack
set_option maxRecDepth 100000
open Go.ChangeShapes Go.WideShapes Go.ChangeAt Go.RowKit
open Go.ChangeMaps (open_string shut_string)
set_option linter.unusedVariables false
theorem own:ownKnob Tryz.prog.godebug=none:=by kernel_rfl
theorem laidOut:laidOutB Tryz.prog=true:=by kernel_rfl
theorem bytes_u8:Tryz.prog.bytesOf 5=1:=by kernel_rfl
theorem contract (H:Type) (enc:TypeId×Value→H) (W:World) (base:Nat) (args:Array Value) (ds gs:List (DataW H)) (before:List MemPlace)
  (hval0:∀ (j:Nat) t v,Tryz.f7.params[j]?=some t→args[j]?=some v→Value.okWide Tryz.prog W .any base t v)
  (hW:DataW.Whole enc Tryz.prog Tryz.f7.params.toList Rows.bibBackSpec.vars false W args.toList ds gs before)
  (hsz0:(DataW.weightsEach Tryz.prog (Tryz.f7.params.toList++Rows.bibBackSpec.plain.varTypes Tryz.prog) (ds++gs)).all (·≤reachBytes)=true)
  (hL:laidMetH Tryz.prog laidU W) :
  Calls Tryz.prog 7 args W fun e W'=>∃ v,e=.returned v∧Rows.bibBackSpec.post enc Tryz.prog Tryz.f7 false true false false W args v W':=by
 have hsz:=hsz0
 have hval:=hval0
 have hW':=hW
 obtain ⟨p,q,hA0,hV,rfl,hfz,hnd⟩:=hW
 have hA:DataW.TrodAll enc Tryz.prog W 0 (fun _=>true) true Tryz.f7.params.toList args.toList ds p:=hA0
 rw [Tryz.params7] at hA hval hsz
 obtain ⟨v0,vs0,d0,ds0,p0,q0,hargs,rfl,rfl,h0,r0⟩:=trodAll_cons hA
 obtain ⟨v1,vs1,d1,ds1,p1,q1,rfl,rfl,rfl,h1,r1⟩:=trodAll_cons r0
 obtain ⟨v2,vs2,d2,ds2,p2,q2,rfl,rfl,rfl,h2,r2⟩:=trodAll_cons r1
 obtain ⟨v3,vs3,d3,ds3,p3,q3,rfl,rfl,rfl,h3,r3⟩:=trodAll_cons r2
 obtain ⟨v4,vs4,d4,ds4,p4,q4,rfl,rfl,rfl,h4,r4⟩:=trodAll_cons r3
 obtain ⟨v5,vs5,d5,ds5,p5,q5,rfl,rfl,rfl,h5,r5⟩:=trodAll_cons r4
 obtain ⟨rfl,rfl,rfl⟩:=trodAll_nil r5
 obtain rfl:args=#[v0,v1,v2,v3,v4,v5]:=by cases args;simp_all
 obtain ⟨rfl,rfl⟩:=trodVars_none hV
 obtain ⟨A,TT,hAA,hTT⟩:=wd_of hL
 have k0:=h0
 have lt0:∀ x∈p0,x.block<W.heap.size:=by obtain ⟨m,hm⟩:=k0;exact DataW.trod_lt m _ _ _ hm
 have y0:∀ x∈DataW.weights Tryz.prog 28 d0,x≤reachBytes:=fun x hx=>by have h:=List.all_eq_true.1 hsz _ (DataW.weights_mem_each (j:=0) (t:=28) (d:=d0) rfl rfl x hx);simpa using h
 obtain ⟨b0,l0,a0,n0,c0,rfl,z0⟩:=open_bun (hval 0 28 v0 rfl rfl) h0 y0
 obtain ⟨a1,len1,cap1,rfl⟩:=okWide_slice Tryz.underlying35 (hval 1 35 v1 rfl rfl)
 have k1:=h1
 have lt1:∀ x∈p1,x.block<W.heap.size:=by obtain ⟨m,hm⟩:=k1;exact DataW.trod_lt m _ _ _ hm
 obtain ⟨l1,z1⟩:∃ l,RdN W W.heap.size a1 len1 l∧len1≤cap1∧∀ t∈l,t<18446744073709551616:=by
  obtain ⟨fuel,hf⟩:=h1
  rcases open_ints Tryz.underlying35 Tryz.underlying22 (by kernel_rfl) hf with ⟨hcs,_⟩|⟨x,l,c,zs,hcs,_,hl,hm,hz,hd,hcell,hwz⟩
  ·
   simp [Value.cells] at hcs
   obtain ⟨rfl,rfl,rfl⟩:=hcs
   exact ⟨[],RdN.nil_,Nat.le_refl _,by simp⟩
  ·
   simp [Value.cells] at hcs
   obtain ⟨rfl,rfl,rfl⟩:=hcs
   have hz':zs.length=cap1:=by simpa using hz
   exact ⟨_,(RdN.of_ints hl hz' hcell hwz).1,hl,(RdN.of_ints hl hz' hcell hwz).2⟩
 obtain ⟨a2,rfl,rfl,rfl,w2⟩:=open_int Tryz.underlying22 (hval 2 22 v2 rfl rfl) h2
 obtain ⟨a3,rfl,rfl,rfl,w3⟩:=open_int Tryz.underlying3 (hval 3 3 v3 rfl rfl) h3
 have k4:=h4
 have lt4:∀ x∈p4,x.block<W.heap.size:=by obtain ⟨m,hm⟩:=k4;exact DataW.trod_lt m _ _ _ hm
 obtain ⟨c40,c41,c42,c43,y40,y41,y42,y43,m4,rfl,hd4,hp4,hy40,hy41,hy42,hy43⟩:=Joins.open_agg4 Tryz.underlying25 (by kernel_rfl) cellsEid (hval 4 25 v4 rfl rfl) h4
 obtain ⟨sc4,e40,rfl,w40⟩:=DataW.trod_int Tryz.underlying23 hy40
 obtain ⟨s4,e41,rfl,w41⟩:=DataW.trod_string Tryz.underlying9 hy41
 obtain ⟨n4,e42,rfl,w42⟩:=DataW.trod_int Tryz.underlying22 hy42
 obtain ⟨u4,e43,rfl,w43⟩:=DataW.trod_int Tryz.underlying22 hy43
 simp only [List.cons.injEq,and_true] at e40 e41 e42 e43
 subst e40 e41 e42 e43
 have z4:s4.size≤140737488355328:=by
  have h:=List.all_eq_true.1 hsz _ (DataW.weights_mem_each (j:=4) (t:=25) (d:=.agg [.lit (.int .i64 sc4),.lit (.string s4.data.toList),.lit (.int .u64 n4),.lit (.int .u64 u4)]) rfl (by rw [hd4];rfl) s4.data.toList.length (by simp [DataW.weights,Tryz.underlying25,DataW.weightsEach]))
  have e:s4.data.toList.length=s4.size:=(by simp)
  rw [e] at h
  have h2:s4.size≤reachBytes:=by simpa using h
  exact Nat.le_trans h2 (by decide)
 obtain ⟨g4,hg4,rfl⟩:∃ g:Nat,g<18446744073709551616∧n4=(g:Int):=⟨n4.toNat,by have h:=wf_u64_ w42;omega,by have h:=wf_u64_ w42;omega⟩
 obtain ⟨q4',hq4,rfl⟩:∃ g:Nat,g<18446744073709551616∧u4=(g:Int):=⟨u4.toNat,by have h:=wf_u64_ w43;omega,by have h:=wf_u64_ w43;omega⟩
 obtain ⟨a5,len5,cap5,rfl⟩:=okWide_slice Tryz.underlying29 (hval 5 29 v5 rfl rfl)
 have k5:=h5
 have lt5:∀ x∈p5,x.block<W.heap.size:=by obtain ⟨m,hm⟩:=k5;exact DataW.trod_lt m _ _ _ hm
 obtain ⟨l5,z5⟩:∃ l,Rd W W.heap.size a5 len5 l∧len5≤cap5∧cap5≤140737488351232:=by
  obtain ⟨fuel,hf⟩:=h5
  rcases open_ints Tryz.underlying29 Tryz.underlying5 (by kernel_rfl) hf with ⟨hcs,_⟩|⟨x,l,c,zs,hcs,_,hl,hm,hz,hd,hcell,hwz⟩
  ·
   simp [Value.cells] at hcs
   obtain ⟨rfl,rfl,rfl⟩:=hcs
   exact ⟨[],Rd.nil_,Nat.le_refl _,by decide⟩
  ·
   simp [Value.cells] at hcs
   obtain ⟨rfl,rfl,rfl⟩:=hcs
   simp only [Prod.mk.injEq] at hd
   obtain ⟨rfl,_⟩:=hd
   have hr:=sized_slice hsz (j:=5) (t:=29) (e:=5) rfl rfl Tryz.underlying29
   rw [bytes_u8] at hr
   simp only [lits,List.length_map,List.length_take,List.length_drop,reachBytes] at hr
   have hz':zs.length=cap5:=by simpa using hz
   exact ⟨_,Rd.of_ints hl hz' hcell hwz,hl,by omega⟩
 clear hA0 hval0
 refine (bibBack_walk b0 l0 a0 n0 c0 a1 len1 cap1 l1 a2 a3 sc4 s4 g4 q4' a5 len5 cap5 l5 W A TT z0 z1 w2 w3 z4 hg4 hq4 z5 hAA hTT).mono fun e W' ⟨he,bel⟩=>?_
 subst he
 exact ⟨_,rfl,_,_,_,[],_,[],hW',trodAll_mk1 (shut_bool Tryz.underlying4 _),(trodAll_cons_mk (Below.trod laidOut (by kernel_rfl) (of_decide_eq_true (by kernel_rfl)) k0 bel lt0) (trodAll_cons_mk (Below.trod laidOut (by kernel_rfl) (of_decide_eq_true (by kernel_rfl)) k1 bel lt1) (trodAll_cons_mk (shut_int Tryz.underlying22 w2) (trodAll_cons_mk (shut_int Tryz.underlying3 w3) (trodAll_cons_mk (Below.trod laidOut (by kernel_rfl) (of_decide_eq_true (by kernel_rfl)) k4 bel lt4) (trodAll_cons_mk (Below.trod laidOut (by kernel_rfl) (of_decide_eq_true (by kernel_rfl)) k5 bel lt5) trodAll_mk0)))))),rfl,bel.frame _,fun h=>by cases h⟩
theorem reads (os:Os) {H:Type} (enc:TypeId×Value→H):∃ places,DataW.whole enc Tryz.prog ((laidW os).forCall (fun _ _=>0) ⟨#[],#[.agg #[.int .u64 0,.int .i64 0,.int .i64 0,.string ByteArray.empty,.int .u64 0,.int .u64 0,.int .i64 0,.string ByteArray.empty,.int .u64 0,.int .u64 0,.int .i64 0,.string ByteArray.empty,.int .u64 0,.int .u64 0,.int .u64 0,.int .u64 0,.int .u64 0,.slice none 0 0],.slice none 0 0,.int .u64 0,.int .i64 0,.agg #[.int .i64 0,.string ByteArray.empty,.int .u64 0,.int .u64 0],.slice none 0 0],[]⟩).memory Tryz.f7.params.toList Rows.bibBackSpec.vars false (#[.agg #[.int .u64 0,.int .i64 0,.int .i64 0,.string ByteArray.empty,.int .u64 0,.int .u64 0,.int .i64 0,.string ByteArray.empty,.int .u64 0,.int .u64 0,.int .i64 0,.string ByteArray.empty,.int .u64 0,.int .u64 0,.int .u64 0,.int .u64 0,.int .u64 0,.slice none 0 0],.slice none 0 0,.int .u64 0,.int .i64 0,.agg #[.int .i64 0,.string ByteArray.empty,.int .u64 0,.int .u64 0],.slice none 0 0]:Array Value).toList 8=some ([.agg [.lit (.int .u64 0),.lit (.int .i64 0),.agg [.lit (.int .i64 0),.lit (.string []),.lit (.int .u64 0),.lit (.int .u64 0)],.agg [.lit (.int .i64 0),.lit (.string []),.lit (.int .u64 0),.lit (.int .u64 0)],.agg [.lit (.int .i64 0),.lit (.string []),.lit (.int .u64 0),.lit (.int .u64 0)],.lit (.int .u64 0),.lit (.int .u64 0),.lit (.int .u64 0),.nil],.nil,.lit (.int .u64 0),.lit (.int .i64 0),.agg [.lit (.int .i64 0),.lit (.string []),.lit (.int .u64 0),.lit (.int .u64 0)],.nil],[],places) :=
 ⟨[],by kernel_rfl⟩
theorem lifted (os:Os) (started:os.Started) (H:Type) (enc:TypeId×Value→H) (F:Stop.Interp) :
  ReturnsInHanded {} Tryz.checked os 7 .any ((OpenSpec.ofChange Rows.bibBackSpec).preRow enc Tryz.prog Tryz.f7 Rows.bibBackRow.domain false Rows.bibBackRow.laid) (((OpenSpec.ofChange Rows.bibBackSpec).at F).post enc Tryz.prog Tryz.f7 false true false false):=by
 obtain ⟨places,hx⟩:=reads os enc
 refine returnsInHanded_of_row (C:=Tryz.checked) (s:=OpenSpec.ofChange Rows.bibBackSpec) own started (by kernel_rfl) Tryz.func7
  (witness_row_at (enc:=enc) (C:=Tryz.checked) false (laidW os) #[.agg #[.int .u64 0,.int .i64 0,.int .i64 0,.string ByteArray.empty,.int .u64 0,.int .u64 0,.int .i64 0,.string ByteArray.empty,.int .u64 0,.int .u64 0,.int .i64 0,.string ByteArray.empty,.int .u64 0,.int .u64 0,.int .u64 0,.int .u64 0,.int .u64 0,.slice none 0 0],.slice none 0 0,.int .u64 0,.int .i64 0,.agg #[.int .i64 0,.string ByteArray.empty,.int .u64 0,.int .u64 0],.slice none 0 0] rfl (by kernel_rfl) (by kernel_rfl) (by kernel_rfl)
   (OpenSpec.preRow_of_cond 8 hx (by kernel_rfl) (fun k hk=>by cases hk) (by kernel_rfl) (laidW_metH os _))) ?_
 intro W base args ds gs before hval hW _ _ hsz hL _ _
 exact contract H enc W base args ds gs before hval hW hsz hL
theorem said:Rows.BibBackSaid :=
 OpenClaim.holds_of_cond 7 Tryz.f7 rfl rfl rfl rfl rfl rfl rfl ⟨rfl,rfl,rfl,rfl,rfl⟩ rfl rfl rfl rfl rfl (by kernel_rfl) Tryz.func7 bibBack_closed
  (of_decide_eq_true (by kernel_rfl)) (by unfold Func.isWrapper;first|(rw [if_pos (by decide +kernel)];kernel_rfl)|(rw [if_neg (by decide +kernel)];exact ⟨rfl,rfl⟩))
  (fun os started H enc _ F=>by rw [OpenClaim.pre_eq_preRow];exact lifted os started H enc F)
theorem plainParams (f : FuncId) (fn : Func) (hf : Tryz.pinned.checked.prog.funcNamed "fairlead/fairleadlaw10.BibBack" = some f) (hfn : Tryz.pinned.checked.prog.funcs[f]? = some fn) :
  true=Tryz.pinned.checked.prog.looks []∧∀ (j:Nat) t,fn.params[j]?=some t→Tryz.pinned.checked.prog.wantsStandIn t=false:=by
 obtain rfl : f = 7 := Option.some.inj ((show Tryz.prog.funcNamed "fairlead/fairleadlaw10.BibBack" = some 7 by kernel_rfl).symm.trans hf) |>.symm
 obtain rfl:fn=Tryz.f7:=(Option.some.inj (Tryz.func7.symm.trans hfn)).symm
 refine ⟨by kernel_rfl,fun j t ht=>?_⟩
 rw [Tryz.params7] at ht
 have hm:=Array.mem_of_getElem? ht
 have hor:t=28∨t=35∨t=22∨t=3∨t=25∨t=29:=by simpa using hm
 rcases hor with rfl|rfl|rfl|rfl|rfl|rfl
 ·
  exact (show Tryz.prog.wantsStandIn 28=false by kernel_rfl)
 ·
  exact (show Tryz.prog.wantsStandIn 35=false by kernel_rfl)
 ·
  exact (show Tryz.prog.wantsStandIn 22=false by kernel_rfl)
 ·
  exact (show Tryz.prog.wantsStandIn 3=false by kernel_rfl)
 ·
  exact (show Tryz.prog.wantsStandIn 25=false by kernel_rfl)
 ·
  exact (show Tryz.prog.wantsStandIn 29=false by kernel_rfl)
theorem proved:Rows.BibBackCardSaid :=
 Claim7.holds_tied_plain_at .later [] _ _ _ _ said (fun _ h=>by cases h) (by kernel_rfl) (fun _ h=>by cases h) bibBack_row_tie rfl ⟨rfl,rfl⟩ (by kernel_rfl) rfl plainParams (by kernel_rfl)
#print axioms proved
end Go.Proofs.YteckeagobafoiaaGreatDoor.bibBack
