import Derived.Test.YteckeagobafoiaaGreatDoorQEidI3
import Derived.Test.YteckeagobafoiaaGreatDoorQEidT2
import Derived.Test.YteckeagobafoiaaGreatDoorQKCheck
import Derived.Test.YteckeagobafoiaaGreatDoorQKDec2
import Derived.Test.YteckeagobafoiaaGreatDoorQKMake
import Derived.Test.YteckeagobafoiaaGreatDoorQShaB
import Derived.Test.YteckeagobafoiaaGreatDoorQShaP
import Derived.Test.YteckeagobafoiaaGreatDoorQShaT
import Derived.Lib.SmallJoins
import Derived.ChangeArms
import Derived.ChangeSlices
import Derived.OpenShut
import Derived.Deep.AppendLies
import Derived.Deep.RegionHeld3
import Derived.Below
namespace Go.Proofs.YteckeagobafoiaaGreatDoor
set_option maxRecDepth 100000
set_option maxHeartbeats 16000000
open Go.RowKit
def keyB (k:List UInt8):List UInt8:=if 64<k.length then shaL k else k
def keyL (k:List UInt8):List UInt8:=keyB k++List.replicate (64 - (keyB k).length) 0
def xorL (b:List UInt8) (x:UInt8):List UInt8:=b.map (· ^^^ x)
def tagL (k t:List UInt8):List UInt8:=shaL (xorL (keyL k) 0x5c++shaL (xorL (keyL k) 0x36++t))
theorem shaL_size (l:List UInt8):(shaL l).length=32:=by
 have e:∀ L:List (BitVec 32),(outL L).length=4*L.length:=fun L=>by
  induction L with
  | nil=>rfl
  | cons y t ih=>rw [show outL (y::t)=be y.toNat 4++outL t from rfl,List.length_append,be_length,ih,List.length_cons];omega
 exact e _
theorem keyB_le (k:List UInt8):(keyB k).length≤64:=by
 unfold keyB
 split
 ·
  rw [shaL_size];decide
 ·
  omega
theorem keyL_length (k:List UInt8):(keyL k).length=64:=by
 have:=keyB_le k
 unfold keyL
 rw [List.length_append,List.length_replicate];omega
theorem xorL_length (b:List UInt8) (x:UInt8):(xorL b x).length=b.length:=by simp [xorL]
theorem tagL_length (k t:List UInt8):(tagL k t).length=32:=shaL_size _
open Go.Lib (hid)
def GivesDL (x:Itm) (n e:Int) (w:World) (en:Ending) (w':World):Prop:=∃ v,en=.returned (.tuple #[v,.int .i64 n,.int .i64 e])∧RdI (mask (lows w.heap.size) w') w'.heap.size v x∧Below w.heap.size w w'
theorem RdI.maskd {S:Nat→Bool} {W:World} {B:Nat} {v:Value} {x:Itm} (h:RdI (mask S W) B v x):RdI (mask S W.drew) B v x:=RdI.keep (w:=mask S W) (w':=mask S W.drew) (fun _ _=>rfl) h
theorem cdecodeL_any (A:Option Addr) (n c B:Nat) (l:List UInt8) (w:World) (hB:B≤w.heap.size) (h:Rd w B A n l) (hn:n≤140737488355328) (hc:n≤c) (hL:LaidE w) :
  Calls Tryz.prog 159 #[.slice A n c] w (GivesDL (decode l).1 (decode l).2.1 (decode l).2.2 w):=by
 have hst:RSt ((w.alloc (.cells #[.int .i64 0,.int .u64 0,.slice none 0 0,.slice none 0 0] 94)).alloc (.cells #[.slice A n c,.int .i64 0,.int .i64 0,.int .i64 0] 262)) (w.heap.size+1) A n c l 0 0 0 :=
  ⟨by simp,by simp,by simp,by simp,by simp,by simp,by simp,((h.alloc hB _).alloc (Nat.le_trans hB (le_alloc _ _)) _).more (by omega),Nat.zero_le _,hn,hc⟩
 have C1:=hid (item_all 8 _ _ _ _ _ _ _ _ _ (by rfl) (Nat.zero_le _) hst)
 obtain ⟨r,hr⟩:∃ r,r=dec 8 0 (l.drop 0):=⟨_,rfl⟩
 rw [← hr] at C1
 have HR:=hid hr
 have hlen:=h.1
 have HL:=hid hL
 clear hst h hr
 have hgl:2<w.heap.size:=hL.lt
 clear hL
 rcases r with z|⟨x,p',l'⟩
 ·
  have hd:decode l=(.zero,0,z):=by
   unfold decode
   have:=HR.out
   rw [List.drop_zero] at this
   rw [← this]
  rw [hd]
  clear hd
  have HC:Hid (Calls Tryz.prog 195 #[.pointer (some ⟨w.heap.size+1,0,none⟩)] ((w.alloc (.cells #[.int .i64 0,.int .u64 0,.slice none 0 0,.slice none 0 0] 94)).alloc (.cells #[.slice A n c,.int .i64 0,.int .i64 0,.int .i64 0] 262)) fun e w' =>
   e=.returned (.tuple #[.agg #[.int .i64 0,.int .u64 0,.slice none 0 0,.slice none 0 0],.iface 257 (.agg #[.int .i64 z])])∧Only (w.heap.size+1) ((w.alloc (.cells #[.int .i64 0,.int .u64 0,.slice none 0 0,.slice none 0 0] 94)).alloc (.cells #[.slice A n c,.int .i64 0,.int .i64 0,.int .i64 0] 262)) w'):=C1
  clear C1
  go_enter Tryz.func159,Tryz.ntmps159
  go_wp2_with fail
  refine HC.out.mono ?_
  rintro e w1 ⟨rfl,ho⟩
  have hb1:=(ho.below (by simp)).mono (B':=w.heap.size+1) (Nat.le_refl _)
  have hb2:Below (w.heap.size+1) (w.alloc (.cells #[.int .i64 0,.int .u64 0,.slice none 0 0,.slice none 0 0] 94)) (w1.alloc (.cells #[.int .i64 0,.int .u64 0,.slice none 0 0,.slice none 0 0] 94)) :=
   (((Below.refl _ _).alloc (by simp) _).trans hb1).alloc (by have:=hb1.size;simp at this;omega) _
  have hbw:Below w.heap.size w (w1.alloc (.cells #[.int .i64 0,.int .u64 0,.slice none 0 0,.slice none 0 0] 94)):=((Below.refl _ _).alloc (Nat.le_refl _) _).trans (hb2.mono (Nat.le_succ _))
  have C2:=hid (number_any z _ (HL.out.below hbw hgl))
  have HB2:=hid hb2
  have HBW:=hid hbw
  clear ho hb1 hb2 hbw
  go_wp2_with fail
  refine C2.out.mono ?_
  rintro e w3 ⟨rfl,hb3⟩
  have hb4:=HB2.out.trans (hb3.mono (by have:=HB2.out.size;simpa using this))
  obtain ⟨⟨z0,z1,z2,z3⟩,f0,f1,f2,f3⟩:=zero_cells hb4
  have HB4:=hid (((Below.refl w.heap.size w).alloc (Nat.le_refl _) _).trans (hb4.mono (Nat.le_succ _)))
  clear hb3 hb4
  go_wp2_with fail
  refine bodyPost_ret (v:=.tuple #[noItem,.int .i64 0,.int .i64 z]) (by simp [results,Tryz.results159,go_sem,z0,z1,z2,z3,noItem]) rfl ⟨_,rfl,RdI.mk_uint (by decide),set4_below HB4.out (Nat.le_refl _)⟩
 ·
  have hd:decode l=(x,((l.length - l'.length:Nat):Int),0):=by
   unfold decode
   have:=HR.out
   rw [List.drop_zero] at this
   rw [← this]
  rw [hd]
  clear hd
  obtain ⟨M,hM⟩:∃ M,M=l.length - l'.length:=⟨_,rfl⟩
  rw [← hM]
  have HM:=hid hM
  clear hM
  go_enter Tryz.func159,Tryz.ntmps159
  go_wp2_with fail
  refine C1.out.mono ?_
  rintro e w1 ⟨v,i1,rfl,hv,hs1,hl1,ho⟩
  obtain ⟨k1,n1,A1,nd1,cd1,AL1,nl1,cl1,rfl⟩:=hv.form
  have hb1:=(ho.below (by simp)).mono (B':=w.heap.size+1) (Nat.le_refl _)
  have hsz1:w.heap.size+2≤w1.heap.size:=by have:=ho.size;simpa using this
  have hb2:Below (w.heap.size+1) (w.alloc (.cells #[.int .i64 0,.int .u64 0,.slice none 0 0,.slice none 0 0] 94)) (w1.alloc (.cells #[.int .i64 k1,.int .u64 (n1:Int),.slice A1 nd1 cd1,.slice AL1 nl1 cl1] 94)) :=
   (((Below.refl _ _).alloc (by simp) _).trans hb1).alloc (by omega) _
  obtain ⟨⟨z0,z1,z2,z3⟩,f0,f1,f2,f3⟩:=zero_cells hb2
  have HBW:=hid (((Below.refl w.heap.size w).alloc (Nat.le_refl _) (.cells #[.int .i64 0,.int .u64 0,.slice none 0 0,.slice none 0 0] 94)).trans (hb2.mono (Nat.le_succ _)))
  have r1:=(hs1.alloc (.cells #[.int .i64 k1,.int .u64 (n1:Int),.slice A1 nd1 cd1,.slice AL1 nl1 cl1] 94)).c1
  have HV:=hid (hv.mask_go (S':=lows (w.heap.size+2)) (w':=w1.alloc (.cells #[.int .i64 k1,.int .u64 (n1:Int),.slice A1 nd1 cd1,.slice AL1 nl1 cl1] 94)) (B':=w1.heap.size+1) (Nat.le_succ _) (fun k hk _=>Below.heap_alloc _ _ _ hk) (fun k _ hk=>by have:=lows_f.1 hk;simp at this;exact lows_f.2 this))
  have hi1:M=i1:=by
   have:=hs1.hi
   rw [HM.out,← hl1,List.length_drop]
   omega
  have HI1:=hid hi1
  have HSZ:=hid hsz1
  clear hv hs1 hl1 ho hb1 hb2 hi1 hsz1
  go_wp2_with fail
  go_region
  go_wp2_with fail
  have hv2:=(HV.out.fin (b:=w.heap.size) (lo':=w.heap.size) (u0:=.int .i64 k1) (u1:=.int .u64 (n1:Int)) (u2:=.slice A1 nd1 cd1) (u3:=.slice AL1 nl1 cl1) (by simp) (by omega) (by omega))
  have hv3:=RdI.maskd hv2
  rw [HI1.out]
  refine bodyPost_ret (v:=.tuple #[.agg #[.int .i64 k1,.int .u64 (n1:Int),.slice A1 nd1 cd1,.slice AL1 nl1 cl1],.int .i64 (i1:Int),.int .i64 0]) (by simp [results,Tryz.results159,go_sem,z0,z1,z2,z3]) rfl ⟨_,rfl,hv3,(set4_below HBW.out (Nat.le_refl _)).drew⟩
open Go.RowKit Go.ChangeShapes Go.WideShapes Go.ChangeAt
theorem cellsBlk:Tryz.prog.cellsOf 63=5:=by kernel_rfl
theorem cellsU64:Tryz.prog.cellsOf 22=1:=by kernel_rfl
theorem cellsInt:Tryz.prog.cellsOf 3=1:=by kernel_rfl
theorem cellsBy:Tryz.prog.cellsOf 29=1:=by kernel_rfl
theorem wfU {n:Int} (h:(Lit.int .u64 n).wf=true):0≤n∧n<18446744073709551616:=by
 simp [Lit.wf,IntKind.min,IntKind.max,IntKind.signed,IntKind.bits] at h
 omega
def ItmL (E:Epd) (w:World) (e:Ending) (w':World):Prop:=Below w.heap.size w w' ∧
 ((checkB E=true∧∃ v,e=.returned (.tuple #[v,.int .i64 0])∧RdI (mask (lows w.heap.size) w') w'.heap.size v (itemE E)) ∨
  (checkB E=false∧e=.returned (.tuple #[zeroItem,.int .i64 40])))
theorem itemL_any (A:Snt) (sc:Int) (s:ByteArray) (n0 v0:Nat) (w:World) (hA:Lds A w) (hs:s.size≤140737488355328) (hn:n0<18446744073709551616) (hv:v0<18446744073709551616) :
  Calls Tryz.prog 150 #[epdV sc s n0 v0] w (ItmL (ep sc s n0 v0) w):=by
 have HA1:=hid ((hA.alloc (.cells #[.int .i64 sc,.string s,.int .u64 (n0:Int),.int .u64 (v0:Int)] 25)).alloc (.cells #[.int .i64 0,.int .u64 0,.slice none 0 0,.slice none 0 0] 94))
 have C1:=hid (written_any A sc s n0 v0 _ HA1.out hs hn hv)
 have HB0:Hid (Below w.heap.size w ((w.alloc (.cells #[.int .i64 sc,.string s,.int .u64 (n0:Int),.int .u64 (v0:Int)] 25)).alloc (.cells #[.int .i64 0,.int .u64 0,.slice none 0 0,.slice none 0 0] 94))):=((Below.refl _ _).alloc (Nat.le_refl _) _).alloc (le_alloc _ _) _
 generalize ep sc s n0 v0=E at *
 clear hA hs hn hv
 unfold epdV at *
 go_enter Tryz.func150,Tryz.ntmps150
 go_wp2_with fail
 refine C1.out.mono ?_
 rintro e w1 ⟨hb,hcase⟩
 have HL1:=hid (HA1.out.below hb (Nat.le_refl _))
 have HB1:=hid (hb.mono (show w.heap.size+2≤_ by simp))
 have HZ1:Hid (w.heap.size+2≤w1.heap.size):=by show _≤_;have h:=hb.size;simpa using h
 have HNE:Hid (¬ w.heap.size+1=w1.heap.size):=fun h=>by have:=HZ1.out;omega
 clear hb
 obtain ⟨hc,v,rfl,hr⟩|⟨hc,a,tx,ha,rfl⟩:=hcase
 ·
  obtain ⟨k,m,D,nd,cd,AL,nl,cl,rfl⟩:=hr.form
  have hs2:((w.alloc (.cells #[.int .i64 sc,.string s,.int .u64 (n0:Int),.int .u64 (v0:Int)] 25)).alloc (.cells #[.int .i64 0,.int .u64 0,.slice none 0 0,.slice none 0 0] 94)).heap.size=w.heap.size+2:=by simp
  rw [hs2] at hr
  have HR:=hid (hr.grow ((Below.refl w1.heap.size w1).alloc (Nat.le_refl _) (.cells #[.int .i64 k,.int .u64 (m:Int),.slice D nd cd,.slice AL nl cl] 94)) (Nat.le_refl _))
  have HC:=hid hc
  have CN:=hid (fun W (hW:Lds A W)=>number_nilB A W hW)
  clear hc hr hs2
  go_wp2_with fail
  have HA2:=hid (HL1.out.alloc (.cells #[.int .i64 k,.int .u64 (m:Int),.slice D nd cd,.slice AL nl cl] 94))
  have HB2:=hid (HB1.out.trans (((Below.refl w1.heap.size w1).alloc (Nat.le_refl _) (.cells #[.int .i64 k,.int .u64 (m:Int),.slice D nd cd,.slice AL nl cl] 94)).mono HZ1.out))
  have HLT:Hid (w1.heap.size<(w1.alloc (.cells #[.int .i64 k,.int .u64 (m:Int),.slice D nd cd,.slice AL nl cl] 94)).heap.size):=by show _<_;simp
  obtain ⟨p0,p1,p2,p3⟩:=box_cells4 (Below.refl _ (w1.alloc (.cells #[.int .i64 k,.int .u64 (m:Int),.slice D nd cd,.slice AL nl cl] 94)))
  generalize w1.alloc (.cells #[.int .i64 k,.int .u64 (m:Int),.slice D nd cd,.slice AL nl cl] 94)=W1 at *
  have HD:=hid (HA2.out.below (Below.drew_ (B:=W1.heap.size)) (Nat.le_refl _))
  have HZ2:=hid (Nat.le_trans HZ1.out (Nat.le_of_lt HLT.out))
  go_region_held3 (fun W=>W.cell? ⟨w1.heap.size,0,none⟩=some (.int .i64 k)∧W.cell? ⟨w1.heap.size,1,none⟩=some (.int .u64 (m:Int))∧W.cell? ⟨w1.heap.size,2,none⟩=some (.slice D nd cd)∧W.cell? ⟨w1.heap.size,3,none⟩=some (.slice AL nl cl))
   (first|(with_reducible exact ⟨put4_cell_ x0 HNE.out,put4_cell_ x1 HNE.out,put4_cell_ x2 HNE.out,put4_cell_ x3 HNE.out⟩)|(with_reducible exact ⟨x0,x1,x2,x3⟩)|(exact ⟨p0,p1,p2,p3⟩)|fail)
   (first
    | (go_at_call 189;refine (CN.out _ HD.out).mono ?_;rintro e w2 ⟨rfl,hb2⟩;have hb2':Below W1.heap.size W1 w2:=Below.drew_.trans hb2;have x0:=(hb2'.cell (p:=⟨w1.heap.size,0,none⟩) HLT.out).trans p0;have x1:=(hb2'.cell (p:=⟨w1.heap.size,1,none⟩) HLT.out).trans p1;have x2:=(hb2'.cell (p:=⟨w1.heap.size,2,none⟩) HLT.out).trans p2;have x3:=(hb2'.cell (p:=⟨w1.heap.size,3,none⟩) HLT.out).trans p3;have hb3:=HB2.out.trans (hb2'.mono HZ2.out);have BX:=hid hb2';obtain ⟨⟨z0,z1,z2,z3⟩,f0,f1,f2,f3⟩:=zero4 (g:=w.heap.size+1) (by simp) hb3;have B3:=hid hb3;clear hb2 hb2' hb3)
    | fail)
  go_wp2_with fail
  refine bodyPost_ret (v:=.tuple #[.agg #[.int .i64 k,.int .u64 (m:Int),.slice D nd cd,.slice AL nl cl],.int .i64 0]) (by simp [results,Tryz.results150,go_sem,z0,z1,z2,z3]) rfl ⟨below_set4 (HB0.out.trans (B3.out.mono (Nat.le_add_right _ 2))) (Nat.le_succ _),.inl ⟨HC.out,_,rfl,?_⟩⟩
  exact (HR.out.grow BX.out (Nat.le_refl _)).put4 (Nat.le_add_right _ 2) (Nat.lt_succ_self _) (Nat.le_of_eq size_put4.symm)
 ·
  have HC:=hid hc
  have CN:=hid (fun W (hW:Lds A W)=>number_ch A 1 (.iface 288 (.agg #[.string tx,snt a])) a W hW (.wrap 0 tx _ _ a (.leaf a ha)) (by decide))
  clear hc ha
  unfold zeroItem eflt snt at *
  go_wp2_with fail
  have HA2:=hid (HL1.out.alloc (.cells #[.int .i64 0,.int .u64 0,.slice none 0 0,.slice none 0 0] 94))
  have HB2:=hid (HB1.out.trans (((Below.refl w1.heap.size w1).alloc (Nat.le_refl _) (.cells #[.int .i64 0,.int .u64 0,.slice none 0 0,.slice none 0 0] 94)).mono HZ1.out))
  have HLT:Hid (w1.heap.size<(w1.alloc (.cells #[.int .i64 0,.int .u64 0,.slice none 0 0,.slice none 0 0] 94)).heap.size):=by show _<_;simp
  obtain ⟨p0,p1,p2,p3⟩:=box_cells4 (Below.refl _ (w1.alloc (.cells #[.int .i64 0,.int .u64 0,.slice none 0 0,.slice none 0 0] 94)))
  generalize w1.alloc (.cells #[.int .i64 0,.int .u64 0,.slice none 0 0,.slice none 0 0] 94)=W1 at *
  have HD:=hid (HA2.out.below (Below.drew_ (B:=W1.heap.size)) (Nat.le_refl _))
  have HZ2:=hid (Nat.le_trans HZ1.out (Nat.le_of_lt HLT.out))
  go_region_held3 (fun W=>W.cell? ⟨w1.heap.size,0,none⟩=some (.int .i64 0)∧W.cell? ⟨w1.heap.size,1,none⟩=some (.int .u64 0)∧W.cell? ⟨w1.heap.size,2,none⟩=some (.slice none 0 0)∧W.cell? ⟨w1.heap.size,3,none⟩=some (.slice none 0 0))
   (first|(with_reducible exact ⟨put4_cell_ x0 HNE.out,put4_cell_ x1 HNE.out,put4_cell_ x2 HNE.out,put4_cell_ x3 HNE.out⟩)|(with_reducible exact ⟨x0,x1,x2,x3⟩)|(exact ⟨p0,p1,p2,p3⟩)|fail)
   (first
    | (go_at_call 189;refine (CN.out _ HD.out).mono ?_;rintro e w2 ⟨rfl,hb2⟩;have hb2':Below W1.heap.size W1 w2:=Below.drew_.trans hb2;have x0:=(hb2'.cell (p:=⟨w1.heap.size,0,none⟩) HLT.out).trans p0;have x1:=(hb2'.cell (p:=⟨w1.heap.size,1,none⟩) HLT.out).trans p1;have x2:=(hb2'.cell (p:=⟨w1.heap.size,2,none⟩) HLT.out).trans p2;have x3:=(hb2'.cell (p:=⟨w1.heap.size,3,none⟩) HLT.out).trans p3;have hb3:=HB2.out.trans (hb2'.mono HZ2.out);have BX:=hid hb2';obtain ⟨⟨z0,z1,z2,z3⟩,f0,f1,f2,f3⟩:=zero4 (g:=w.heap.size+1) (by simp) hb3;have B3:=hid hb3;clear hb2 hb2' hb3)
    | fail)
  go_wp2_with fail
  refine bodyPost_ret (v:=.tuple #[zeroItem,.int .i64 40]) (by simp [results,Tryz.results150,go_sem,z0,z1,z2,z3,zeroItem]) rfl ⟨below_set4 (HB0.out.trans (B3.out.mono (Nat.le_add_right _ 2))) (Nat.le_succ _),.inr ⟨HC.out,rfl⟩⟩
def RowAt (w:World) (g:Nat) (cs:List Value):Prop:=g<w.heap.size∧∀ j u,cs[j]?=some u→w.cell? ((⟨g,0,none⟩:Addr).add j)=some u
theorem addr0 (g j:Nat):(⟨g,0,none⟩:Addr).add j=⟨g,j,none⟩:=by unfold Addr.add;split <;> simp_all
theorem RowAt.made (w:World) (cs:Array Value) (t:TypeId):RowAt (w.alloc (.cells cs t)) w.heap.size cs.toList :=
 ⟨by simp,fun j u hj=>by
  rw [addr0,World.cell?_alloc_at _ _ _ _ rfl]
  simpa using hj⟩
theorem RowAt.below {w w':World} {g:Nat} {cs:List Value} (h:RowAt w g cs) (hb:Below w.heap.size w w'):RowAt w' g cs :=
 ⟨Nat.lt_of_lt_of_le h.1 hb.size,fun j u hj=>by rw [addr0,hb.cell (p:=⟨g,j,none⟩) h.1,← addr0];exact h.2 j u hj⟩
theorem RowAt.alloc {w:World} {g:Nat} {cs:List Value} (h:RowAt w g cs) (o:Obj):RowAt (w.alloc o) g cs:=h.below ((Below.refl _ _).alloc (Nat.le_refl _) o)
theorem RowAt.grown {w w':World} {g g0:Nat} {cs:List Value} (h:RowAt w g cs) (hg:w.grownBy w' (some g0)) (hne:g≠g0):RowAt w' g cs :=
 ⟨Nat.lt_of_lt_of_le h.1 hg.size,fun j u hj=>by rw [addr0,hg.cell_far ⟨g,j,none⟩ h.1 (fun e=>hne (Option.some.inj e)),← addr0];exact h.2 j u hj⟩
theorem takeR {P:Program} {md:Region.Mode} {l:List Oper} {Q:Exit→Act→World→Prop} {S:World→Prop} {i:Nat} {oi:Oper} {v:Value} {fuel:Nat} {listed:Array Bool} {a:Act} {w:World} (hi:l[i]?=some oi)
  (hs:Region.noSelect l.toArray=true) (hf:Region.free md l.toArray listed i=true) (hr:(Region.ready md l.toArray listed).contains i=true)
  (hQ:∀ c a w,Q (.panic c) (a.put oi.dst v) w→Q (.panic c) a w) (hw:Region.wanted oi (yielded l.toArray a.tmps)=true) (hy:∀ w,S w→(execOp a.eval oi).run P w=.ok (.value v) w) (hS:S w)
  (h:wpAnyH P md l.toArray Q S fuel (listed.setIfInBounds i true) (a.put oi.dst v) w):wpAnyH P md l.toArray Q S (fuel+1) listed a w :=
 wpAnyH_take (oi:=oi) (v:=v) (by simpa using hi) hs hf hr hQ (Or.inl ⟨hw,hy⟩) hS h
theorem RdIs.unmask {S:Nat→Bool} {w:World} {B b o:Nat} {l:List Itm} (hb:b<B) (h:RdIs (mask S w) B b o l):RdIs w B b o l:=h.sub (Nat.le_refl _) (fun _ _ _ hc=>mask_sub hc) hb
open Go.Lib (decDigits)
open Go.Lib (decDigits)
end Go.Proofs.YteckeagobafoiaaGreatDoor
