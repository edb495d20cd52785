import Derived.Test.YtlecbblmaadpiaaGreatDoorKBunG
import Derived.Test.YtlecbblmaadpiaaGreatDoorKKDecL
namespace Go.Proofs.YtlecbblmaadpiaaGreatDoor
set_option maxRecDepth 100000
set_option maxHeartbeats 16000000
open Go.RowKit
open Go.Lib (hid)
def TookS (S:Nat→Bool) (x:Itm) (w:World) (e:Ending) (w':World):Prop:=Below w.heap.size w w'∧∃ (t n f:Nat) (c:Int) (A:Option Addr) (nd cd:Nat) (d:List UInt8),e=.returned (blkV t n f c A nd cd)∧takenB x=⟨t,n,f,c,d⟩∧Bd ⟨t,n,f,c,d⟩∧(Lit.int .i64 c).wf=true∧(nd≤cd∧nd≤140737488355328)∧Rd (mask S w) w.heap.size A nd d
theorem btakenS_any (S:Nat→Bool) (x:Itm) (v0:Value) (B:Nat) (w:World) (hB:B≤w.heap.size) (h:RdI (mask S w) B v0 x) :
  Calls Tryz.prog 126 #[v0] w (TookS S x w):=by
 obtain ⟨k,m,d0,l⟩:=x
 obtain ⟨A,nd,cd,AL,cl,rfl,-,-,-,-,hl,hrow⟩:=h.open
 have HB0:Hid (Below w.heap.size w ((w.alloc (.cells #[.int .i64 k,.int .u64 (m:Int),.slice A nd cd,.slice AL l.length cl] 30)).alloc (.cells #[.int .u64 0,.int .u64 0,.int .u64 0,.int .i64 0,.slice none 0 0] 48))):=((Below.refl _ _).alloc nlr _).alloc (le_alloc _ _) _
 by_cases h5:l.length<5
 ·
  have ht:takenB (.mk k m d0 l)=Blk.zero:=by
   match l,h5 with
   | [],_=>rfl
   | [_],_=>rfl
   | [_,_],_=>rfl
   | [_,_,_],_=>rfl
   | [_,_,_,_],_=>rfl
   | _::_::_::_::_::_,h=>simp at h;omega
  have HT:Hid (∀ w':World,Below w.heap.size w w'→TookS S (.mk k m d0 l) w (.returned (blkV 0 0 0 0 none 0 0)) w'):=fun w' hb=>⟨hb,0,0,0,0,none,0,0,[],rfl,ht,⟨by decide,by decide,by decide⟩,by decide,⟨Nat.le_refl _,by decide⟩,Rd.nil_⟩
  have h5i:(l.length:Int)<5:=by omega
  obtain ⟨⟨z0,z1,z2,z3,z4⟩,f0,f1,f2,f3,f4⟩:=zero5 (g:=w.heap.size+1) (by simp) (Below.refl (w.heap.size+1+1) ((w.alloc (.cells #[.int .i64 k,.int .u64 (m:Int),.slice A nd cd,.slice AL l.length cl] 30)).alloc (.cells #[.int .u64 0,.int .u64 0,.int .u64 0,.int .i64 0,.slice none 0 0] 48)))
  clear ht h hrow hl
  generalize l.length=L at *
  go_enter Tryz.func126,Tryz.ntmps126
  go_wp2_with fail
  refine bodyPost_ret (v:=blkV 0 0 0 0 none 0 0) (by simp [results,Tryz.results126,go_sem,z0,z1,z2,z3,z4,blkV]) rfl (HT.out _ ?_)
  first|exact HB0.out|exact below_put5 HB0.out (Nat.le_succ _)
 ·
  obtain ⟨y0,y1,y2,y3,y4,r,rfl⟩:∃ y0 y1 y2 y3 y4 r,l=y0::y1::y2::y3::y4::r:=by
   match l,h5 with
   | [],h=>exact absurd (by simp) h
   | [_],h=>exact absurd (by simp) h
   | [_,_],h=>exact absurd (by simp) h
   | [_,_,_],h=>exact absurd (by simp) h
   | [_,_,_,_],h=>exact absurd (by simp) h
   | y0::y1::y2::y3::y4::r,_=>exact ⟨y0,y1,y2,y3,y4,r,rfl⟩
  obtain ⟨b,o,rfl,hb,hs⟩:=hrow (by simp)
  rw [RdIs,RdIs,RdIs,RdIs,RdIs] at hs
  obtain ⟨⟨a00,a01,a02,a03,-,i0,-,-,x0⟩,⟨a10,a11,a12,a13,-,i1,-,-,x1⟩,⟨a20,a21,a22,a23,-,i2,-,-,x2⟩,⟨a30,a31,a32,a33,-,i3,-,-,x3⟩,⟨a40,a41,a42,a43,-,-,i4,-,x4⟩,-⟩:=hs
  obtain ⟨k0,n0,d0',l0⟩:=y0
  obtain ⟨k1,n1,d1,l1⟩:=y1
  obtain ⟨k2,n2,d2,l2⟩:=y2
  obtain ⟨k3,n3,d3,l3⟩:=y3
  obtain ⟨k4,n4,d4,l4⟩:=y4
  obtain ⟨-,-,-,-,rfl,-,b0,-,-⟩:=x0.cells
  obtain ⟨-,-,-,-,rfl,-,b1,-,-⟩:=x1.cells
  obtain ⟨-,-,-,-,rfl,-,b2,-,-⟩:=x2.cells
  obtain ⟨-,-,-,-,rfl,-,b3,-,-⟩:=x3.cells
  obtain ⟨A4,nd4,cd4,-,-,rfl,-,b4,r4⟩:=x4.cells
  have hlt:b<w.heap.size:=Nat.lt_of_lt_of_le hb hB
  generalize hL:(Itm.mk k0 n0 d0' l0::.mk k1 n1 d1 l1::.mk k2 n2 d2 l2::.mk k3 n3 d3 l3::.mk k4 n4 d4 l4::r).length=L at *
  have HT:Hid (∀ w':World,Below w.heap.size w w'→TookS S (.mk k m d0 (Itm.mk k0 n0 d0' l0::.mk k1 n1 d1 l1::.mk k2 n2 d2 l2::.mk k3 n3 d3 l3::.mk k4 n4 d4 l4::r)) w (.returned (blkV n0 n1 n2 (wrap64 (n3:Int)) A4 nd4 cd4)) w'):=fun w' hb=>⟨hb,n0,n1,n2,wrap64 (n3:Int),A4,nd4,cd4,d4,rfl,rfl,⟨b0,b1,b2⟩,wf_wrap64 _,b4,r4.more hB⟩
  have h5i:¬ (L:Int)<5:=by omega
  have hLc:=hl.1
  have h5n:5≤L:=by omega
  have hn0:0<L:=by omega
  have hi0:(0:Int)<L:=by omega
  have hn1:1<L:=by omega
  have hi1:(1:Int)<L:=by omega
  have hn2:2<L:=by omega
  have hi2:(2:Int)<L:=by omega
  have hn3:3<L:=by omega
  have hi3:(3:Int)<L:=by omega
  have hn4:4<L:=by omega
  have hi4:(4:Int)<L:=by omega
  obtain ⟨W2,hW2⟩:∃ W2,W2=((w.alloc (.cells #[.int .i64 k,.int .u64 (m:Int),.slice A nd cd,.slice (some ⟨b,o,none⟩) L cl] 30)).alloc (.cells #[.int .u64 0,.int .u64 0,.int .u64 0,.int .i64 0,.slice none 0 0] 48)):=⟨_,rfl⟩
  have kk:∀ j u,w.cell? ⟨b,j,none⟩=some u→W2.cell? ⟨b,j,none⟩=some u:=fun j u hc=>by rw [hW2];exact (HB0.out.cell (p:=⟨b,j,none⟩) hlt).trans hc
  have s0:=kk _ _ (mask_sub i0)
  have s1:=kk _ _ (mask_sub i1)
  have s2:=kk _ _ (mask_sub i2)
  have s3:=kk _ _ (mask_sub i3)
  have s4:=kk _ _ (mask_sub i4)
  have t3:W2.cell? ⟨w.heap.size,3,none⟩=some (.slice (some ⟨b,o,none⟩) L cl):=by
   rw [hW2,World.cell?_alloc_lt _ _ ⟨w.heap.size,3,none⟩ (by simp),World.cell?_alloc_at _ _ _ _ rfl];rfl
  have hz5:=zero5 (g:=w.heap.size+1) (by simp) (Below.refl (w.heap.size+1+1) ((w.alloc (.cells #[.int .i64 k,.int .u64 (m:Int),.slice A nd cd,.slice (some ⟨b,o,none⟩) L cl] 30)).alloc (.cells #[.int .u64 0,.int .u64 0,.int .u64 0,.int .i64 0,.slice none 0 0] 48)))
  rw [← hW2] at hz5 HB0
  obtain ⟨⟨z0,z1,z2,z3,z4⟩,f0,f1,f2,f3,f4⟩:=hz5
  have q0:(w.alloc (.cells #[.int .i64 k,.int .u64 (m:Int),.slice A nd cd,.slice (some ⟨b,o,none⟩) L cl] 30)).heap.size=w.heap.size+1:=by simp
  have HN1:Hid (¬ w.heap.size+1=w.heap.size):=Nat.succ_ne_self _
  have HN2:Hid (¬ w.heap.size+1=b):=fun h=>by omega
  clear hL h hrow hl kk i0 i1 i2 i3 i4 x0 x1 x2 x3 x4 b0 b1 b2 b3 b4 r4 h5 hlt hb q0
  go_enter Tryz.func126,Tryz.ntmps126
  go_wp2_with fail
  rw [← hW2]
  clear hW2
  have t3d:W2.drew.cell? ⟨w.heap.size,3,none⟩=some (.slice (some ⟨b,o,none⟩) L cl):=t3
  have s0d:W2.drew.cell? ⟨b,o+1,none⟩=some (.int .u64 (n0:Int)):=s0
  have s1d:W2.drew.cell? ⟨b,o+4+1,none⟩=some (.int .u64 (n1:Int)):=s1
  have s2d:W2.drew.cell? ⟨b,o+4+4+1,none⟩=some (.int .u64 (n2:Int)):=s2
  have s3d:W2.drew.cell? ⟨b,o+4+4+4+1,none⟩=some (.int .u64 (n3:Int)):=s3
  have s4d:W2.drew.cell? ⟨b,o+4+4+4+4+2,none⟩=some (.slice A4 nd4 cd4):=s4
  go_region_held3 (fun W=>W.cell? ⟨w.heap.size,3,none⟩=some (.slice (some ⟨b,o,none⟩) L cl)∧W.cell? ⟨b,o+1,none⟩=some (.int .u64 (n0:Int))∧W.cell? ⟨b,o+4+1,none⟩=some (.int .u64 (n1:Int))∧W.cell? ⟨b,o+4+4+1,none⟩=some (.int .u64 (n2:Int))∧W.cell? ⟨b,o+4+4+4+1,none⟩=some (.int .u64 (n3:Int))∧W.cell? ⟨b,o+4+4+4+4+2,none⟩=some (.slice A4 nd4 cd4))
   (first|(with_reducible exact ⟨put5_drew t3 HN1.out,put5_drew s0 HN2.out,put5_drew s1 HN2.out,put5_drew s2 HN2.out,put5_drew s3 HN2.out,put5_drew s4 HN2.out⟩)|(with_reducible exact ⟨t3d,s0d,s1d,s2d,s3d,s4d⟩)|fail)
   (fail)
  all_goals go_wp2_with fail
  all_goals
   refine bodyPost_ret (v:=blkV n0 n1 n2 (wrap64 (n3:Int)) A4 nd4 cd4) (by simp [results,Tryz.results126,go_sem,z0,z1,z2,z3,z4,blkV,IntKind.wrap_i64,wrap64]) rfl (HT.out _ ?_)
   first|exact below_put5 HB0.out (Nat.le_succ _)|exact (below_put5 HB0.out (Nat.le_succ _)).drew|exact below_put5 (HB0.out.drew) (Nat.le_succ _)
theorem Rd.fresh {w:World} {lo B n:Nat} {A:Option Addr} {l:List UInt8} (h:Rd (mask (lows lo) w) B A n l):Rd w B A n l∧(0<n→∀ b o,A=some ⟨b,o,none⟩→lo≤b) :=
 ⟨⟨h.1,fun hn=>by
  obtain ⟨b,o,e,hb,hc⟩:=h.2 hn
  exact ⟨b,o,e,hb,fun i hi=>mask_sub (hc i hi)⟩⟩,fun hn b o e=>by
  obtain ⟨b',o',e',-,hc⟩:=h.2 hn
  rw [e] at e'
  cases e'
  exact lows_f.1 (mask_out (hc 0 hn))⟩
def ReadS (l:List UInt8) (w:World) (e:Ending) (w':World):Prop:=Below w.heap.size w w' ∧
 ((∃ (b:Blk) (A:Option Addr) (nd cd:Nat) (N:Int),e=.returned (.tuple #[blkV b.typ b.num b.flg b.crc A nd cd,.int .i64 N,.nilIface])∧decB l=(b,N,0)∧Bd b∧(nd≤cd∧nd≤140737488355328)∧Rd w' w'.heap.size A nd b.dat∧(0<nd→∀ b o,A=some ⟨b,o,none⟩→w.heap.size≤b)) ∨
  (∃ (z:Int) (s:ByteArray),z≠0∧decB l=(.zero,0,z)∧e=.returned (.tuple #[blkV 0 0 0 0 none 0 0,.int .i64 0,bfl z s])))
theorem breadS_any (A:Option Addr) (n c B:Nat) (l:List UInt8) (w:World) (hB:B≤w.heap.size) (h:Rd w B A n l) (hn:n≤140737488355328) (hc:n≤c) (hL:LaidE w) :
  Calls Tryz.prog 76 #[.slice A n c] w (ReadS l w):=by
 have HB0:=hid ((Below.refl w.heap.size w).alloc nlr (.cells #[.int .u64 0,.int .u64 0,.int .u64 0,.int .i64 0,.slice none 0 0] 48))
 have C1:=hid (cdecodeL_any A n c B l (w.alloc (.cells #[.int .u64 0,.int .u64 0,.int .u64 0,.int .i64 0,.slice none 0 0] 48)) (Nat.le_trans hB (le_alloc _ _)) (h.alloc hB _) hn hc (hL.below HB0.out hL.lt))
 have HZ:=hid (fun (W:World) (hb:Below (w.heap.size+1) (w.alloc (.cells #[.int .u64 0,.int .u64 0,.int .u64 0,.int .i64 0,.slice none 0 0] 48)) W)=>zero5 (g:=w.heap.size) rfl hb)
 have HZB:Hid (∀ (W:World) (_:Below (w.heap.size+1) (w.alloc (.cells #[.int .u64 0,.int .u64 0,.int .u64 0,.int .i64 0,.slice none 0 0] 48)) W),W.heap[w.heap.size]?=some (.cells #[.int .u64 0,.int .u64 0,.int .u64 0,.int .i64 0,.slice none 0 0] 48 (0,0))):=fun W hb=>by
  rw [hb.block w.heap.size (Nat.lt_succ_self _)];exact heap_alloc_new w _
 have HR:=hid h
 have HH:=hid (And.intro hB (And.intro hn hc))
 have q1:=fun (W:World) (u:TypeId) (x:Value)=>run_neq_iface_nil (P:=Tryz.prog) (w:=W) 95 (by kernel_rfl) u x
 have q2:=fun (W:World) (u:TypeId) (x:Value)=>run_eql_iface_nil (P:=Tryz.prog) (w:=W) 95 (by kernel_rfl) u x
 have hs0:(w.alloc (.cells #[.int .u64 0,.int .u64 0,.int .u64 0,.int .i64 0,.slice none 0 0] 48)).heap.size=w.heap.size+1:=by simp
 clear h hB hn hc hL
 rcases decode_cases l with ⟨z,hz,hd⟩|⟨x,r,hl,hf,hsz,hd⟩
 ·
  have hzn:z≠0:=by omega
  have hz0:(z==0)=false:=by simpa using hzn
  have HD:=hid (decB_err hd hzn)
  rw [hd] at C1
  have HZN:=hid hzn
  clear hd hz hzn
  go_enter Tryz.func76,Tryz.ntmps76
  go_wp2_with fail
  refine C1.out.mono ?_
  rintro e w1 ⟨v,rfl,hv,hb⟩
  obtain ⟨k1,n1,A1,nd1,cd1,AL1,nl1,cl1,rfl⟩:=hv.form
  rw [hs0] at hb
  have hb2:Below (w.heap.size+1) (w.alloc (.cells #[.int .u64 0,.int .u64 0,.int .u64 0,.int .i64 0,.slice none 0 0] 48)) (w1.alloc (.cells #[.int .i64 k1,.int .u64 (n1:Int),.slice A1 nd1 cd1,.slice AL1 nl1 cl1] 30)):=hb.alloc (by have:=hb.size;rw [hs0] at this;exact this) _
  obtain ⟨⟨z0,z1,z2,z3,z4⟩,f0,f1,f2,f3,f4⟩:=HZ.out _ hb2
  have B2:=hid hb2
  clear hb hv hb2
  go_wp2_with fail
  refine bodyPost_ret (v:=.tuple #[blkV 0 0 0 0 none 0 0,.int .i64 0,bfl z ⟨#[110,111,32,105,116,101,109]⟩]) (by simp [results,Tryz.results76,go_sem,z0,z1,z2,z3,z4,blkV,bfl]) rfl ⟨below_put5 (HB0.out.trans (B2.out.mono (Nat.le_succ _))) nlr,.inr ⟨z,_,HZN.out,HD.out,rfl⟩⟩
 ·
  obtain ⟨M,hM⟩:∃ M,M=(wri x).length:=⟨_,rfl⟩
  rw [← hM] at hd
  have hMn:M≤n:=by rw [← HR.out.1,hl,List.length_append,hM];omega
  obtain ⟨D1,d1,k1,hd1,-,r1⟩:=cut_h (P:=Tryz.prog) 27 5 Tryz.underlying27 size_u8 c HR.out (M:Int) M rfl hMn HH.out.2.2
  have HD:=hid hd
  have HR1:=hid (And.intro r1 (And.intro hd1 hMn))
  rw [hd] at C1
  clear hl hf hsz hM hd r1 hd1 hMn
  go_enter Tryz.func76,Tryz.ntmps76
  go_wp2_with fail
  refine C1.out.mono ?_
  rintro e w1 ⟨v,rfl,hv,hb⟩
  obtain ⟨ka,na,Aa,nda,cda,ALa,nla,cla,rfl⟩:=hv.form
  rw [hs0] at hb
  have hw1:w.heap.size+1≤w1.heap.size:=by have:=hb.size;rw [hs0] at this;exact this
  have hb2:=hb.alloc hw1 (.cells #[.int .i64 ka,.int .u64 (na:Int),.slice Aa nda cda,.slice ALa nla cla] 30)
  have C2:=hid (btakenS_any (lows (w.heap.size+1)) x _ (w1.alloc (.cells #[.int .i64 ka,.int .u64 (na:Int),.slice Aa nda cda,.slice ALa nla cla] 30)).heap.size (w1.alloc (.cells #[.int .i64 ka,.int .u64 (na:Int),.slice Aa nda cda,.slice ALa nla cla] 30)) nlr (RdI.grow (lo':=w.heap.size+1) hv ((Below.refl _ _).alloc nlr _) (by rw [hs0];exact Nat.le_refl _)))
  have B2:=hid hb2
  have HW1:=hid hw1
  clear hv hb hb2 hw1
  go_wp2_with fail
  refine C2.out.mono ?_
  rintro e w2 ⟨hb,t,nn,f,cc,A2,nd2,cd2,d2,rfl,ht,hbd,hwf,hnd,hr⟩
  obtain ⟨hr,hfr⟩:=hr.fresh
  have HFR:=hid hfr
  clear hfr
  have hw2:w1.heap.size+1≤w2.heap.size:=by have:=hb.size;simpa using this
  have hb3:=B2.out.trans (hb.mono (by have:=HW1.out;simp;omega))
  have hr2:=(hr.below hb).more (show _≤w2.heap.size from hb.size)
  have hb4:=hb3.alloc (by have:=HW1.out;omega) (.cells #[.int .u64 (t:Int),.int .u64 (nn:Int),.int .u64 (f:Int),.int .i64 cc,.slice A2 nd2 cd2] 48)
  have C3:=hid (bcheck_any t nn f cc A2 nd2 cd2 d2 (w2.alloc (.cells #[.int .u64 (t:Int),.int .u64 (nn:Int),.int .u64 (f:Int),.int .i64 cc,.slice A2 nd2 cd2] 48)) hr.1)
  have B4:=hid hb4
  have HW2:=hid hw2
  have HR2:=hid hr2
  have HT:=hid ht
  have HBD:=hid (And.intro hbd hnd)
  clear hb hb3 hb4 hr hr2 hw2 ht hbd hwf hnd C1 C2
  unfold blkV at *
  go_wp2_with fail
  refine C3.out.mono ?_
  rintro e w3 ⟨hb,⟨hok,rfl⟩|⟨hok,s,rfl⟩⟩
  ·
   have hb5:=B4.out.trans (hb.mono (by have:=HW1.out;have:=HW2.out;simp;omega))
   have hb6:=hb.mono (show w2.heap.size+1≤_ by simp)
   obtain ⟨g0,g1,g2,g3,g4⟩:=box5 rfl hb6
   have hlt3:w2.heap.size<w3.heap.size:=by have:=hb6.size;simp at this;omega
   have hw3:w.heap.size+1≤w3.heap.size:=by have:=HW1.out;have:=HW2.out;omega
   have HW3:=hid hw3
   have B5:=hid hb5
   have hr3:Rd w3 w3.heap.size A2 nd2 d2:=((HR2.out.alloc nlr _).below (hb.mono (by simp))).more (Nat.le_of_lt hlt3)
   have HR3:=hid hr3
   have gd0:=drew_cell g0
   have gd1:=drew_cell g1
   have gd2:=drew_cell g2
   have gd3:=drew_cell g3
   have gd4:=drew_cell g4
   have R3:Hid (∀ W,Below w3.heap.size w3 W→Rd W W.heap.size D1 M (l.take M)):=fun W hW=>(HR1.out.1.below (((HB0.out.trans (B5.out.mono (Nat.le_succ _))).trans (hW.mono (by have:=HW3.out;omega))).mono HH.out.1)).more (by have:=hW.size;have:=HW3.out;have:=HH.out.1;omega)
   have hd4:d2.length≤4096:=(blkOk_iff.1 hok).2.2.2.2
   have hcc:0≤cc∧cc≤2:=(blkOk_iff.1 hok).2.2.2.1
   have hlen:(blkW ⟨t,nn,f,cc,d2⟩).length≤140737488355328:=by unfold blkW;rw [List.length_append,sumB_len];have:=body_len ⟨t,nn,f,cc,d2⟩;have:=sumN_le cc;simp only at *;omega
   have hsle:sumN cc≤(blkW ⟨t,nn,f,cc,d2⟩).length:=by unfold blkW;rw [List.length_append,sumB_len];exact Nat.le_add_left _ _
   have CW:=hid (fun W (hW:Below w3.heap.size w3 W)=>bwrite_any ⟨t,nn,f,cc,d2⟩ A2 nd2 cd2 w3.heap.size W hok HBD.out.1 hW.size (hr3.below hW))
   have CS:=hid (fun W=>sumsize_any cc W)
   have HDC:=hid (decB_cmp HD.out (by rw [HT.out];exact hok))
   rw [HT.out] at HDC
   have hbL:∀ k,k=(blkW ⟨t,nn,f,cc,d2⟩).length→(blkW ⟨t,nn,f,cc,d2⟩).length=k:=fun k h=>h.symm
   obtain ⟨NB0,hNB⟩:∃ k,(blkW ⟨t,nn,f,cc,d2⟩).length=k:=⟨_,rfl⟩
   have HBL:=hid hNB
   rw [hNB] at hlen hsle
   clear hr3 hd4 hcc hb hb5 hb6 hbL
   by_cases hz:cmpB (l.take M) (blkW ⟨t,nn,f,cc,d2⟩) (sumN cc)=0
   ·
    have HDD:Hid (decB l=(⟨t,nn,f,cc,d2⟩,(M:Int),0)):=by show _=_;rw [HDC.out,if_neg (by rw [hz];simp)]
    clear HDC
    have C8:=hid (fun (A':Option Addr) (c':Nat) (W:World) (hr1:Rd W W.heap.size D1 M (l.take M)) (hr2:Rd W W.heap.size A' NB0 (blkW ⟨t,nn,f,cc,d2⟩)) (hc':NB0≤c')=>compare_ok D1 A' M d1 NB0 c' (sumN cc) (l.take M) (blkW ⟨t,nn,f,cc,d2⟩) W hr1 HR1.out.2.1 hr2 hc' hsle (Nat.le_trans HR1.out.2.2 HH.out.2.1) hlen hz)
    clear hz hsle hlen hok hNB
    go_wp2_with fail
    go_region_held3 (fun W=>W.cell? ⟨w2.heap.size,0,none⟩=some (.int .u64 (t:Int))∧W.cell? ⟨w2.heap.size,1,none⟩=some (.int .u64 (nn:Int))∧W.cell? ⟨w2.heap.size,2,none⟩=some (.int .u64 (f:Int))∧W.cell? ⟨w2.heap.size,3,none⟩=some (.int .i64 cc)∧W.cell? ⟨w2.heap.size,4,none⟩=some (.slice A2 nd2 cd2))
     (first|(with_reducible exact ⟨x80,x81,x82,x83,x84⟩)|(with_reducible exact ⟨x70,x71,x72,x73,x74⟩)|(with_reducible exact ⟨x60,x61,x62,x63,x64⟩)|(with_reducible exact ⟨gd0,gd1,gd2,gd3,gd4⟩)|fail)
     (first
      | (go_at_call 127;refine (C8.out _ _ _ (R7.out.more nlr) S7.out HC4.out).mono ?_;rintro e w8 ⟨rfl,hb8⟩;have hb8':=B7.out.trans (hb8.mono B7.out.size);have x80:=(hb8'.cell (p:=⟨w2.heap.size,0,none⟩) hlt3).trans g0;have x81:=(hb8'.cell (p:=⟨w2.heap.size,1,none⟩) hlt3).trans g1;have x82:=(hb8'.cell (p:=⟨w2.heap.size,2,none⟩) hlt3).trans g2;have x83:=(hb8'.cell (p:=⟨w2.heap.size,3,none⟩) hlt3).trans g3;have x84:=(hb8'.cell (p:=⟨w2.heap.size,4,none⟩) hlt3).trans g4;have B8:=hid hb8';clear hb8 hb8')
      | (go_at_call 129;refine (CS.out _).mono ?_;rintro e w7 ⟨rfl,hb7⟩;have hb7':=B6.out.trans (hb7.mono B6.out.size);have x70:=(hb7'.cell (p:=⟨w2.heap.size,0,none⟩) hlt3).trans g0;have x71:=(hb7'.cell (p:=⟨w2.heap.size,1,none⟩) hlt3).trans g1;have x72:=(hb7'.cell (p:=⟨w2.heap.size,2,none⟩) hlt3).trans g2;have x73:=(hb7'.cell (p:=⟨w2.heap.size,3,none⟩) hlt3).trans g3;have x74:=(hb7'.cell (p:=⟨w2.heap.size,4,none⟩) hlt3).trans g4;have B7:=hid hb7';have R7:=hid ((R3.out _ hb7'));have S7:=hid ((S6.out.below hb7).more hb7.size);clear hb7 hb7')
      | (go_at_call 128;refine (CW.out _ (Below.drew_)).mono ?_;rintro e w6 ⟨v6,rfl,ho6,hb6⟩;have hb6':Below w3.heap.size w3 w6:=Below.drew_.trans hb6;have x60:=(hb6'.cell (p:=⟨w2.heap.size,0,none⟩) hlt3).trans g0;have x61:=(hb6'.cell (p:=⟨w2.heap.size,1,none⟩) hlt3).trans g1;have x62:=(hb6'.cell (p:=⟨w2.heap.size,2,none⟩) hlt3).trans g2;have x63:=(hb6'.cell (p:=⟨w2.heap.size,3,none⟩) hlt3).trans g3;have x64:=(hb6'.cell (p:=⟨w2.heap.size,4,none⟩) hlt3).trans g4;obtain ⟨A4,c4,rfl,hc4,-,hr4⟩:=ho6.rd;rw [HBL.out] at hr4 hc4 ⊢;have B6:=hid hb6';have S6:=hid hr4;have HC4:=hid hc4;clear hb6 hb6' ho6 hr4 hc4)
      | fail)
    have hbE:=B5.out.trans (B8.out.mono HW3.out)
    obtain ⟨⟨z0,z1,z2,z3,z4⟩,f0,f1,f2,f3,f4⟩:=HZ.out _ hbE
    have BE:=hid hbE
    have RE:=hid ((HR3.out.below B8.out).more B8.out.size)
    clear hbE
    unfold bfl at *
    go_wp2_with fail
    refine bodyPost_ret (v:=.tuple #[blkV t nn f cc A2 nd2 cd2,.int .i64 (M:Int),.nilIface]) (by simp [results,Tryz.results76,go_sem,z0,z1,z2,z3,z4,blkV]) rfl ⟨below_put5 (HB0.out.trans (BE.out.mono (Nat.le_succ _))) nlr,.inl ⟨⟨t,nn,f,cc,d2⟩,A2,nd2,cd2,(M:Int),rfl,HDD.out,HBD.out.1,HBD.out.2,?_,fun hn b o e=>Nat.le_of_succ_le (HFR.out hn b o e)⟩⟩
    exact Rd.put5 RE.out (by simp [World.setCell]) (RE.out.off5 (HZB.out _ BE.out))
   ·
    have HDD:Hid (decB l=(.zero,0,cmpB (l.take M) (blkW ⟨t,nn,f,cc,d2⟩) (sumN cc))):=by show _=_;rw [HDC.out,if_pos hz]
    clear HDC
    have C8:=hid (fun (A':Option Addr) (c':Nat) (W:World) (hr1:Rd W W.heap.size D1 M (l.take M)) (hr2:Rd W W.heap.size A' NB0 (blkW ⟨t,nn,f,cc,d2⟩)) (hc':NB0≤c')=>compare_no D1 A' M d1 NB0 c' (sumN cc) (l.take M) (blkW ⟨t,nn,f,cc,d2⟩) W hr1 HR1.out.2.1 hr2 hc' hsle (Nat.le_trans HR1.out.2.2 HH.out.2.1) hlen hz)
    have HZC:=hid hz
    generalize hZC:cmpB (l.take M) (blkW ⟨t,nn,f,cc,d2⟩) (sumN cc)=ZC at *
    clear hz hZC hsle hlen hok hNB
    go_wp2_with fail
    go_region_held3 (fun W=>W.cell? ⟨w2.heap.size,0,none⟩=some (.int .u64 (t:Int))∧W.cell? ⟨w2.heap.size,1,none⟩=some (.int .u64 (nn:Int))∧W.cell? ⟨w2.heap.size,2,none⟩=some (.int .u64 (f:Int))∧W.cell? ⟨w2.heap.size,3,none⟩=some (.int .i64 cc)∧W.cell? ⟨w2.heap.size,4,none⟩=some (.slice A2 nd2 cd2))
     (first|(with_reducible exact ⟨x80,x81,x82,x83,x84⟩)|(with_reducible exact ⟨x70,x71,x72,x73,x74⟩)|(with_reducible exact ⟨x60,x61,x62,x63,x64⟩)|(with_reducible exact ⟨gd0,gd1,gd2,gd3,gd4⟩)|fail)
     (first
      | (go_at_call 127;refine (C8.out _ _ _ (R7.out.more nlr) S7.out HC4.out).mono ?_;rintro e w8 ⟨q8,rfl,hb8⟩;have hb8':=B7.out.trans (hb8.mono B7.out.size);have x80:=(hb8'.cell (p:=⟨w2.heap.size,0,none⟩) hlt3).trans g0;have x81:=(hb8'.cell (p:=⟨w2.heap.size,1,none⟩) hlt3).trans g1;have x82:=(hb8'.cell (p:=⟨w2.heap.size,2,none⟩) hlt3).trans g2;have x83:=(hb8'.cell (p:=⟨w2.heap.size,3,none⟩) hlt3).trans g3;have x84:=(hb8'.cell (p:=⟨w2.heap.size,4,none⟩) hlt3).trans g4;have B8:=hid hb8';clear hb8 hb8')
      | (go_at_call 129;refine (CS.out _).mono ?_;rintro e w7 ⟨rfl,hb7⟩;have hb7':=B6.out.trans (hb7.mono B6.out.size);have x70:=(hb7'.cell (p:=⟨w2.heap.size,0,none⟩) hlt3).trans g0;have x71:=(hb7'.cell (p:=⟨w2.heap.size,1,none⟩) hlt3).trans g1;have x72:=(hb7'.cell (p:=⟨w2.heap.size,2,none⟩) hlt3).trans g2;have x73:=(hb7'.cell (p:=⟨w2.heap.size,3,none⟩) hlt3).trans g3;have x74:=(hb7'.cell (p:=⟨w2.heap.size,4,none⟩) hlt3).trans g4;have B7:=hid hb7';have R7:=hid ((R3.out _ hb7'));have S7:=hid ((S6.out.below hb7).more hb7.size);clear hb7 hb7')
      | (go_at_call 128;refine (CW.out _ (Below.drew_)).mono ?_;rintro e w6 ⟨v6,rfl,ho6,hb6⟩;have hb6':Below w3.heap.size w3 w6:=Below.drew_.trans hb6;have x60:=(hb6'.cell (p:=⟨w2.heap.size,0,none⟩) hlt3).trans g0;have x61:=(hb6'.cell (p:=⟨w2.heap.size,1,none⟩) hlt3).trans g1;have x62:=(hb6'.cell (p:=⟨w2.heap.size,2,none⟩) hlt3).trans g2;have x63:=(hb6'.cell (p:=⟨w2.heap.size,3,none⟩) hlt3).trans g3;have x64:=(hb6'.cell (p:=⟨w2.heap.size,4,none⟩) hlt3).trans g4;obtain ⟨A4,c4,rfl,hc4,-,hr4⟩:=ho6.rd;rw [HBL.out] at hr4 hc4 ⊢;have B6:=hid hb6';have S6:=hid hr4;have HC4:=hid hc4;clear hb6 hb6' ho6 hr4 hc4)
      | fail)
    have hbE:=B5.out.trans (B8.out.mono HW3.out)
    obtain ⟨⟨z0,z1,z2,z3,z4⟩,f0,f1,f2,f3,f4⟩:=HZ.out _ hbE
    have BE:=hid hbE
    have RE:=hid ((HR3.out.below B8.out).more B8.out.size)
    clear hbE
    unfold bfl at *
    go_wp2_with fail
    refine bodyPost_ret (v:=.tuple #[blkV 0 0 0 0 none 0 0,.int .i64 0,bfl ZC q8]) (by simp [results,Tryz.results76,go_sem,z0,z1,z2,z3,z4,blkV,bfl]) rfl ⟨below_put5 (HB0.out.trans (BE.out.mono (Nat.le_succ _))) nlr,.inr ⟨ZC,q8,HZC.out,HDD.out,rfl⟩⟩
  ·
   have hb5:=B4.out.trans (hb.mono (by have:=HW1.out;have:=HW2.out;simp;omega))
   obtain ⟨⟨z0,z1,z2,z3,z4⟩,f0,f1,f2,f3,f4⟩:=HZ.out _ hb5
   have B5:=hid hb5
   have HDD:=hid (decB_not HD.out (by rw [HT.out];exact hok))
   clear hb hb5 hok
   unfold bfl at *
   go_wp2_with fail
   refine bodyPost_ret (v:=.tuple #[blkV 0 0 0 0 none 0 0,.int .i64 0,bfl 50 s]) (by simp [results,Tryz.results76,go_sem,z0,z1,z2,z3,z4,blkV,bfl]) rfl ⟨below_put5 (HB0.out.trans (B5.out.mono (Nat.le_succ _))) nlr,.inr ⟨50,s,by decide,HDD.out,rfl⟩⟩
def DecS (l:List UInt8) (w:World) (e:Ending) (w':World):Prop:=Below w.heap.size w w' ∧
 ∃ (b:Blk) (A:Option Addr) (nd cd:Nat) (N z:Int),e=.returned (.tuple #[blkV b.typ b.num b.flg b.crc A nd cd,.int .i64 N,.int .i64 z])∧decB l=(b,N,z)∧Bd b∧(nd≤cd∧nd≤140737488355328)∧Rd w' w'.heap.size A nd b.dat∧(0<nd→∀ b o,A=some ⟨b,o,none⟩→w.heap.size≤b)
theorem bdecodeS_any (A:Option Addr) (n c B:Nat) (l:List UInt8) (w:World) (hB:B≤w.heap.size) (h:Rd w B A n l) (hn:n≤140737488355328) (hc:n≤c) (hL:LaidE w) :
  Calls Tryz.prog 29 #[.slice A n c] w (DecS l w):=by
 have HB0:=hid ((Below.refl w.heap.size w).alloc nlr (.cells #[.int .u64 0,.int .u64 0,.int .u64 0,.int .i64 0,.slice none 0 0] 48))
 have HLT:=hid hL.lt
 have HL:=hid hL
 have C1:=hid (breadS_any A n c B l (w.alloc (.cells #[.int .u64 0,.int .u64 0,.int .u64 0,.int .i64 0,.slice none 0 0] 48)) (Nat.le_trans hB (le_alloc _ _)) (h.alloc hB _) hn hc (hL.below HB0.out hL.lt))
 have HZ:=hid (fun (W:World) (hb:Below (w.heap.size+1) (w.alloc (.cells #[.int .u64 0,.int .u64 0,.int .u64 0,.int .i64 0,.slice none 0 0] 48)) W)=>zero5 (g:=w.heap.size) rfl hb)
 have HZB:Hid (∀ (W:World) (_:Below (w.heap.size+1) (w.alloc (.cells #[.int .u64 0,.int .u64 0,.int .u64 0,.int .i64 0,.slice none 0 0] 48)) W),W.heap[w.heap.size]?=some (.cells #[.int .u64 0,.int .u64 0,.int .u64 0,.int .i64 0,.slice none 0 0] 48 (0,0))):=fun W hb=>by
  rw [hb.block w.heap.size (Nat.lt_succ_self _)];exact heap_alloc_new w _
 have hs0:(w.alloc (.cells #[.int .u64 0,.int .u64 0,.int .u64 0,.int .i64 0,.slice none 0 0] 48)).heap.size=w.heap.size+1:=by simp
 clear h hB hn hc hL
 go_enter Tryz.func29,Tryz.ntmps29
 go_wp2_with fail
 refine C1.out.mono ?_
 rintro e w1 ⟨hb1,⟨b,A1,nd,cd,N,rfl,hd,hbd,hnd,hr,hfr⟩|⟨z,s,hz,hd,rfl⟩⟩
 ·
  rw [hs0] at hb1
  have hw1:w.heap.size+1≤w1.heap.size:=by have:=hb1.size;rw [hs0] at this;exact this
  have HNE:Hid (¬ w.heap.size=w1.heap.size):=fun h=>by omega
  have hb2:=hb1.alloc hw1 (.cells #[.int .u64 (b.typ:Int),.int .u64 (b.num:Int),.int .u64 (b.flg:Int),.int .i64 b.crc,.slice A1 nd cd] 48)
  have hlt1:w1.heap.size<(w1.alloc (.cells #[.int .u64 (b.typ:Int),.int .u64 (b.num:Int),.int .u64 (b.flg:Int),.int .i64 b.crc,.slice A1 nd cd] 48)).heap.size:=by simp
  obtain ⟨g0,g1,g2,g3,g4⟩:=box5 rfl (Below.refl (w1.heap.size+1) (w1.alloc (.cells #[.int .u64 (b.typ:Int),.int .u64 (b.num:Int),.int .u64 (b.flg:Int),.int .i64 b.crc,.slice A1 nd cd] 48)))
  have gd0:=drew_cell g0
  have gd1:=drew_cell g1
  have gd2:=drew_cell g2
  have gd3:=drew_cell g3
  have gd4:=drew_cell g4
  have B2:=hid hb2
  have hs2:(w1.alloc (.cells #[.int .u64 (b.typ:Int),.int .u64 (b.num:Int),.int .u64 (b.flg:Int),.int .i64 b.crc,.slice A1 nd cd] 48)).heap.size=w1.heap.size+1:=by simp
  have HS2:=hid hs2
  have HW1:=hid hw1
  have HFR:Hid (0<nd→∀ b o,A1=some ⟨b,o,none⟩→w.heap.size≤b):=fun hn b o e=>Nat.le_of_succ_le (by have:=hfr hn b o e;rw [hs0] at this;exact this)
  clear hfr
  have HD:=hid hd
  have HLL:=hid (HL.out.below (HB0.out.trans (hb2.mono (Nat.le_succ _))) HLT.out)
  have HR1:=hid (And.intro hbd (And.intro hnd hr))
  have CN:Hid (∀ W,Below (w1.alloc (.cells #[.int .u64 (b.typ:Int),.int .u64 (b.num:Int),.int .u64 (b.flg:Int),.int .i64 b.crc,.slice A1 nd cd] 48)).heap.size (w1.alloc (.cells #[.int .u64 (b.typ:Int),.int .u64 (b.num:Int),.int .u64 (b.flg:Int),.int .i64 b.crc,.slice A1 nd cd] 48)) W→Calls Tryz.prog 77 #[.nilIface] W fun e w'=>e=.returned (.int .i64 0)∧Below W.heap.size W w'):=fun W _=>bnumber_nil W
  have HR2:Hid (Rd (w1.alloc (.cells #[.int .u64 (b.typ:Int),.int .u64 (b.num:Int),.int .u64 (b.flg:Int),.int .i64 b.crc,.slice A1 nd cd] 48)) w1.heap.size A1 nd b.dat):=hr.alloc nlr _
  clear hbd hnd hr
  clear hb1 hb2 hw1 hs2 hd
  unfold blkV at *
  go_wp2_with fail
  generalize (w1.alloc (.cells #[.int .u64 (b.typ:Int),.int .u64 (b.num:Int),.int .u64 (b.flg:Int),.int .i64 b.crc,.slice A1 nd cd] 48))=W2 at *
  go_region_held3 (fun W=>W.cell? ⟨w1.heap.size,0,none⟩=some (.int .u64 (b.typ:Int))∧W.cell? ⟨w1.heap.size,1,none⟩=some (.int .u64 (b.num:Int))∧W.cell? ⟨w1.heap.size,2,none⟩=some (.int .u64 (b.flg:Int))∧W.cell? ⟨w1.heap.size,3,none⟩=some (.int .i64 b.crc)∧W.cell? ⟨w1.heap.size,4,none⟩=some (.slice A1 nd cd))
   (first|(with_reducible exact ⟨put5_cell x30 HNE.out,put5_cell x31 HNE.out,put5_cell x32 HNE.out,put5_cell x33 HNE.out,put5_cell x34 HNE.out⟩)|(with_reducible exact ⟨x30,x31,x32,x33,x34⟩)|(with_reducible exact ⟨gd0,gd1,gd2,gd3,gd4⟩)|fail)
   (first
    | (go_at_call 77;refine (CN.out _ (Below.drew_)).mono ?_;rintro e w3 ⟨rfl,hb3⟩;have hb3':Below W2.heap.size W2 w3:=Below.drew_.trans hb3;have x30:=(hb3'.cell (p:=⟨w1.heap.size,0,none⟩) hlt1).trans g0;have x31:=(hb3'.cell (p:=⟨w1.heap.size,1,none⟩) hlt1).trans g1;have x32:=(hb3'.cell (p:=⟨w1.heap.size,2,none⟩) hlt1).trans g2;have x33:=(hb3'.cell (p:=⟨w1.heap.size,3,none⟩) hlt1).trans g3;have x34:=(hb3'.cell (p:=⟨w1.heap.size,4,none⟩) hlt1).trans g4;have hbE:=B2.out.trans (hb3'.mono (by have:=HS2.out;have:=HW1.out;omega));obtain ⟨⟨z0,z1,z2,z3,z4⟩,f0,f1,f2,f3,f4⟩:=HZ.out _ hbE;have BE:=hid hbE;have B3:=hid hb3';clear hb3 hb3' hbE)
    | fail)
  go_wp2_with fail
  have RE:=HR2.out.below (B3.out.mono (by have:=HS2.out;omega))
  refine bodyPost_ret (v:=.tuple #[blkV b.typ b.num b.flg b.crc A1 nd cd,.int .i64 N,.int .i64 0]) (by simp [results,Tryz.results29,go_sem,z0,z1,z2,z3,z4,blkV]) rfl ⟨below_put5 (HB0.out.trans (BE.out.mono (Nat.le_succ _))) nlr,b,A1,nd,cd,N,0,rfl,HD.out,HR1.out.1,HR1.out.2.1,?_,HFR.out⟩
  exact Rd.put5 RE (by have:=B3.out.size;have:=HS2.out;simp [World.setCell];omega) (RE.off5 (HZB.out _ BE.out))
 ·
  rw [hs0] at hb1
  have hw1:w.heap.size+1≤w1.heap.size:=by have:=hb1.size;rw [hs0] at this;exact this
  have HNE:Hid (¬ w.heap.size=w1.heap.size):=fun h=>by omega
  have hb2:=hb1.alloc hw1 (.cells #[.int .u64 0,.int .u64 0,.int .u64 0,.int .i64 0,.slice none 0 0] 48)
  have hlt1:w1.heap.size<(w1.alloc (.cells #[.int .u64 0,.int .u64 0,.int .u64 0,.int .i64 0,.slice none 0 0] 48)).heap.size:=by simp
  obtain ⟨g0,g1,g2,g3,g4⟩:=box5 rfl (Below.refl (w1.heap.size+1) (w1.alloc (.cells #[.int .u64 0,.int .u64 0,.int .u64 0,.int .i64 0,.slice none 0 0] 48)))
  have gd0:=drew_cell g0
  have gd1:=drew_cell g1
  have gd2:=drew_cell g2
  have gd3:=drew_cell g3
  have gd4:=drew_cell g4
  have B2:=hid hb2
  have hs2:(w1.alloc (.cells #[.int .u64 0,.int .u64 0,.int .u64 0,.int .i64 0,.slice none 0 0] 48)).heap.size=w1.heap.size+1:=by simp
  have HS2:=hid hs2
  have HW1:=hid hw1
  have HD:=hid hd
  have HLL:=hid (HL.out.below (HB0.out.trans (hb2.mono (Nat.le_succ _))) HLT.out)
  have CN:Hid (∀ W,Below (w1.alloc (.cells #[.int .u64 0,.int .u64 0,.int .u64 0,.int .i64 0,.slice none 0 0] 48)).heap.size (w1.alloc (.cells #[.int .u64 0,.int .u64 0,.int .u64 0,.int .i64 0,.slice none 0 0] 48)) W→Calls Tryz.prog 77 #[bfl z s] W fun e w'=>e=.returned (.int .i64 z)∧Below W.heap.size W w'):=fun W hW=>bnumber_any z s W (HLL.out.below hW HLL.out.lt)
  clear hb1 hb2 hw1 hs2 hd
  unfold blkV bfl at *
  go_wp2_with fail
  generalize (w1.alloc (.cells #[.int .u64 0,.int .u64 0,.int .u64 0,.int .i64 0,.slice none 0 0] 48))=W2 at *
  go_region_held3 (fun W=>W.cell? ⟨w1.heap.size,0,none⟩=some (.int .u64 0)∧W.cell? ⟨w1.heap.size,1,none⟩=some (.int .u64 0)∧W.cell? ⟨w1.heap.size,2,none⟩=some (.int .u64 0)∧W.cell? ⟨w1.heap.size,3,none⟩=some (.int .i64 0)∧W.cell? ⟨w1.heap.size,4,none⟩=some (.slice none 0 0))
   (first|(with_reducible exact ⟨put5_cell x30 HNE.out,put5_cell x31 HNE.out,put5_cell x32 HNE.out,put5_cell x33 HNE.out,put5_cell x34 HNE.out⟩)|(with_reducible exact ⟨x30,x31,x32,x33,x34⟩)|(with_reducible exact ⟨gd0,gd1,gd2,gd3,gd4⟩)|fail)
   (first
    | (go_at_call 77;refine (CN.out _ (Below.drew_)).mono ?_;rintro e w3 ⟨rfl,hb3⟩;have hb3':Below W2.heap.size W2 w3:=Below.drew_.trans hb3;have x30:=(hb3'.cell (p:=⟨w1.heap.size,0,none⟩) hlt1).trans g0;have x31:=(hb3'.cell (p:=⟨w1.heap.size,1,none⟩) hlt1).trans g1;have x32:=(hb3'.cell (p:=⟨w1.heap.size,2,none⟩) hlt1).trans g2;have x33:=(hb3'.cell (p:=⟨w1.heap.size,3,none⟩) hlt1).trans g3;have x34:=(hb3'.cell (p:=⟨w1.heap.size,4,none⟩) hlt1).trans g4;have hbE:=B2.out.trans (hb3'.mono (by have:=HS2.out;have:=HW1.out;omega));obtain ⟨⟨z0,z1,z2,z3,z4⟩,f0,f1,f2,f3,f4⟩:=HZ.out _ hbE;have BE:=hid hbE;have B3:=hid hb3';clear hb3 hb3' hbE)
    | fail)
  go_wp2_with fail
  refine bodyPost_ret (v:=.tuple #[blkV 0 0 0 0 none 0 0,.int .i64 0,.int .i64 z]) (by simp [results,Tryz.results29,go_sem,z0,z1,z2,z3,z4,blkV]) rfl ⟨below_put5 (HB0.out.trans (BE.out.mono (Nat.le_succ _))) nlr,Blk.zero,none,0,0,0,z,rfl,HD.out,⟨by decide,by decide,by decide⟩,⟨Nat.le_refl _,by decide⟩,Rd.nil_,fun h=>absurd h (Nat.lt_irrefl 0)⟩
end Go.Proofs.YtlecbblmaadpiaaGreatDoor
