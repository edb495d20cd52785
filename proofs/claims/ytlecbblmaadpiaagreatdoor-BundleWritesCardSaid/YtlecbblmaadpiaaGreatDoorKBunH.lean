import Derived.Test.YtlecbblmaadpiaaGreatDoorKRfC
import Derived.Deep.RegionHeld3
import Derived.StillTailTactics
import Derived.BigQuiet
import Derived.BigRegion
import Derived.Deep.QuietTactic
namespace Go.Proofs.YtlecbblmaadpiaaGreatDoor
set_option maxRecDepth 100000
set_option maxHeartbeats 16000000
open Go.RowKit
open Go.Lib (hid)
def TakU (ls:List Itm) (w:World) (e:Ending) (w':World):Prop:=Below w.heap.size w w' ∧
 ((∃ h:BH,e=.returned (.tuple #[bunV h none 0 0,.nilIface])∧h.Bd∧Wr (h.bun [])∧∀ (b:Bun) (s:List UInt8),Wr b→ls=(itmP b s).list→primW (h.bun [])=primW b∧h.bun []={ b with blks:=[] }) ∨
  ((∀ (b:Bun) (s:List UInt8),Wr b→ls=(itmP b s).list→False)∧∃ z s,z≠0∧e=.returned (.tuple #[.agg #[.int .u64 0,.int .i64 0,.int .i64 0,.string ⟨#[]⟩,.int .u64 0,.int .u64 0,.int .i64 0,.string ⟨#[]⟩,.int .u64 0,.int .u64 0,.int .i64 0,.string ⟨#[]⟩,.int .u64 0,.int .u64 0,.int .u64 0,.int .u64 0,.int .u64 0,.slice none 0 0],ufl z s])))
def FromZ (x:Itm) (w:World) (e:Ending) (w':World):Prop:=Below w.heap.size w w'∧∃ (sc:Int) (s:ByteArray) (n v:Nat) (z:Int),e=.returned (.tuple #[epdV sc s n v,.int .i64 z])∧s.size≤140737488355328∧n<18446744073709551616∧v<18446744073709551616 ∧
 ((z=0∧checkB (ep sc s n v)=true∧itemE (ep sc s n v)=x)∨(z=40∧∀ e0,checkB e0=true→itemE e0≠x))
theorem fromz_any (A:Snt) (x:Itm) (v0:Value) (B:Nat) (w:World) (hA:Lds A w) (hB:B≤w.heap.size) (h:RdI w B v0 x) :
  Calls Tryz.prog 27 #[v0] w (FromZ x w) :=
 (from_any A x v0 B w hA hB h).mono fun e w' ⟨hb,hh⟩=>⟨hb,by
  rcases hh with ⟨sc,s,n,v,he,h1,h2,h3,h4,h5⟩|⟨h1,he⟩
  ·
   exact ⟨sc,s,n,v,0,he,h1,h2,h3,.inl ⟨rfl,h4,h5⟩⟩
  ·
   exact ⟨0,⟨#[]⟩,0,0,40,he,by decide,by decide,by decide,.inr ⟨rfl,h1⟩⟩⟩
theorem itmP_list (b:Bun) (s:List UInt8):(itmP b s).list=partsP b++if b.crc=0 then [] else [.mk 2 0 s []]:=rfl
theorem itmP_nine {x0 x1 x2 x3 x4 x5 x6 x7:Itm} {rest:List Itm} {b:Bun} {s:List UInt8} (h:x0::x1::x2::x3::x4::x5::x6::x7::rest=(itmP b s).list) :
  x1=.mk 0 b.flg [] []∧x2=.mk 0 b.crc.toNat [] []∧x3=itemE b.dst∧x4=itemE b.src∧x5=itemE b.rep∧x6=.mk 4 0 [] [.mk 0 b.tim [] [],.mk 0 b.seq [] []]∧x7=.mk 0 b.lif [] []:=by
 rw [itmP_list] at h
 unfold partsP at h
 simp only [List.cons_append,List.cons.injEq] at h
 exact ⟨h.2.1,h.2.2.1,h.2.2.2.1,h.2.2.2.2.1,h.2.2.2.2.2.1,h.2.2.2.2.2.2.1,h.2.2.2.2.2.2.2.1⟩
theorem utaken_any (S:Snt) (b o n c B:Nat) (ls:List Itm) (w:World) (hS:Wd S w) (hB:B≤w.heap.size) (hb:b<B) (h:RdIs w B b o ls) (hn:ls.length=n) (h8:8≤n) (_hc:n≤c) :
  Calls Tryz.prog 209 #[.slice (some ⟨b,o,none⟩) n c] w (TakU ls w):=by
 obtain ⟨x0,x1,x2,x3,x4,x5,x6,x7,rest,rfl⟩:∃ x0 x1 x2 x3 x4 x5 x6 x7 rest,ls=x0::x1::x2::x3::x4::x5::x6::x7::rest:=by
  match ls,(show 8≤ls.length by omega) with
  | x0::x1::x2::x3::x4::x5::x6::x7::rest,_=>exact ⟨_,_,_,_,_,_,_,_,_,rfl⟩
  | [],hh=>simp at hh
  | [_],hh=>simp at hh
  | [_,_],hh=>simp at hh
  | [_,_,_],hh=>simp at hh
  | [_,_,_,_],hh=>simp at hh
  | [_,_,_,_,_],hh=>simp at hh
  | [_,_,_,_,_,_],hh=>simp at hh
  | [_,_,_,_,_,_,_],hh=>simp at hh
 have hlt:b<w.heap.size:=Nat.lt_of_lt_of_le hb hB
 have hlt1:(1:Int)<(n:Int):=by omega
 have hlt2:(2:Int)<(n:Int):=by omega
 have hlt3:(3:Int)<(n:Int):=by omega
 have hlt4:(4:Int)<(n:Int):=by omega
 have hlt5:(5:Int)<(n:Int):=by omega
 have hlt6:(6:Int)<(n:Int):=by omega
 have hlt7:(7:Int)<(n:Int):=by omega
 obtain ⟨LS,hLS⟩:∃ LS,LS=x0::x1::x2::x3::x4::x5::x6::x7::rest:=⟨_,rfl⟩
 rw [← hLS]
 have HI:=hid (fun (bb:Bun) (s:List UInt8) (hh:LS=(itmP bb s).list)=>itmP_nine (hLS.symm.trans hh))
 clear hLS hn
 rw [RdIs,RdIs,RdIs,RdIs,RdIs,RdIs,RdIs,RdIs] at h
 obtain ⟨-,⟨p10,p11,p12,p13,g10,g11,g12,g13,X1⟩,⟨p20,p21,p22,p23,g20,g21,g22,g23,X2⟩,⟨p30,p31,p32,p33,g30,g31,g32,g33,X3⟩,⟨p40,p41,p42,p43,g40,g41,g42,g43,X4⟩,⟨p50,p51,p52,p53,g50,g51,g52,g53,X5⟩,⟨p60,p61,p62,p63,g60,g61,g62,g63,X6⟩,⟨p70,p71,p72,p73,g70,g71,g72,g73,X7⟩,-⟩:=h
 obtain ⟨k1,m1,d1,l1⟩:=x1
 have HX1:=hid X1
 obtain ⟨A1,nd1,cd1,AL1,cl1,e1,-,hm1,-,-,hl1,hrow1⟩:=X1.open
 injection e1 with e1
 simp only [Array.mk.injEq,List.cons.injEq,and_true] at e1
 obtain ⟨rfl,rfl,rfl,rfl⟩:=e1
 clear X1
 obtain ⟨k2,m2,d2,l2⟩:=x2
 have HX2:=hid X2
 obtain ⟨A2,nd2,cd2,AL2,cl2,e2,-,hm2,-,-,hl2,hrow2⟩:=X2.open
 injection e2 with e2
 simp only [Array.mk.injEq,List.cons.injEq,and_true] at e2
 obtain ⟨rfl,rfl,rfl,rfl⟩:=e2
 clear X2
 obtain ⟨k3,m3,d3,l3⟩:=x3
 have HX3:=hid X3
 obtain ⟨A3,nd3,cd3,AL3,cl3,e3,-,hm3,-,-,hl3,hrow3⟩:=X3.open
 injection e3 with e3
 simp only [Array.mk.injEq,List.cons.injEq,and_true] at e3
 obtain ⟨rfl,rfl,rfl,rfl⟩:=e3
 clear X3
 obtain ⟨k4,m4,d4,l4⟩:=x4
 have HX4:=hid X4
 obtain ⟨A4,nd4,cd4,AL4,cl4,e4,-,hm4,-,-,hl4,hrow4⟩:=X4.open
 injection e4 with e4
 simp only [Array.mk.injEq,List.cons.injEq,and_true] at e4
 obtain ⟨rfl,rfl,rfl,rfl⟩:=e4
 clear X4
 obtain ⟨k5,m5,d5,l5⟩:=x5
 have HX5:=hid X5
 obtain ⟨A5,nd5,cd5,AL5,cl5,e5,-,hm5,-,-,hl5,hrow5⟩:=X5.open
 injection e5 with e5
 simp only [Array.mk.injEq,List.cons.injEq,and_true] at e5
 obtain ⟨rfl,rfl,rfl,rfl⟩:=e5
 clear X5
 obtain ⟨k6,m6,d6,l6⟩:=x6
 have HX6:=hid X6
 obtain ⟨A6,nd6,cd6,AL6,cl6,e6,-,hm6,-,-,hl6,hrow6⟩:=X6.open
 injection e6 with e6
 simp only [Array.mk.injEq,List.cons.injEq,and_true] at e6
 obtain ⟨rfl,rfl,rfl,rfl⟩:=e6
 clear X6
 obtain ⟨k7,m7,d7,l7⟩:=x7
 have HX7:=hid X7
 obtain ⟨A7,nd7,cd7,AL7,cl7,e7,-,hm7,-,-,hl7,hrow7⟩:=X7.open
 injection e7 with e7
 simp only [Array.mk.injEq,List.cons.injEq,and_true] at e7
 obtain ⟨rfl,rfl,rfl,rfl⟩:=e7
 clear X7
 have HG:Hid (∀ W,Below w.heap.size w W→W.cell? ⟨b,o+4+1,none⟩=some (.int .u64 (m1:Int))∧W.cell? ⟨b,o+8+1,none⟩=some (.int .u64 (m2:Int))∧W.cell? ⟨b,o+12,none⟩=some (.int .i64 k3)∧W.cell? ⟨b,o+12+1,none⟩=some (.int .u64 (m3:Int))∧W.cell? ⟨b,o+12+2,none⟩=some (.slice A3 nd3 cd3)∧W.cell? ⟨b,o+12+3,none⟩=some (.slice AL3 l3.length cl3)∧W.cell? ⟨b,o+16,none⟩=some (.int .i64 k4)∧W.cell? ⟨b,o+16+1,none⟩=some (.int .u64 (m4:Int))∧W.cell? ⟨b,o+16+2,none⟩=some (.slice A4 nd4 cd4)∧W.cell? ⟨b,o+16+3,none⟩=some (.slice AL4 l4.length cl4)∧W.cell? ⟨b,o+20,none⟩=some (.int .i64 k5)∧W.cell? ⟨b,o+20+1,none⟩=some (.int .u64 (m5:Int))∧W.cell? ⟨b,o+20+2,none⟩=some (.slice A5 nd5 cd5)∧W.cell? ⟨b,o+20+3,none⟩=some (.slice AL5 l5.length cl5)∧W.cell? ⟨b,o+24+3,none⟩=some (.slice AL6 l6.length cl6)∧W.cell? ⟨b,o+28+1,none⟩=some (.int .u64 (m7:Int))):=fun W hw=>⟨(hw.cell hlt).trans g11,(hw.cell hlt).trans g21,(hw.cell hlt).trans g30,(hw.cell hlt).trans g31,(hw.cell hlt).trans g32,(hw.cell hlt).trans g33,(hw.cell hlt).trans g40,(hw.cell hlt).trans g41,(hw.cell hlt).trans g42,(hw.cell hlt).trans g43,(hw.cell hlt).trans g50,(hw.cell hlt).trans g51,(hw.cell hlt).trans g52,(hw.cell hlt).trans g53,(hw.cell hlt).trans g63,(hw.cell hlt).trans g71⟩
 clear g10 g11 g12 g13 g20 g21 g22 g23 g30 g31 g32 g33 g40 g41 g42 g43 g50 g51 g52 g53 g60 g61 g62 g63 g70 g71 g72 g73 hl1 hrow1 hl2 hrow2 hl3 hrow3 hl4 hrow4 hl5 hrow5 hl7 hrow7
 have HB0:Hid (Below w.heap.size w (w.alloc (.cells #[.int .u64 0,.int .i64 0,.int .i64 0,.string ⟨#[]⟩,.int .u64 0,.int .u64 0,.int .i64 0,.string ⟨#[]⟩,.int .u64 0,.int .u64 0,.int .i64 0,.string ⟨#[]⟩,.int .u64 0,.int .u64 0,.int .u64 0,.int .u64 0,.int .u64 0,.slice none 0 0] 73))):=(Below.refl _ _).alloc nlr _
 have HF:=hid (fun (W:World) (hw:Below (w.heap.size+1) (w.alloc (.cells #[.int .u64 0,.int .i64 0,.int .i64 0,.string ⟨#[]⟩,.int .u64 0,.int .u64 0,.int .i64 0,.string ⟨#[]⟩,.int .u64 0,.int .u64 0,.int .i64 0,.string ⟨#[]⟩,.int .u64 0,.int .u64 0,.int .u64 0,.int .u64 0,.int .u64 0,.slice none 0 0] 73)) W)=>zero18 rfl hw)
 have HZ:=hid (fun (W:World) (hw:Below (w.heap.size+1) (w.alloc (.cells #[.int .u64 0,.int .i64 0,.int .i64 0,.string ⟨#[]⟩,.int .u64 0,.int .u64 0,.int .i64 0,.string ⟨#[]⟩,.int .u64 0,.int .u64 0,.int .i64 0,.string ⟨#[]⟩,.int .u64 0,.int .u64 0,.int .u64 0,.int .u64 0,.int .u64 0,.slice none 0 0] 73)) W)=>box18 rfl hw)
 have HZB:Hid (∀ W,Below (w.heap.size+1) (w.alloc (.cells #[.int .u64 0,.int .i64 0,.int .i64 0,.string ⟨#[]⟩,.int .u64 0,.int .u64 0,.int .i64 0,.string ⟨#[]⟩,.int .u64 0,.int .u64 0,.int .i64 0,.string ⟨#[]⟩,.int .u64 0,.int .u64 0,.int .u64 0,.int .u64 0,.int .u64 0,.slice none 0 0] 73)) W→W.heap[w.heap.size]?=some (.cells #[.int .u64 0,.int .i64 0,.int .i64 0,.string ⟨#[]⟩,.int .u64 0,.int .u64 0,.int .i64 0,.string ⟨#[]⟩,.int .u64 0,.int .u64 0,.int .i64 0,.string ⟨#[]⟩,.int .u64 0,.int .u64 0,.int .u64 0,.int .u64 0,.int .u64 0,.slice none 0 0] 73 (0,0))):=fun W hw=>by
  rw [hw.block w.heap.size (Nat.lt_succ_self _)];exact heap_alloc_new w _
 have HL:=hid (hS.lds.alloc (.cells #[.int .u64 0,.int .i64 0,.int .i64 0,.string ⟨#[]⟩,.int .u64 0,.int .u64 0,.int .i64 0,.string ⟨#[]⟩,.int .u64 0,.int .u64 0,.int .i64 0,.string ⟨#[]⟩,.int .u64 0,.int .u64 0,.int .u64 0,.int .u64 0,.int .u64 0,.slice none 0 0] 73))
 have hs0:(w.alloc (.cells #[.int .u64 0,.int .i64 0,.int .i64 0,.string ⟨#[]⟩,.int .u64 0,.int .u64 0,.int .i64 0,.string ⟨#[]⟩,.int .u64 0,.int .u64 0,.int .i64 0,.string ⟨#[]⟩,.int .u64 0,.int .u64 0,.int .u64 0,.int .u64 0,.int .u64 0,.slice none 0 0] 73)).heap.size=w.heap.size+1:=by simp
 have HS0:=hid hs0
 have CN:=hid unone_any
 obtain ⟨g11,g21,g30,g31,g32,g33,g40,g41,g42,g43,g50,g51,g52,g53,g63,g71⟩:=HG.out _ HB0.out
 have HBW:=hid hB
 clear hS hB hb h8 _hc hs0
 go_enter Tryz.func209,Tryz.ntmps209
 go_wp2_with fail
 go_quiet (fail)
 have HQ0:Hid (Below (w.heap.size+1) (w.alloc (.cells #[.int .u64 0,.int .i64 0,.int .i64 0,.string ⟨#[]⟩,.int .u64 0,.int .u64 0,.int .i64 0,.string ⟨#[]⟩,.int .u64 0,.int .u64 0,.int .i64 0,.string ⟨#[]⟩,.int .u64 0,.int .u64 0,.int .u64 0,.int .u64 0,.int .u64 0,.slice none 0 0] 73)) ((w.alloc (.cells #[.int .u64 0,.int .i64 0,.int .i64 0,.string ⟨#[]⟩,.int .u64 0,.int .u64 0,.int .i64 0,.string ⟨#[]⟩,.int .u64 0,.int .u64 0,.int .i64 0,.string ⟨#[]⟩,.int .u64 0,.int .u64 0,.int .u64 0,.int .u64 0,.int .u64 0,.slice none 0 0] 73)).drewN nq)):=drewN_below nq
 have HB1:Hid (Below w.heap.size w ((w.alloc (.cells #[.int .u64 0,.int .i64 0,.int .i64 0,.string ⟨#[]⟩,.int .u64 0,.int .u64 0,.int .i64 0,.string ⟨#[]⟩,.int .u64 0,.int .u64 0,.int .i64 0,.string ⟨#[]⟩,.int .u64 0,.int .u64 0,.int .u64 0,.int .u64 0,.int .u64 0,.slice none 0 0] 73)).drewN nq)):=HB0.out.trans (drewN_below nq)
 have HL1:Hid (Lds S ((w.alloc (.cells #[.int .u64 0,.int .i64 0,.int .i64 0,.string ⟨#[]⟩,.int .u64 0,.int .u64 0,.int .i64 0,.string ⟨#[]⟩,.int .u64 0,.int .u64 0,.int .i64 0,.string ⟨#[]⟩,.int .u64 0,.int .u64 0,.int .u64 0,.int .u64 0,.int .u64 0,.slice none 0 0] 73)).drewN nq)):=HL.out.below (drewN_below (B:=(w.alloc (.cells #[.int .u64 0,.int .i64 0,.int .i64 0,.string ⟨#[]⟩,.int .u64 0,.int .u64 0,.int .i64 0,.string ⟨#[]⟩,.int .u64 0,.int .u64 0,.int .i64 0,.string ⟨#[]⟩,.int .u64 0,.int .u64 0,.int .u64 0,.int .u64 0,.int .u64 0,.slice none 0 0] 73)).heap.size) nq) nlr
 have hs1:w.heap.size+1≤((w.alloc (.cells #[.int .u64 0,.int .i64 0,.int .i64 0,.string ⟨#[]⟩,.int .u64 0,.int .u64 0,.int .i64 0,.string ⟨#[]⟩,.int .u64 0,.int .u64 0,.int .i64 0,.string ⟨#[]⟩,.int .u64 0,.int .u64 0,.int .u64 0,.int .u64 0,.int .u64 0,.slice none 0 0] 73)).drewN nq).heap.size:=by have:=(drewN_below (B:=0) (w:=w.alloc (.cells #[.int .u64 0,.int .i64 0,.int .i64 0,.string ⟨#[]⟩,.int .u64 0,.int .u64 0,.int .i64 0,.string ⟨#[]⟩,.int .u64 0,.int .u64 0,.int .i64 0,.string ⟨#[]⟩,.int .u64 0,.int .u64 0,.int .u64 0,.int .u64 0,.int .u64 0,.slice none 0 0] 73)) nq).size;have:=HS0.out;omega
 clear g11 g21 g30 g31 g32 g33 g40 g41 g42 g43 g50 g51 g52 g53 g63 g71
 obtain ⟨g11,g21,g30,g31,g32,g33,g40,g41,g42,g43,g50,g51,g52,g53,g63,g71⟩:=HG.out _ HB1.out
 generalize (w.alloc (.cells #[.int .u64 0,.int .i64 0,.int .i64 0,.string ⟨#[]⟩,.int .u64 0,.int .u64 0,.int .i64 0,.string ⟨#[]⟩,.int .u64 0,.int .u64 0,.int .i64 0,.string ⟨#[]⟩,.int .u64 0,.int .u64 0,.int .u64 0,.int .u64 0,.int .u64 0,.slice none 0 0] 73)).drewN nq=V0 at *
 have HS1:=hid hs1
 clear hs1
 by_cases hk:2<m2
 ·
  have t1:decide ((2:Int)<(m2:Int))=true:=decide_eq_true (by omega)
  have HNO:Hid (∀ (bb:Bun) (s:List UInt8),Wr bb→LS=(itmP bb s).list→False):=fun bb s hw hh=>by
   obtain ⟨-,h2,-⟩:=HI.out bb s hh
   injection h2 with _ h2
   have:=hw.1
   omega
  clear g11 g21 g30 g31 g32 g33 g40 g41 g42 g43 g50 g51 g52 g53 g63 g71
  go_wp2_with (first
   | (go_at_call 142;refine (CN.out _ _).mono ?_;rintro e w1 ⟨rfl,rfl⟩)
   | (refine wpList_st18 rfl 73 (.tmp 2) (.tmp 22) rfl _ rfl rfl _ _ (HZB.out _ HQ0.out) info_bun rfl rfl ?_;intro W' hrow' ⟨r0,r1,r2,r3,r4,r5,r6,r7,r8,r9,r10,r11,r12,r13,r14,r15,r16,r17⟩ hoth hbel hsz;have HWB:=hid (hbel _ _ HB1.out nlr);clear hoth hbel hsz)
   | fail)
  exact bodyPost_ret (res_bt Tryz.results209 _ _ rfl hrow' rfl) rfl ⟨HWB.out,.inr ⟨HNO.out,60,_,by decide,rfl⟩⟩
 have t1:decide ((2:Int)<(m2:Int))=false:=decide_eq_false (by omega)
 by_cases h2:l6.length=2
 case neg =>
  have t2:((l6.length:Int)==2)=false:=by simp;omega
  have t3:((l6.length:Int) != 2)=true:=by simp;omega
  have HNO:Hid (∀ (bb:Bun) (s:List UInt8),Wr bb→LS=(itmP bb s).list→False):=fun bb s hw hh=>by
   obtain ⟨-,-,-,-,-,h6,-⟩:=HI.out bb s hh
   injection h6 with _ _ _ h6
   rw [h6] at h2
   exact h2 rfl
  clear g11 g21 g30 g31 g32 g33 g40 g41 g42 g43 g50 g51 g52 g53 g63 g71
  go_wp2_with (first
   | (go_at_call 142;refine (CN.out _ _).mono ?_;rintro e w1 ⟨rfl,rfl⟩)
   | (refine wpList_st18 rfl 73 (.tmp 2) (.tmp 27) rfl _ rfl rfl _ _ (HZB.out _ HQ0.out) info_bun rfl rfl ?_;intro W' hrow' ⟨r0,r1,r2,r3,r4,r5,r6,r7,r8,r9,r10,r11,r12,r13,r14,r15,r16,r17⟩ hoth hbel hsz;have HWB:=hid (hbel _ _ HB1.out nlr);clear hoth hbel hsz)
   | fail)
  exact bodyPost_ret (res_bt Tryz.results209 _ _ rfl hrow' rfl) rfl ⟨HWB.out,.inr ⟨HNO.out,60,_,by decide,rfl⟩⟩
 obtain ⟨y0,y1,rfl⟩:∃ y0 y1,l6=[y0,y1]:=by
  match l6,h2 with
  | [y0,y1],_=>exact ⟨y0,y1,rfl⟩
 obtain ⟨b6,o6,rfl,hb6,hs6⟩:=hrow6 (by simp)
 have t2:((([y0,y1]:List Itm).length:Int)==2)=true:=rfl
 have hlt6':b6<w.heap.size:=Nat.lt_of_lt_of_le hb6 HBW.out
 rw [RdIs,RdIs] at hs6
 obtain ⟨⟨a0,a1,a2,a3,-,u1,-,-,Y0⟩,⟨c0,c1,c2,c3,-,v1,-,-,Y1⟩,-⟩:=hs6
 obtain ⟨ka,ma,da,la⟩:=y0
 obtain ⟨kb,mb,db,lb⟩:=y1
 obtain ⟨Aa,nda,cda,ALa,cla,ea,-,hma,-⟩:=Y0.open
 obtain ⟨Ab,ndb,cdb,ALb,clb,eb,-,hmb,-⟩:=Y1.open
 injection ea with ea
 simp only [Array.mk.injEq,List.cons.injEq,and_true] at ea
 obtain ⟨rfl,rfl,rfl,rfl⟩:=ea
 injection eb with eb
 simp only [Array.mk.injEq,List.cons.injEq,and_true] at eb
 obtain ⟨rfl,rfl,rfl,rfl⟩:=eb
 have HU:Hid (∀ W,Below w.heap.size w W→W.cell? ⟨b6,o6+1,none⟩=some (.int .u64 (ma:Int))∧W.cell? ⟨b6,o6+4+1,none⟩=some (.int .u64 (mb:Int))):=fun W hw=>⟨(hw.cell hlt6').trans u1,(hw.cell hlt6').trans v1⟩
 have HM:=hid (And.intro hma (And.intro hmb (And.intro hm1 hm7)))
 have hwr:IntKind.i64.wrap (m2:Int)=(m2:Int):=by rcases (show m2=0∨m2=1∨m2=2 by omega) with rfl|rfl|rfl <;> rfl
 have HK:=hid hk
 have l2:((([Itm.mk ka ma da la,Itm.mk kb mb db lb]:List Itm).length:Nat):Int)=2:=rfl
 rw [show ([Itm.mk ka ma da la,Itm.mk kb mb db lb]:List Itm).length=2 from rfl] at *
 clear u1 v1 Y0 Y1 hb6 hlt6' hma hmb hk h2 hrow6 l2
 have C1:=hid (fromz_any S _ _ B V0 HL1.out (Nat.le_trans HBW.out HB1.out.size) (HX3.out.below (HB1.out.mono HBW.out)))
 go_wp2_with fail
 refine C1.out.mono ?_
 rintro e w1 ⟨hb1,sc1,s1,q1,r1,z1,rfl,hs1,hq1,hr1,hz1⟩
 unfold epdV
 have HH1:=hid (And.intro hs1 (And.intro hq1 (And.intro hr1 hz1)))
 have hal1:=hb1.alloc hb1.size (.cells #[.int .i64 sc1,.string s1,.int .u64 (q1:Int),.int .u64 (r1:Int)] 25)
 have HB2:=hid (Below.push HB1.out nlr hal1)
 have HQ1:=hid (Below.push HQ0.out (Nat.le_of_eq HS0.out.symm) hal1)
 have HL2:=hid (HL1.out.below hal1 nlr)
 have HE1:=hid (fun (W:World) (hw:Below (w1.alloc (.cells #[.int .i64 sc1,.string s1,.int .u64 (q1:Int),.int .u64 (r1:Int)] 25)).heap.size (w1.alloc (.cells #[.int .i64 sc1,.string s1,.int .u64 (q1:Int),.int .u64 (r1:Int)] 25)) W)=>box_cells4 hw)
 have HD1:=hid hal1
 clear g11 g21 g30 g31 g32 g33 g40 g41 g42 g43 g50 g51 g52 g53 g63 g71 hb1 hs1 hq1 hr1 hz1 hal1
 obtain ⟨g11,g21,g30,g31,g32,g33,g40,g41,g42,g43,g50,g51,g52,g53,g63,g71⟩:=HG.out _ HB2.out
 have C2:=hid (fromz_any S _ _ B (w1.alloc (.cells #[.int .i64 sc1,.string s1,.int .u64 (q1:Int),.int .u64 (r1:Int)] 25)) HL2.out (Nat.le_trans HBW.out HB2.out.size) (HX4.out.below (HB2.out.mono HBW.out)))
 go_wp2_with fail
 refine C2.out.mono ?_
 rintro e w2 ⟨hb2,sc2,s2,q2,r2,z2,rfl,hs2,hq2,hr2,hz2⟩
 unfold epdV
 have HH2:=hid (And.intro hs2 (And.intro hq2 (And.intro hr2 hz2)))
 have hal2:=hb2.alloc hb2.size (.cells #[.int .i64 sc2,.string s2,.int .u64 (q2:Int),.int .u64 (r2:Int)] 25)
 have HB3:=hid (Below.push HB2.out nlr hal2)
 have HQ2:=hid (Below.push HQ1.out (Nat.le_of_eq HS0.out.symm) hal2)
 have HL3:=hid (HL2.out.below hal2 nlr)
 have HE2:=hid (fun (W:World) (hw:Below (w2.alloc (.cells #[.int .i64 sc2,.string s2,.int .u64 (q2:Int),.int .u64 (r2:Int)] 25)).heap.size (w2.alloc (.cells #[.int .i64 sc2,.string s2,.int .u64 (q2:Int),.int .u64 (r2:Int)] 25)) W)=>box_cells4 hw)
 have HD2:=hid hal2
 clear g11 g21 g30 g31 g32 g33 g40 g41 g42 g43 g50 g51 g52 g53 g63 g71 hb2 hs2 hq2 hr2 hz2 hal2
 obtain ⟨g11,g21,g30,g31,g32,g33,g40,g41,g42,g43,g50,g51,g52,g53,g63,g71⟩:=HG.out _ HB3.out
 have C3:=hid (fromz_any S _ _ B (w2.alloc (.cells #[.int .i64 sc2,.string s2,.int .u64 (q2:Int),.int .u64 (r2:Int)] 25)) HL3.out (Nat.le_trans HBW.out HB3.out.size) (HX5.out.below (HB3.out.mono HBW.out)))
 go_wp2_with fail
 refine C3.out.mono ?_
 rintro e w3 ⟨hb3,sc3,s3,q3,r3,z3,rfl,hs3,hq3,hr3,hz3⟩
 unfold epdV
 have HH3:=hid (And.intro hs3 (And.intro hq3 (And.intro hr3 hz3)))
 have hal3:=hb3.alloc hb3.size (.cells #[.int .i64 sc3,.string s3,.int .u64 (q3:Int),.int .u64 (r3:Int)] 25)
 have HB4:=hid (Below.push HB3.out nlr hal3)
 have HQ3:=hid (Below.push HQ2.out (Nat.le_of_eq HS0.out.symm) hal3)
 have HL4:=hid (HL3.out.below hal3 nlr)
 have HE3:=hid (fun (W:World) (hw:Below (w3.alloc (.cells #[.int .i64 sc3,.string s3,.int .u64 (q3:Int),.int .u64 (r3:Int)] 25)).heap.size (w3.alloc (.cells #[.int .i64 sc3,.string s3,.int .u64 (q3:Int),.int .u64 (r3:Int)] 25)) W)=>box_cells4 hw)
 have HD3:=hid hal3
 clear g11 g21 g30 g31 g32 g33 g40 g41 g42 g43 g50 g51 g52 g53 g63 g71 hb3 hs3 hq3 hr3 hz3 hal3
 obtain ⟨g11,g21,g30,g31,g32,g33,g40,g41,g42,g43,g50,g51,g52,g53,g63,g71⟩:=HG.out _ HB4.out
 have HW:Hid (∀ (bb:Bun) (s:List UInt8),Wr bb→LS=(itmP bb s).list→checkB bb.dst=true∧checkB bb.src=true∧checkB bb.rep=true∧Itm.mk k3 m3 d3 l3=itemE bb.dst∧Itm.mk k4 m4 d4 l4=itemE bb.src∧Itm.mk k5 m5 d5 l5=itemE bb.rep):=fun bb s hw hh=>by
  obtain ⟨-,-,h3,h4,h5,-,-⟩:=HI.out bb s hh
  exact ⟨hw.2.1,hw.2.2.1,hw.2.2.2,h3,h4,h5⟩
 rcases HH1.out.2.2.2 with ⟨rfl,K1⟩|⟨rfl,N1⟩
 rotate_left
 ·
  have HNO:Hid (∀ (bb:Bun) (s:List UInt8),Wr bb→LS=(itmP bb s).list→False):=fun bb s hw hh=>by
   obtain ⟨c1,c2,c3,i1,i2,i3⟩:=HW.out bb s hw hh
   exact N1 _ c1 i1.symm
  clear g11 g21 g30 g31 g32 g33 g40 g41 g42 g43 g50 g51 g52 g53 g63 g71
  go_wp2_with (first
   | (go_at_call 142;refine (CN.out _ _).mono ?_;rintro e w1 ⟨rfl,rfl⟩)
   | (refine wpList_st18 rfl 73 (.tmp 2) (.tmp 60) rfl _ rfl rfl _ _ (HZB.out _ HQ3.out) info_bun rfl rfl ?_;intro W' hrow' ⟨r0,r1,r2,r3,r4,r5,r6,r7,r8,r9,r10,r11,r12,r13,r14,r15,r16,r17⟩ hoth hbel hsz;have HWB:=hid (hbel _ _ HB4.out nlr);clear hoth hbel hsz)
   | fail)
  exact bodyPost_ret (res_bt Tryz.results209 _ _ rfl hrow' rfl) rfl ⟨HWB.out,.inr ⟨HNO.out,60,_,by decide,rfl⟩⟩
 rcases HH2.out.2.2.2 with ⟨rfl,K2⟩|⟨rfl,N2⟩
 rotate_left
 ·
  have HNO:Hid (∀ (bb:Bun) (s:List UInt8),Wr bb→LS=(itmP bb s).list→False):=fun bb s hw hh=>by
   obtain ⟨c1,c2,c3,i1,i2,i3⟩:=HW.out bb s hw hh
   exact N2 _ c2 i2.symm
  clear g11 g21 g30 g31 g32 g33 g40 g41 g42 g43 g50 g51 g52 g53 g63 g71
  go_wp2_with (first
   | (go_at_call 142;refine (CN.out _ _).mono ?_;rintro e w1 ⟨rfl,rfl⟩)
   | (refine wpList_st18 rfl 73 (.tmp 2) (.tmp 60) rfl _ rfl rfl _ _ (HZB.out _ HQ3.out) info_bun rfl rfl ?_;intro W' hrow' ⟨r0,r1,r2,r3,r4,r5,r6,r7,r8,r9,r10,r11,r12,r13,r14,r15,r16,r17⟩ hoth hbel hsz;have HWB:=hid (hbel _ _ HB4.out nlr);clear hoth hbel hsz)
   | fail)
  exact bodyPost_ret (res_bt Tryz.results209 _ _ rfl hrow' rfl) rfl ⟨HWB.out,.inr ⟨HNO.out,60,_,by decide,rfl⟩⟩
 rcases HH3.out.2.2.2 with ⟨rfl,K3⟩|⟨rfl,N3⟩
 rotate_left
 ·
  have HNO:Hid (∀ (bb:Bun) (s:List UInt8),Wr bb→LS=(itmP bb s).list→False):=fun bb s hw hh=>by
   obtain ⟨c1,c2,c3,i1,i2,i3⟩:=HW.out bb s hw hh
   exact N3 _ c3 i3.symm
  clear g11 g21 g30 g31 g32 g33 g40 g41 g42 g43 g50 g51 g52 g53 g63 g71
  go_wp2_with (first
   | (go_at_call 142;refine (CN.out _ _).mono ?_;rintro e w1 ⟨rfl,rfl⟩)
   | (refine wpList_st18 rfl 73 (.tmp 2) (.tmp 60) rfl _ rfl rfl _ _ (HZB.out _ HQ3.out) info_bun rfl rfl ?_;intro W' hrow' ⟨r0,r1,r2,r3,r4,r5,r6,r7,r8,r9,r10,r11,r12,r13,r14,r15,r16,r17⟩ hoth hbel hsz;have HWB:=hid (hbel _ _ HB4.out nlr);clear hoth hbel hsz)
   | fail)
  exact bodyPost_ret (res_bt Tryz.results209 _ _ rfl hrow' rfl) rfl ⟨HWB.out,.inr ⟨HNO.out,60,_,by decide,rfl⟩⟩
 have HKK:=hid (And.intro K1 (And.intro K2 K3))
 clear K1 K2 K3
 obtain ⟨u1,u2⟩:=HU.out _ HB4.out
 have hD3:=Below.push HD2.out nlr HD3.out
 obtain ⟨b10,b11,b12,b13⟩:=HE1.out _ hD3
 obtain ⟨b20,b21,b22,b23⟩:=HE2.out _ HD3.out
 obtain ⟨b30,b31,b32,b33⟩:=HE3.out _ (Below.refl _ _)
 clear hD3 t1 t2
 go_wp2_with fail
 generalize (w3.alloc (.cells #[.int .i64 sc3,.string s3,.int .u64 (q3:Int),.int .u64 (r3:Int)] 25))=V3 at *
 refine wp_region_still_tail 22 (by kernel_rfl) (by kernel_rfl) ?_
 simp only [List.take_succ_cons,List.take_zero,List.drop_succ_cons,List.drop_zero]
 repeat still_step
 refine wpStill_nil ?_
 have HWD:Hid (Below w.heap.size w V3.drew):=HB4.out.drew
 have HQD:Hid (Below (w.heap.size+1) (w.alloc (.cells #[.int .u64 0,.int .i64 0,.int .i64 0,.string ⟨#[]⟩,.int .u64 0,.int .u64 0,.int .i64 0,.string ⟨#[]⟩,.int .u64 0,.int .u64 0,.int .i64 0,.string ⟨#[]⟩,.int .u64 0,.int .u64 0,.int .u64 0,.int .u64 0,.int .u64 0,.slice none 0 0] 73)) V3.drew):=HQ3.out.drew
 change wpList _ _ _ _ _ V3.drew
 generalize V3.drew=V4 at *
 clear g11 g21 g30 g31 g32 g33 g40 g41 g42 g43 g50 g51 g52 g53 g63 g71 u1 u2 b10 b11 b12 b13 b20 b21 b22 b23 b30 b31 b32 b33
 go_wp2_with (first
  | (refine wpList_st18 rfl 73 (.tmp 2) (.tmp 83) rfl _ rfl rfl _ _ (HZB.out _ HQD.out) info_bun rfl rfl ?_;intro W' hrow' _ hoth hbel hsz;have HWB:=hid (hbel _ _ HWD.out nlr);clear hoth hbel hsz)
  | fail)
 have hk2:m2≤2:=by have:=HK.out;omega
 refine bodyPost_ret (res_bt Tryz.results209 _ _ rfl hrow' rfl) rfl ⟨HWB.out,.inl ⟨⟨m1,m2,sc1,s1,q1,r1,sc2,s2,q2,r2,sc3,s3,q3,r3,ma,mb,m7⟩,rfl,⟨HM.out.2.2.1,HH1.out.1,HH1.out.2.1,HH1.out.2.2.1,HH2.out.1,HH2.out.2.1,HH2.out.2.2.1,HH3.out.1,HH3.out.2.1,HH3.out.2.2.1,HM.out.1,HM.out.2.1,HM.out.2.2.2⟩,⟨⟨by show (0:Int)≤(m2:Int);omega,by show (m2:Int)≤2;omega⟩,HKK.out.1.1,HKK.out.2.1.1,HKK.out.2.2.1⟩,fun bb s hw hh=>?_⟩⟩
 obtain ⟨h1,h2,h3,h4,h5,h6,h7⟩:=HI.out bb s hh
 injection h1 with _ h1
 injection h2 with _ h2
 injection h7 with _ h7
 injection h6 with _ _ _ h6
 simp only [List.cons.injEq,Itm.mk.injEq,and_true] at h6
 have i1:=item_inj HKK.out.1.1 hw.2.1 (HKK.out.1.2.trans h3)
 have i2:=item_inj HKK.out.2.1.1 hw.2.2.1 (HKK.out.2.1.2.trans h4)
 have i3:=item_inj HKK.out.2.2.1 hw.2.2.2 (HKK.out.2.2.2.trans h5)
 have hc:(m2:Int)=bb.crc:=by have:=hw.1;omega
 have e:(⟨m1,m2,sc1,s1,q1,r1,sc2,s2,q2,r2,sc3,s3,q3,r3,ma,mb,m7⟩:BH).bun []={ bb with blks:=[] }:=by
  obtain ⟨bf,bc,bd,bs,br,bt,bq,bl,bk⟩:=bb
  simp only at h1 hc i1 i2 i3 h6 h7
  subst h1 hc i1 i2 i3 h7
  obtain ⟨⟨-,rfl,-⟩,-,rfl,-⟩:=h6
  rfl
 exact ⟨by rw [e];rfl,e⟩
end Go.Proofs.YtlecbblmaadpiaaGreatDoor
