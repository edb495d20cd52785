import Derived.Test.YtbnfkjkoinbkgaaGreatDoorVAbb
import Derived.Test.YtbnfkjkoinbkgaaGreatDoorVBibC
import Derived.Test.YtbnfkjkoinbkgaaGreatDoorVCfBibTags
import Derived.Test.YtbnfkjkoinbkgaaGreatDoorVEidI3
import Derived.Test.YtbnfkjkoinbkgaaGreatDoorVIpC
namespace Go.Proofs.YtbnfkjkoinbkgaaGreatDoor
set_option maxRecDepth 100000
set_option maxHeartbeats 16000000
open Go.RowKit
open Go.Lib (hid)
theorem Qu8{A B:Type}{H G:A→B→Prop}{p:Prop}(main:(∀ a b,H a b→G a b)→p)(key:∀ a b,H a b→G a b):p:=main key
theorem Qon{A B C:Type}{H G:A→B→C→Prop}{p:Prop}(main:(∀ a b c,H a b c→G a b c)→p)(key:∀ a b c,H a b c→G a b c):p:=main key
theorem Qyh{A B C D:Type}{H G:A→B→C→D→Prop}{p:Prop}(main:(∀ a b c d,H a b c d→G a b c d)→p)(key:∀ a b c d,H a b c d→G a b c d):p:=main key
theorem Q4b{A B C D E:Type}{H G:A→B→C→D→E→Prop}{p:Prop}(main:(∀ a b c d e,H a b c d e→G a b c d e)→p)(key:∀ a b c d e,H a b c d e→G a b c d e):p:=main key
theorem Q3y{w:World}{v:Value}{x:Itm}{B:Nat}(h:RdI w B v x):RdI (Qap (Qax 0) w) B v x:=h.keep (fun _ _=>Qaq (Qaz.2 (Nat.zero_le _)))
theorem Qbn(W:World)(x y:Nat)(t:TypeId):RdN (W.alloc (.cells #[.int .u64 (x:Int),.int .u64 (y:Int)] t)) (W.alloc (.cells #[.int .u64 (x:Int),.int .u64 (y:Int)] t)).heap.size (some ⟨W.heap.size,0,none⟩) 2 [x,y] :=
  ⟨rfl,fun _=>⟨W.heap.size,0,rfl,by simp,fun i hi=>by
    rw[World.cell?_alloc_at _ _ _ _ rfl]
    match i,hi with
    | 0,_=>rfl
    | 1,_=>rfl⟩⟩
theorem Qsa(S:Snt)(x:Bb)(v:Value)(B:Nat)(w:World)(hS:Lds S w)(h:RdX w B v x)(hB:B≤w.heap.size)(hr:Rgt x) :
    Calls Tryz.prog 85 #[v] w fun e w'=>∃ g,e=.returned (.slice (some ⟨g,0,none⟩) 6 6)∧g<w'.heap.size∧RdIs w' w'.heap.size g 0 (Qd5 x)∧Below w.heap.size w w':=by
  obtain⟨A,n,c,sc,s,nd,sv,At,nt,ct,rfl,⟨hc,hn⟩,⟨hct,hnt⟩,hN,hsz,hTT,hsrc,hs,hnd,hsv⟩:=h;obtain⟨so,hso⟩:∃ so:Nat,x.sco=(so:Int):=⟨x.sco.toNat,by have:=hr.s0;omega⟩
  have HX:Hid (Qd5 x=[aI (x.tgs.map uI),uI 1,uI 1,Qal x.src,Qxs so,aI (x.tag.map Qe5)]):=by show _=_;unfold Qd5;rw[hso];rfl
  have hs7:so≤7:=by have:=hr.s7;omega
  have hws:=Qs4 so hs7;rw[hso,HX.out]
  have hB0:Below w.heap.size w (w.alloc (zo2 A n c sc s nd sv so At nt ct)):=zb;have HB0:=hid hB0;have HW0:Hid (Below (w.heap.size+1) (w.alloc (zo2 A n c sc s nd sv so At nt ct)) (w.alloc (zo2 A n c sc s nd sv so At nt ct))):=Below.refl _ _;have HS0:Hid ((w.alloc (zo2 A n c sc s nd sv so At nt ct)).heap.size=w.heap.size+1):=by show _=_;simp
  have HRW:=hid (fun (W:World) (hb:Below (w.heap.size+1) (w.alloc (zo2 A n c sc s nd sv so At nt ct)) W)=>Qad (w:=w) rfl hb);have hck:=hr.ck;rw[hsrc] at hck
  have CE:=hid (Qye S sc s nd sv (w.alloc (zo2 A n c sc s nd sv so At nt ct)) (hS.alloc _) hs hnd hsv);have HCK:=hid hck;have hl1:=hr.l1;have hl15:=hr.l15;have hln:=hN.1;have hlt:=hTT.len;have htl:=hr.tl;have CU:=hid (fun (W:World) (hb:Below w.heap.size w W)=>Qj9 A n c B x.tgs W (Nat.le_trans hB hb.size) (hN.below (hb.mono hB)) hsz (by omega) (by omega));have CT:=hid (fun (W:World) (hb:Below w.heap.size w W)=>Qmu At nt ct B x.tag W (Nat.le_trans hB hb.size) (hTT.below (hb.mono hB)) (fun t ht=>by rw[hr.t32 t ht];decide) (by omega) (by omega));have CP:=hid (fun (g p q:Nat) (hp:p<18446744073709551616) (hq:q<18446744073709551616) (W:World) (h:RdN W W.heap.size (some ⟨g,0,none⟩) 2 [p,q])=>Qj9 (some ⟨g,0,none⟩) 2 2 W.heap.size [p,q] W zr h (fun y hy=>by have hy2:y=p∨y=q:=(by simpa using hy);exact hy2.elim (fun e=>e▸hp) (fun e=>e▸hq)) (by decide) (by decide))
  have HSO:Hid (so<18446744073709551616):=by show _<_;omega
  obtain⟨X0,hX0⟩:∃ X,X=aI (x.tgs.map uI):=⟨_,rfl⟩
  rw[hsrc]
  obtain⟨X3,hX3⟩:∃ X,X=Qal (ep sc s nd sv):=⟨_,rfl⟩
  unfold Q48 at CE;obtain⟨X5,hX5⟩:∃ X,X=aI (x.tag.map Qe5):=⟨_,rfl⟩
  rw[← hX0] at CU
  rw[← hX3] at CE
  rw[← hX5] at CT
  rw[← hX0,← hX3,← hX5]
  clear hS hN hsz hTT hsrc hs hnd hsv hB hB0 hr hso hs7 hck hl1 hl15 hln hlt htl hX0 hX3 hX5 HX hct hnt hc hn;unfold Qlh Qbq at *;go_enter Tryz.func85,Tryz.ntmps85;obtain⟨g0,g1,g2,g3,g4,g5,g6⟩:=Q1k (HRW.out _ HW0.out);go_wp2_with fail;refine CE.out.mono ?_;rintro e w1 ⟨hb,⟨-,v3,rfl,hv⟩|⟨hno,-⟩⟩
  case inr=>exact absurd (HCK.out.symm.trans hno) (by decide)
  obtain⟨k3,n3,A3,nd3,cd3,AL3,nl3,cl3,rfl⟩:=hv.form;have B1:=hid (Below.push HW0.out (Nat.le_of_eq HS0.out.symm) hb);have L1:Hid (w.heap.size+1≤w1.heap.size):=by show _≤_;have:=B1.out.size;have:=HS0.out;omega
  have V3:=hid hv;clear hb hv g0 g1 g2 g3 g4 g5 g6;go_wp2_with (first
    | (refine Qbg rfl 119 (.tmp 3) (.tmp 9) rfl _ _ _ _ _ rfl rfl _ _ (heap_alloc_new w1 _) Qbf rfl rfl ?_;intro w2 hst;have B2:=hid (hst.2.1 _ _ (B1.out.alloc L1.out zk0) L1.out);have D2:=hid (hst.2.1 _ _ ((Below.refl w1.heap.size w1).alloc zr zk0) zr);have R2:=hid hst.1;clear hst)
    | fail)
  have QB:=hid (HRW.out _ B2.out);have SZ:Hid (w.heap.size<w2.heap.size):=Qaf QB.out;have SI:Hid (w1.heap.size<w2.heap.size):=Qaf R2.out;have T2:=hid (HB0.out.trans (B2.out.mono (Nat.le_succ _)));replace V3:=hid (Q3y ((V3.out.below D2.out).more D2.out.size));clear B1 B2 D2 L1 HRW HW0;generalize w1.heap.size=gi at *;try simp only[zs]
  refine wp_region_held_drew (S:=fun W=>Below w2.heap.size w2 W) (by kernel_rfl) (Below.refl _ _).drew (fun hHeld=>?_);have BT:Hid (Below w2.heap.size w2 w2.drew):=Below.drew_;refine Qao (i:=0) (v:=?v0_1) rfl (by kernel_rfl) (by kernel_rfl) (by kernel_rfl) (fun _ _ _ h=>h) (by rfl) ?hy0_1 (by assumption) ?rest0_1
  case hy0_1=>(intro W hSw;go_simp;try with_reducible rfl)
  try simp only[zs]
  refine Qao (i:=1) (v:=?v1_2) rfl (by kernel_rfl) (by kernel_rfl) (by kernel_rfl) (fun _ _ _ h=>h) (by rfl) ?hy1_2 (by assumption) ?rest1_2
  case hy1_2=>(intro W hSw;obtain⟨g0,g1,g2,g3,g4,g5,g6⟩:=Q1k (Qar QB.out hSw SZ.out);go_simp;try with_reducible rfl)
  try simp only[zs]
  refine Qao (i:=5) (v:=?v5_3) rfl (by kernel_rfl) (by kernel_rfl) (by kernel_rfl) (fun _ _ _ h=>h) (by rfl) ?hy5_3 (by assumption) ?rest5_3
  case hy5_3=>(intro W hSw;have y0:=Qab (Qar R2.out hSw SI.out) 0 rfl;have y1:=Qab (Qar R2.out hSw SI.out) 1 rfl;have y2:=Qab (Qar R2.out hSw SI.out) 2 rfl;have y3:=Qab (Qar R2.out hSw SI.out) 3 rfl;go_simp;try with_reducible rfl)
  try simp only[zs]
  refine Qao (i:=8) (v:=?v8_4) rfl (by kernel_rfl) (by kernel_rfl) (by kernel_rfl) (fun _ _ _ h=>h) (by rfl) ?hy8_4 (by assumption) ?rest8_4
  case hy8_4=>(intro W hSw;go_simp;try with_reducible rfl)
  try simp only[zs]
  refine Qao (i:=9) (v:=?v9_5) rfl (by kernel_rfl) (by kernel_rfl) (by kernel_rfl) (fun _ _ _ h=>h) (by rfl) ?hy9_5 (by assumption) ?rest9_5
  case hy9_5=>(intro W hSw;obtain⟨g0,g1,g2,g3,g4,g5,g6⟩:=Q1k (Qar QB.out hSw SZ.out);go_simp;try with_reducible rfl)
  try simp only[zs]
  refine Qao (i:=10) (v:=?v10_6) rfl (by kernel_rfl) (by kernel_rfl) (by kernel_rfl) (fun _ _ _ h=>h) (by rfl) ?hy10_6 (by assumption) ?rest10_6
  case hy10_6=>(intro W hSw;go_simp;try with_reducible rfl)
  try simp only[zs]
  refine Qao (i:=15) (v:=?v15_7) rfl (by kernel_rfl) (by kernel_rfl) (by kernel_rfl) (fun _ _ _ h=>h) (by rfl) ?hy15_7 (by assumption) ?rest15_7
  case hy15_7=>(intro W hSw;go_simp;try with_reducible rfl)
  try simp only[zs]
  refine Qao (i:=16) (v:=?v16_8) rfl (by kernel_rfl) (by kernel_rfl) (by kernel_rfl) (fun _ _ _ h=>h) (by rfl) ?hy16_8 (by assumption) ?rest16_8
  case hy16_8=>(intro W hSw;obtain⟨g0,g1,g2,g3,g4,g5,g6⟩:=Q1k (Qar QB.out hSw SZ.out);go_simp;try with_reducible rfl)
  try simp only[zs]
  obtain⟨wc,hwc⟩:∃ wc,wc=w2.drew:=⟨_,rfl⟩
  rw[← hwc] at BT
  rw[← hwc]
  replace V3:Hid (RdI (Qap (Qax 0) wc) wc.heap.size (zv6 k3 n3 A3 nd3 cd3 AL3 nl3 cl3) X3):=by rw[hwc];exact Qah V3.out Below.drew_
  clear hwc hHeld;apply Q4b (H:=fun (v2:Value) (g6:Nat) (g11:Nat) (v7:Value) (wc:World)=>Hid (Below w2.heap.size w2 wc)∧Hid (RdI (Qap (Qax 0) wc) wc.heap.size (zv6 k3 n3 A3 nd3 cd3 AL3 nl3 cl3) X3)∧Hid (RdI (Qap (Qax 0) wc) wc.heap.size v2 X0)∧Hid (RdI (Qap (Qax 0) wc) wc.heap.size v7 (aI [uI 1,uI 5]))∧Hid (RdN wc wc.heap.size (some ⟨g11,0,none⟩) 2 [3,so]))
  case main =>
   intro key2_3_4_6_7_11;apply Qyh (H:=fun (v2:Value) (g6:Nat) (v7:Value) (wc:World)=>Hid (Below w2.heap.size w2 wc)∧Hid (RdI (Qap (Qax 0) wc) wc.heap.size (zv6 k3 n3 A3 nd3 cd3 AL3 nl3 cl3) X3)∧Hid (RdI (Qap (Qax 0) wc) wc.heap.size v2 X0)∧Hid (RdI (Qap (Qax 0) wc) wc.heap.size v7 (aI [uI 1,uI 5])))
   case main =>
    intro key2_3_4_6_7;apply Qyh (H:=fun (v2:Value) (g6:Nat) (g11:Nat) (wc:World)=>Hid (Below w2.heap.size w2 wc)∧Hid (RdI (Qap (Qax 0) wc) wc.heap.size (zv6 k3 n3 A3 nd3 cd3 AL3 nl3 cl3) X3)∧Hid (RdI (Qap (Qax 0) wc) wc.heap.size v2 X0)∧Hid (RdN wc wc.heap.size (some ⟨g6,0,none⟩) 2 [1,5])∧Hid (RdN wc wc.heap.size (some ⟨g11,0,none⟩) 2 [3,so]))
    case main =>
     intro key2_3_4_6_11;apply Qon (H:=fun (v2:Value) (g6:Nat) (wc:World)=>Hid (Below w2.heap.size w2 wc)∧Hid (RdI (Qap (Qax 0) wc) wc.heap.size (zv6 k3 n3 A3 nd3 cd3 AL3 nl3 cl3) X3)∧Hid (RdI (Qap (Qax 0) wc) wc.heap.size v2 X0)∧Hid (RdN wc wc.heap.size (some ⟨g6,0,none⟩) 2 [1,5]))
     case main =>
      intro key2_3_4_6;apply Qon (H:=fun (v2:Value) (g11:Nat) (wc:World)=>Hid (Below w2.heap.size w2 wc)∧Hid (RdI (Qap (Qax 0) wc) wc.heap.size (zv6 k3 n3 A3 nd3 cd3 AL3 nl3 cl3) X3)∧Hid (RdI (Qap (Qax 0) wc) wc.heap.size v2 X0)∧Hid (RdN wc wc.heap.size (some ⟨g11,0,none⟩) 2 [3,so]))
      case main =>
       intro key2_3_4_11;apply Qu8 (H:=fun (v2:Value) (wc:World)=>Hid (Below w2.heap.size w2 wc)∧Hid (RdI (Qap (Qax 0) wc) wc.heap.size (zv6 k3 n3 A3 nd3 cd3 AL3 nl3 cl3) X3)∧Hid (RdI (Qap (Qax 0) wc) wc.heap.size v2 X0))
       case main =>
        intro key2_3_4;apply Qyh (H:=fun (v2:Value) (g6:Nat) (g11:Nat) (wc:World)=>Hid (Below w2.heap.size w2 wc)∧Hid (RdI (Qap (Qax 0) wc) wc.heap.size (zv6 k3 n3 A3 nd3 cd3 AL3 nl3 cl3) X3)∧Hid (RdI (Qap (Qax 0) wc) wc.heap.size v2 X0)∧Hid (RdN wc wc.heap.size (some ⟨g6,0,none⟩) 2 [1,5])∧Hid (RdN wc wc.heap.size (some ⟨g11,0,none⟩) 2 [3,so]))
        case main =>
         intro key2_3_6_11;apply Qon (H:=fun (v2:Value) (g6:Nat) (wc:World)=>Hid (Below w2.heap.size w2 wc)∧Hid (RdI (Qap (Qax 0) wc) wc.heap.size (zv6 k3 n3 A3 nd3 cd3 AL3 nl3 cl3) X3)∧Hid (RdI (Qap (Qax 0) wc) wc.heap.size v2 X0)∧Hid (RdN wc wc.heap.size (some ⟨g6,0,none⟩) 2 [1,5]))
         case main =>
          intro key2_3_6;apply Qon (H:=fun (v2:Value) (g11:Nat) (wc:World)=>Hid (Below w2.heap.size w2 wc)∧Hid (RdI (Qap (Qax 0) wc) wc.heap.size (zv6 k3 n3 A3 nd3 cd3 AL3 nl3 cl3) X3)∧Hid (RdI (Qap (Qax 0) wc) wc.heap.size v2 X0)∧Hid (RdN wc wc.heap.size (some ⟨g11,0,none⟩) 2 [3,so]))
          case main =>
           intro key2_3_11;apply Qu8 (H:=fun (v2:Value) (wc:World)=>Hid (Below w2.heap.size w2 wc)∧Hid (RdI (Qap (Qax 0) wc) wc.heap.size (zv6 k3 n3 A3 nd3 cd3 AL3 nl3 cl3) X3)∧Hid (RdI (Qap (Qax 0) wc) wc.heap.size v2 X0))
           case main =>
            intro key2_3;apply Qyh (H:=fun (v2:Value) (g6:Nat) (g11:Nat) (wc:World)=>Hid (Below w2.heap.size w2 wc)∧Hid (RdI (Qap (Qax 0) wc) wc.heap.size (zv6 k3 n3 A3 nd3 cd3 AL3 nl3 cl3) X3)∧Hid (RdI (Qap (Qax 0) wc) wc.heap.size v2 X0)∧Hid (RdN wc wc.heap.size (some ⟨g6,0,none⟩) 2 [1,5])∧Hid (RdN wc wc.heap.size (some ⟨g11,0,none⟩) 2 [3,so]))
            case main =>
             intro key2_6_11;apply Qon (H:=fun (v2:Value) (g6:Nat) (wc:World)=>Hid (Below w2.heap.size w2 wc)∧Hid (RdI (Qap (Qax 0) wc) wc.heap.size (zv6 k3 n3 A3 nd3 cd3 AL3 nl3 cl3) X3)∧Hid (RdI (Qap (Qax 0) wc) wc.heap.size v2 X0)∧Hid (RdN wc wc.heap.size (some ⟨g6,0,none⟩) 2 [1,5]))
             case main =>
              intro key2_6;apply Qon (H:=fun (v2:Value) (g11:Nat) (wc:World)=>Hid (Below w2.heap.size w2 wc)∧Hid (RdI (Qap (Qax 0) wc) wc.heap.size (zv6 k3 n3 A3 nd3 cd3 AL3 nl3 cl3) X3)∧Hid (RdI (Qap (Qax 0) wc) wc.heap.size v2 X0)∧Hid (RdN wc wc.heap.size (some ⟨g11,0,none⟩) 2 [3,so]))
              case main =>
               intro key2_11;apply Qu8 (H:=fun (v2:Value) (wc:World)=>Hid (Below w2.heap.size w2 wc)∧Hid (RdI (Qap (Qax 0) wc) wc.heap.size (zv6 k3 n3 A3 nd3 cd3 AL3 nl3 cl3) X3)∧Hid (RdI (Qap (Qax 0) wc) wc.heap.size v2 X0))
               case main =>
                intro key2;apply Qon (H:=fun (g6:Nat) (g11:Nat) (wc:World)=>Hid (Below w2.heap.size w2 wc)∧Hid (RdI (Qap (Qax 0) wc) wc.heap.size (zv6 k3 n3 A3 nd3 cd3 AL3 nl3 cl3) X3)∧Hid (RdN wc wc.heap.size (some ⟨g6,0,none⟩) 2 [1,5])∧Hid (RdN wc wc.heap.size (some ⟨g11,0,none⟩) 2 [3,so]))
                case main =>
                 intro key6_11;apply Qu8 (H:=fun (g6:Nat) (wc:World)=>Hid (Below w2.heap.size w2 wc)∧Hid (RdI (Qap (Qax 0) wc) wc.heap.size (zv6 k3 n3 A3 nd3 cd3 AL3 nl3 cl3) X3)∧Hid (RdN wc wc.heap.size (some ⟨g6,0,none⟩) 2 [1,5]))
                 case main =>
                  intro key6;apply Qu8 (H:=fun (g11:Nat) (wc:World)=>Hid (Below w2.heap.size w2 wc)∧Hid (RdI (Qap (Qax 0) wc) wc.heap.size (zv6 k3 n3 A3 nd3 cd3 AL3 nl3 cl3) X3)∧Hid (RdN wc wc.heap.size (some ⟨g11,0,none⟩) 2 [3,so]))
                  case main =>
                   intro key11;refine wpAnyH_ready (rs:=[2,6,11]) (by kernel_rfl) (by simp) ?_;refine AllReadyH.cons rfl (fun K hK=>?_) ?_
                   · skip
                     rw[if_pos (by rfl)]
                     go_simp
                     refine(CU.out _ (T2.out.trans (BT.out.mono T2.out.size))).mono ?_;rintro e wd ⟨v2,rfl,hv,hb⟩;have V2:=hid (hv.deeper (Nat.zero_le _));clear hv;replace V3:=hid (Qah V3.out hb);replace BT:=hid (BT.out.trans (hb.mono BT.out.size));clear hb;go_simp
                     refine hK.out _ _ BT.out (fun hHeld=>?_);try simp only[zs]
                     clear hK K hHeld;exact key2 v2 wd ⟨BT,V3,V2⟩
                   refine AllReadyH.cons rfl (fun K hK=>?_) ?_
                   · skip
                     rw[if_pos (by rfl)]
                     go_simp
                     obtain⟨wd,hwd⟩:∃ wd,wd=wc.alloc zk1:=⟨_,rfl⟩
                     have hb:Below wc.heap.size wc wd:=by rw[hwd];exact zb
                     have R6:Hid (RdN wd wd.heap.size (some ⟨wc.heap.size,0,none⟩) 2 [1,5]):=by rw[hwd];exact Qbn wc 1 5 22
                     rw[← hwd]
                     clear hwd;replace V3:=hid (Qah V3.out hb);replace BT:=hid (BT.out.trans (hb.mono BT.out.size));clear hb;obtain⟨g6,hg⟩:∃ g,g=wc.heap.size:=⟨_,rfl⟩
                     rw[← hg] at R6
                     rw[← hg]
                     clear hg;refine hK.out _ _ BT.out (fun hHeld=>?_);try simp only[zs]
                     clear hK K hHeld;exact key6 g6 wd ⟨BT,V3,R6⟩
                   refine AllReadyH.cons rfl (fun K hK=>?_) AllReadyH.nil;rw[if_pos (by rfl)]
                   go_simp
                   obtain⟨wd,hwd⟩:∃ wd,wd=wc.alloc (zo8 3 so):=⟨_,rfl⟩
                   have hb:Below wc.heap.size wc wd:=by rw[hwd];exact zb
                   have R11:Hid (RdN wd wd.heap.size (some ⟨wc.heap.size,0,none⟩) 2 [3,so]):=by rw[hwd];exact Qbn wc 3 so 22
                   rw[← hwd]
                   clear hwd;replace V3:=hid (Qah V3.out hb);replace BT:=hid (BT.out.trans (hb.mono BT.out.size));clear hb;obtain⟨g11,hg⟩:∃ g,g=wc.heap.size:=⟨_,rfl⟩
                   rw[← hg] at R11
                   rw[← hg]
                   clear hg;refine hK.out _ _ BT.out (fun hHeld=>?_);try simp only[zs]
                   clear hK K hHeld;exact key11 g11 wd ⟨BT,V3,R11⟩
                  case key =>
                   rintro g11 wc ⟨BT,V3,R11⟩;try dsimp only
                   refine wpAnyH_ready (rs:=[2,6]) (by kernel_rfl) (by simp) ?_;refine AllReadyH.cons rfl (fun K hK=>?_) ?_
                   · skip
                     rw[if_pos (by rfl)]
                     go_simp
                     refine(CU.out _ (T2.out.trans (BT.out.mono T2.out.size))).mono ?_;rintro e wd ⟨v2,rfl,hv,hb⟩;have V2:=hid (hv.deeper (Nat.zero_le _));clear hv;replace V3:=hid (Qah V3.out hb);replace R11:=hid ((R11.out.below hb).more hb.size);replace BT:=hid (BT.out.trans (hb.mono BT.out.size));clear hb;go_simp
                     refine hK.out _ _ BT.out (fun hHeld=>?_);try simp only[zs]
                     clear hK K hHeld;exact key2_11 v2 g11 wd ⟨BT,V3,V2,R11⟩
                   refine AllReadyH.cons rfl (fun K hK=>?_) AllReadyH.nil;rw[if_pos (by rfl)]
                   go_simp
                   obtain⟨wd,hwd⟩:∃ wd,wd=wc.alloc zk1:=⟨_,rfl⟩
                   have hb:Below wc.heap.size wc wd:=by rw[hwd];exact zb
                   have R6:Hid (RdN wd wd.heap.size (some ⟨wc.heap.size,0,none⟩) 2 [1,5]):=by rw[hwd];exact Qbn wc 1 5 22
                   rw[← hwd]
                   clear hwd;replace V3:=hid (Qah V3.out hb);replace R11:=hid ((R11.out.below hb).more hb.size);replace BT:=hid (BT.out.trans (hb.mono BT.out.size));clear hb;obtain⟨g6,hg⟩:∃ g,g=wc.heap.size:=⟨_,rfl⟩
                   rw[← hg] at R6
                   rw[← hg]
                   clear hg;refine hK.out _ _ BT.out (fun hHeld=>?_);try simp only[zs]
                   clear hK K hHeld;exact key6_11 g6 g11 wd ⟨BT,V3,R6,R11⟩
                 case key =>
                  rintro g6 wc ⟨BT,V3,R6⟩;try dsimp only
                  refine wpAnyH_ready (rs:=[2,11]) (by kernel_rfl) (by simp) ?_;refine AllReadyH.cons rfl (fun K hK=>?_) ?_
                  · skip
                    rw[if_pos (by rfl)]
                    go_simp
                    refine(CU.out _ (T2.out.trans (BT.out.mono T2.out.size))).mono ?_;rintro e wd ⟨v2,rfl,hv,hb⟩;have V2:=hid (hv.deeper (Nat.zero_le _));clear hv;replace V3:=hid (Qah V3.out hb);replace R6:=hid ((R6.out.below hb).more hb.size);replace BT:=hid (BT.out.trans (hb.mono BT.out.size));clear hb;go_simp
                    refine hK.out _ _ BT.out (fun hHeld=>?_);try simp only[zs]
                    clear hK K hHeld;exact key2_6 v2 g6 wd ⟨BT,V3,V2,R6⟩
                  refine AllReadyH.cons rfl (fun K hK=>?_) AllReadyH.nil;rw[if_pos (by rfl)]
                  go_simp
                  obtain⟨wd,hwd⟩:∃ wd,wd=wc.alloc (zo8 3 so):=⟨_,rfl⟩
                  have hb:Below wc.heap.size wc wd:=by rw[hwd];exact zb
                  have R11:Hid (RdN wd wd.heap.size (some ⟨wc.heap.size,0,none⟩) 2 [3,so]):=by rw[hwd];exact Qbn wc 3 so 22
                  rw[← hwd]
                  clear hwd;replace V3:=hid (Qah V3.out hb);replace R6:=hid ((R6.out.below hb).more hb.size);replace BT:=hid (BT.out.trans (hb.mono BT.out.size));clear hb;obtain⟨g11,hg⟩:∃ g,g=wc.heap.size:=⟨_,rfl⟩
                  rw[← hg] at R11
                  rw[← hg]
                  clear hg;refine hK.out _ _ BT.out (fun hHeld=>?_);try simp only[zs]
                  clear hK K hHeld;exact key6_11 g6 g11 wd ⟨BT,V3,R6,R11⟩
                case key =>
                 rintro g6 g11 wc ⟨BT,V3,R6,R11⟩;try dsimp only
                 refine wpAnyH_ready (rs:=[2]) (by kernel_rfl) (by simp) ?_;refine AllReadyH.cons rfl (fun K hK=>?_) AllReadyH.nil;rw[if_pos (by rfl)]
                 go_simp
                 refine(CU.out _ (T2.out.trans (BT.out.mono T2.out.size))).mono ?_;rintro e wd ⟨v2,rfl,hv,hb⟩;have V2:=hid (hv.deeper (Nat.zero_le _));clear hv;replace V3:=hid (Qah V3.out hb);replace R6:=hid ((R6.out.below hb).more hb.size);replace R11:=hid ((R11.out.below hb).more hb.size);replace BT:=hid (BT.out.trans (hb.mono BT.out.size));clear hb;go_simp
                 refine hK.out _ _ BT.out (fun hHeld=>?_);try simp only[zs]
                 clear hK K hHeld;exact key2_6_11 v2 g6 g11 wd ⟨BT,V3,V2,R6,R11⟩
               case key =>
                rintro v2 wc ⟨BT,V3,V2⟩;try dsimp only
                refine wpAnyH_ready (rs:=[3,6,11]) (by kernel_rfl) (by simp) ?_;refine AllReadyH.cons rfl (fun K hK=>?_) ?_
                · skip
                  rw[if_pos (by rfl)]
                  go_simp
                  refine(Qds 1 _).mono ?_;rintro e wd ⟨rfl,hb⟩;replace V3:=hid (Qah V3.out hb);replace V2:=hid (Qah V2.out hb);replace BT:=hid (BT.out.trans (hb.mono BT.out.size));clear hb;go_simp
                  refine hK.out _ _ BT.out (fun hHeld=>?_);try simp only[zs]
                  clear hK K hHeld;exact key2_3 v2 wd ⟨BT,V3,V2⟩
                refine AllReadyH.cons rfl (fun K hK=>?_) ?_
                · skip
                  rw[if_pos (by rfl)]
                  go_simp
                  obtain⟨wd,hwd⟩:∃ wd,wd=wc.alloc zk1:=⟨_,rfl⟩
                  have hb:Below wc.heap.size wc wd:=by rw[hwd];exact zb
                  have R6:Hid (RdN wd wd.heap.size (some ⟨wc.heap.size,0,none⟩) 2 [1,5]):=by rw[hwd];exact Qbn wc 1 5 22
                  rw[← hwd]
                  clear hwd;replace V3:=hid (Qah V3.out hb);replace V2:=hid (Qah V2.out hb);replace BT:=hid (BT.out.trans (hb.mono BT.out.size));clear hb;obtain⟨g6,hg⟩:∃ g,g=wc.heap.size:=⟨_,rfl⟩
                  rw[← hg] at R6
                  rw[← hg]
                  clear hg;refine hK.out _ _ BT.out (fun hHeld=>?_);try simp only[zs]
                  clear hK K hHeld;exact key2_6 v2 g6 wd ⟨BT,V3,V2,R6⟩
                refine AllReadyH.cons rfl (fun K hK=>?_) AllReadyH.nil;rw[if_pos (by rfl)]
                go_simp
                obtain⟨wd,hwd⟩:∃ wd,wd=wc.alloc (zo8 3 so):=⟨_,rfl⟩
                have hb:Below wc.heap.size wc wd:=by rw[hwd];exact zb
                have R11:Hid (RdN wd wd.heap.size (some ⟨wc.heap.size,0,none⟩) 2 [3,so]):=by rw[hwd];exact Qbn wc 3 so 22
                rw[← hwd]
                clear hwd;replace V3:=hid (Qah V3.out hb);replace V2:=hid (Qah V2.out hb);replace BT:=hid (BT.out.trans (hb.mono BT.out.size));clear hb;obtain⟨g11,hg⟩:∃ g,g=wc.heap.size:=⟨_,rfl⟩
                rw[← hg] at R11
                rw[← hg]
                clear hg;refine hK.out _ _ BT.out (fun hHeld=>?_);try simp only[zs]
                clear hK K hHeld;exact key2_11 v2 g11 wd ⟨BT,V3,V2,R11⟩
              case key =>
               rintro v2 g11 wc ⟨BT,V3,V2,R11⟩;try dsimp only
               refine wpAnyH_ready (rs:=[3,6]) (by kernel_rfl) (by simp) ?_;refine AllReadyH.cons rfl (fun K hK=>?_) ?_
               · skip
                 rw[if_pos (by rfl)]
                 go_simp
                 refine(Qds 1 _).mono ?_;rintro e wd ⟨rfl,hb⟩;replace V3:=hid (Qah V3.out hb);replace V2:=hid (Qah V2.out hb);replace R11:=hid ((R11.out.below hb).more hb.size);replace BT:=hid (BT.out.trans (hb.mono BT.out.size));clear hb;go_simp
                 refine hK.out _ _ BT.out (fun hHeld=>?_);try simp only[zs]
                 clear hK K hHeld;exact key2_3_11 v2 g11 wd ⟨BT,V3,V2,R11⟩
               refine AllReadyH.cons rfl (fun K hK=>?_) AllReadyH.nil;rw[if_pos (by rfl)]
               go_simp
               obtain⟨wd,hwd⟩:∃ wd,wd=wc.alloc zk1:=⟨_,rfl⟩
               have hb:Below wc.heap.size wc wd:=by rw[hwd];exact zb
               have R6:Hid (RdN wd wd.heap.size (some ⟨wc.heap.size,0,none⟩) 2 [1,5]):=by rw[hwd];exact Qbn wc 1 5 22
               rw[← hwd]
               clear hwd;replace V3:=hid (Qah V3.out hb);replace V2:=hid (Qah V2.out hb);replace R11:=hid ((R11.out.below hb).more hb.size);replace BT:=hid (BT.out.trans (hb.mono BT.out.size));clear hb;obtain⟨g6,hg⟩:∃ g,g=wc.heap.size:=⟨_,rfl⟩
               rw[← hg] at R6
               rw[← hg]
               clear hg;refine hK.out _ _ BT.out (fun hHeld=>?_);try simp only[zs]
               clear hK K hHeld;exact key2_6_11 v2 g6 g11 wd ⟨BT,V3,V2,R6,R11⟩
             case key =>
              rintro v2 g6 wc ⟨BT,V3,V2,R6⟩;try dsimp only
              refine wpAnyH_ready (rs:=[3,11]) (by kernel_rfl) (by simp) ?_;refine AllReadyH.cons rfl (fun K hK=>?_) ?_
              · skip
                rw[if_pos (by rfl)]
                go_simp
                refine(Qds 1 _).mono ?_;rintro e wd ⟨rfl,hb⟩;replace V3:=hid (Qah V3.out hb);replace V2:=hid (Qah V2.out hb);replace R6:=hid ((R6.out.below hb).more hb.size);replace BT:=hid (BT.out.trans (hb.mono BT.out.size));clear hb;go_simp
                refine hK.out _ _ BT.out (fun hHeld=>?_);try simp only[zs]
                clear hK K hHeld;exact key2_3_6 v2 g6 wd ⟨BT,V3,V2,R6⟩
              refine AllReadyH.cons rfl (fun K hK=>?_) AllReadyH.nil;rw[if_pos (by rfl)]
              go_simp
              obtain⟨wd,hwd⟩:∃ wd,wd=wc.alloc (zo8 3 so):=⟨_,rfl⟩
              have hb:Below wc.heap.size wc wd:=by rw[hwd];exact zb
              have R11:Hid (RdN wd wd.heap.size (some ⟨wc.heap.size,0,none⟩) 2 [3,so]):=by rw[hwd];exact Qbn wc 3 so 22
              rw[← hwd]
              clear hwd;replace V3:=hid (Qah V3.out hb);replace V2:=hid (Qah V2.out hb);replace R6:=hid ((R6.out.below hb).more hb.size);replace BT:=hid (BT.out.trans (hb.mono BT.out.size));clear hb;obtain⟨g11,hg⟩:∃ g,g=wc.heap.size:=⟨_,rfl⟩
              rw[← hg] at R11
              rw[← hg]
              clear hg;refine hK.out _ _ BT.out (fun hHeld=>?_);try simp only[zs]
              clear hK K hHeld;exact key2_6_11 v2 g6 g11 wd ⟨BT,V3,V2,R6,R11⟩
            case key =>
             rintro v2 g6 g11 wc ⟨BT,V3,V2,R6,R11⟩;try dsimp only
             refine wpAnyH_ready (rs:=[3]) (by kernel_rfl) (by simp) ?_;refine AllReadyH.cons rfl (fun K hK=>?_) AllReadyH.nil;rw[if_pos (by rfl)]
             go_simp
             refine(Qds 1 _).mono ?_;rintro e wd ⟨rfl,hb⟩;replace V3:=hid (Qah V3.out hb);replace V2:=hid (Qah V2.out hb);replace R6:=hid ((R6.out.below hb).more hb.size);replace R11:=hid ((R11.out.below hb).more hb.size);replace BT:=hid (BT.out.trans (hb.mono BT.out.size));clear hb;go_simp
             refine hK.out _ _ BT.out (fun hHeld=>?_);try simp only[zs]
             clear hK K hHeld;exact key2_3_6_11 v2 g6 g11 wd ⟨BT,V3,V2,R6,R11⟩
           case key =>
            rintro v2 wc ⟨BT,V3,V2⟩;try dsimp only
            refine wpAnyH_ready (rs:=[4,6,11]) (by kernel_rfl) (by simp) ?_;refine AllReadyH.cons rfl (fun K hK=>?_) ?_
            · skip
              rw[if_pos (by rfl)]
              go_simp
              refine(Qds 1 _).mono ?_;rintro e wd ⟨rfl,hb⟩;replace V3:=hid (Qah V3.out hb);replace V2:=hid (Qah V2.out hb);replace BT:=hid (BT.out.trans (hb.mono BT.out.size));clear hb;go_simp
              refine hK.out _ _ BT.out (fun hHeld=>?_);try simp only[zs]
              clear hK K hHeld;exact key2_3_4 v2 wd ⟨BT,V3,V2⟩
            refine AllReadyH.cons rfl (fun K hK=>?_) ?_
            · skip
              rw[if_pos (by rfl)]
              go_simp
              obtain⟨wd,hwd⟩:∃ wd,wd=wc.alloc zk1:=⟨_,rfl⟩
              have hb:Below wc.heap.size wc wd:=by rw[hwd];exact zb
              have R6:Hid (RdN wd wd.heap.size (some ⟨wc.heap.size,0,none⟩) 2 [1,5]):=by rw[hwd];exact Qbn wc 1 5 22
              rw[← hwd]
              clear hwd;replace V3:=hid (Qah V3.out hb);replace V2:=hid (Qah V2.out hb);replace BT:=hid (BT.out.trans (hb.mono BT.out.size));clear hb;obtain⟨g6,hg⟩:∃ g,g=wc.heap.size:=⟨_,rfl⟩
              rw[← hg] at R6
              rw[← hg]
              clear hg;refine hK.out _ _ BT.out (fun hHeld=>?_);try simp only[zs]
              clear hK K hHeld;exact key2_3_6 v2 g6 wd ⟨BT,V3,V2,R6⟩
            refine AllReadyH.cons rfl (fun K hK=>?_) AllReadyH.nil;rw[if_pos (by rfl)]
            go_simp
            obtain⟨wd,hwd⟩:∃ wd,wd=wc.alloc (zo8 3 so):=⟨_,rfl⟩
            have hb:Below wc.heap.size wc wd:=by rw[hwd];exact zb
            have R11:Hid (RdN wd wd.heap.size (some ⟨wc.heap.size,0,none⟩) 2 [3,so]):=by rw[hwd];exact Qbn wc 3 so 22
            rw[← hwd]
            clear hwd;replace V3:=hid (Qah V3.out hb);replace V2:=hid (Qah V2.out hb);replace BT:=hid (BT.out.trans (hb.mono BT.out.size));clear hb;obtain⟨g11,hg⟩:∃ g,g=wc.heap.size:=⟨_,rfl⟩
            rw[← hg] at R11
            rw[← hg]
            clear hg;refine hK.out _ _ BT.out (fun hHeld=>?_);try simp only[zs]
            clear hK K hHeld;exact key2_3_11 v2 g11 wd ⟨BT,V3,V2,R11⟩
          case key =>
           rintro v2 g11 wc ⟨BT,V3,V2,R11⟩;try dsimp only
           refine wpAnyH_ready (rs:=[4,6]) (by kernel_rfl) (by simp) ?_;refine AllReadyH.cons rfl (fun K hK=>?_) ?_
           · skip
             rw[if_pos (by rfl)]
             go_simp
             refine(Qds 1 _).mono ?_;rintro e wd ⟨rfl,hb⟩;replace V3:=hid (Qah V3.out hb);replace V2:=hid (Qah V2.out hb);replace R11:=hid ((R11.out.below hb).more hb.size);replace BT:=hid (BT.out.trans (hb.mono BT.out.size));clear hb;go_simp
             refine hK.out _ _ BT.out (fun hHeld=>?_);try simp only[zs]
             clear hK K hHeld;exact key2_3_4_11 v2 g11 wd ⟨BT,V3,V2,R11⟩
           refine AllReadyH.cons rfl (fun K hK=>?_) AllReadyH.nil;rw[if_pos (by rfl)]
           go_simp
           obtain⟨wd,hwd⟩:∃ wd,wd=wc.alloc zk1:=⟨_,rfl⟩
           have hb:Below wc.heap.size wc wd:=by rw[hwd];exact zb
           have R6:Hid (RdN wd wd.heap.size (some ⟨wc.heap.size,0,none⟩) 2 [1,5]):=by rw[hwd];exact Qbn wc 1 5 22
           rw[← hwd]
           clear hwd;replace V3:=hid (Qah V3.out hb);replace V2:=hid (Qah V2.out hb);replace R11:=hid ((R11.out.below hb).more hb.size);replace BT:=hid (BT.out.trans (hb.mono BT.out.size));clear hb;obtain⟨g6,hg⟩:∃ g,g=wc.heap.size:=⟨_,rfl⟩
           rw[← hg] at R6
           rw[← hg]
           clear hg;refine hK.out _ _ BT.out (fun hHeld=>?_);try simp only[zs]
           clear hK K hHeld;exact key2_3_6_11 v2 g6 g11 wd ⟨BT,V3,V2,R6,R11⟩
         case key =>
          rintro v2 g6 wc ⟨BT,V3,V2,R6⟩;try dsimp only
          refine wpAnyH_ready (rs:=[4,11]) (by kernel_rfl) (by simp) ?_;refine AllReadyH.cons rfl (fun K hK=>?_) ?_
          · skip
            rw[if_pos (by rfl)]
            go_simp
            refine(Qds 1 _).mono ?_;rintro e wd ⟨rfl,hb⟩;replace V3:=hid (Qah V3.out hb);replace V2:=hid (Qah V2.out hb);replace R6:=hid ((R6.out.below hb).more hb.size);replace BT:=hid (BT.out.trans (hb.mono BT.out.size));clear hb;go_simp
            refine hK.out _ _ BT.out (fun hHeld=>?_);try simp only[zs]
            clear hK K hHeld;exact key2_3_4_6 v2 g6 wd ⟨BT,V3,V2,R6⟩
          refine AllReadyH.cons rfl (fun K hK=>?_) AllReadyH.nil;rw[if_pos (by rfl)]
          go_simp
          obtain⟨wd,hwd⟩:∃ wd,wd=wc.alloc (zo8 3 so):=⟨_,rfl⟩
          have hb:Below wc.heap.size wc wd:=by rw[hwd];exact zb
          have R11:Hid (RdN wd wd.heap.size (some ⟨wc.heap.size,0,none⟩) 2 [3,so]):=by rw[hwd];exact Qbn wc 3 so 22
          rw[← hwd]
          clear hwd;replace V3:=hid (Qah V3.out hb);replace V2:=hid (Qah V2.out hb);replace R6:=hid ((R6.out.below hb).more hb.size);replace BT:=hid (BT.out.trans (hb.mono BT.out.size));clear hb;obtain⟨g11,hg⟩:∃ g,g=wc.heap.size:=⟨_,rfl⟩
          rw[← hg] at R11
          rw[← hg]
          clear hg;refine hK.out _ _ BT.out (fun hHeld=>?_);try simp only[zs]
          clear hK K hHeld;exact key2_3_6_11 v2 g6 g11 wd ⟨BT,V3,V2,R6,R11⟩
        case key =>
         rintro v2 g6 g11 wc ⟨BT,V3,V2,R6,R11⟩;try dsimp only
         refine wpAnyH_ready (rs:=[4]) (by kernel_rfl) (by simp) ?_;refine AllReadyH.cons rfl (fun K hK=>?_) AllReadyH.nil;rw[if_pos (by rfl)]
         go_simp
         refine(Qds 1 _).mono ?_;rintro e wd ⟨rfl,hb⟩;replace V3:=hid (Qah V3.out hb);replace V2:=hid (Qah V2.out hb);replace R6:=hid ((R6.out.below hb).more hb.size);replace R11:=hid ((R11.out.below hb).more hb.size);replace BT:=hid (BT.out.trans (hb.mono BT.out.size));clear hb;go_simp
         refine hK.out _ _ BT.out (fun hHeld=>?_);try simp only[zs]
         clear hK K hHeld;exact key2_3_4_6_11 v2 g6 g11 wd ⟨BT,V3,V2,R6,R11⟩
       case key =>
        rintro v2 wc ⟨BT,V3,V2⟩;try dsimp only
        refine wpAnyH_ready (rs:=[6,11]) (by kernel_rfl) (by simp) ?_;refine AllReadyH.cons rfl (fun K hK=>?_) ?_
        · skip
          rw[if_pos (by rfl)]
          go_simp
          obtain⟨wd,hwd⟩:∃ wd,wd=wc.alloc zk1:=⟨_,rfl⟩
          have hb:Below wc.heap.size wc wd:=by rw[hwd];exact zb
          have R6:Hid (RdN wd wd.heap.size (some ⟨wc.heap.size,0,none⟩) 2 [1,5]):=by rw[hwd];exact Qbn wc 1 5 22
          rw[← hwd]
          clear hwd;replace V3:=hid (Qah V3.out hb);replace V2:=hid (Qah V2.out hb);replace BT:=hid (BT.out.trans (hb.mono BT.out.size));clear hb;obtain⟨g6,hg⟩:∃ g,g=wc.heap.size:=⟨_,rfl⟩
          rw[← hg] at R6
          rw[← hg]
          clear hg;refine hK.out _ _ BT.out (fun hHeld=>?_);try simp only[zs]
          clear hK K hHeld;exact key2_3_4_6 v2 g6 wd ⟨BT,V3,V2,R6⟩
        refine AllReadyH.cons rfl (fun K hK=>?_) AllReadyH.nil;rw[if_pos (by rfl)]
        go_simp
        obtain⟨wd,hwd⟩:∃ wd,wd=wc.alloc (zo8 3 so):=⟨_,rfl⟩
        have hb:Below wc.heap.size wc wd:=by rw[hwd];exact zb
        have R11:Hid (RdN wd wd.heap.size (some ⟨wc.heap.size,0,none⟩) 2 [3,so]):=by rw[hwd];exact Qbn wc 3 so 22
        rw[← hwd]
        clear hwd;replace V3:=hid (Qah V3.out hb);replace V2:=hid (Qah V2.out hb);replace BT:=hid (BT.out.trans (hb.mono BT.out.size));clear hb;obtain⟨g11,hg⟩:∃ g,g=wc.heap.size:=⟨_,rfl⟩
        rw[← hg] at R11
        rw[← hg]
        clear hg;refine hK.out _ _ BT.out (fun hHeld=>?_);try simp only[zs]
        clear hK K hHeld;exact key2_3_4_11 v2 g11 wd ⟨BT,V3,V2,R11⟩
      case key =>
       rintro v2 g11 wc ⟨BT,V3,V2,R11⟩;try dsimp only
       refine wpAnyH_ready (rs:=[6]) (by kernel_rfl) (by simp) ?_;refine AllReadyH.cons rfl (fun K hK=>?_) AllReadyH.nil;rw[if_pos (by rfl)]
       go_simp
       obtain⟨wd,hwd⟩:∃ wd,wd=wc.alloc zk1:=⟨_,rfl⟩
       have hb:Below wc.heap.size wc wd:=by rw[hwd];exact zb
       have R6:Hid (RdN wd wd.heap.size (some ⟨wc.heap.size,0,none⟩) 2 [1,5]):=by rw[hwd];exact Qbn wc 1 5 22
       rw[← hwd]
       clear hwd;replace V3:=hid (Qah V3.out hb);replace V2:=hid (Qah V2.out hb);replace R11:=hid ((R11.out.below hb).more hb.size);replace BT:=hid (BT.out.trans (hb.mono BT.out.size));clear hb;obtain⟨g6,hg⟩:∃ g,g=wc.heap.size:=⟨_,rfl⟩
       rw[← hg] at R6
       rw[← hg]
       clear hg;refine hK.out _ _ BT.out (fun hHeld=>?_);try simp only[zs]
       clear hK K hHeld;exact key2_3_4_6_11 v2 g6 g11 wd ⟨BT,V3,V2,R6,R11⟩
     case key =>
      rintro v2 g6 wc ⟨BT,V3,V2,R6⟩;try dsimp only
      refine wpAnyH_ready (rs:=[7,11]) (by kernel_rfl) (by simp) ?_;refine AllReadyH.cons rfl (fun K hK=>?_) ?_
      · skip
        rw[if_pos (by rfl)]
        go_simp
        refine(CP.out g6 1 5 (by decide) (by decide) _ R6.out).mono ?_;rintro e wd ⟨v7,rfl,hv,hb⟩;have V7:Hid (RdI (Qap (Qax 0) wd) wd.heap.size v7 (aI [uI 1,uI 5])):=hv.deeper (Nat.zero_le _);clear hv R6;replace V3:=hid (Qah V3.out hb);replace V2:=hid (Qah V2.out hb);replace BT:=hid (BT.out.trans (hb.mono BT.out.size));clear hb;go_simp
        refine hK.out _ _ BT.out (fun hHeld=>?_);try simp only[zs]
        clear hK K hHeld;exact key2_3_4_6_7 v2 g6 v7 wd ⟨BT,V3,V2,V7⟩
      refine AllReadyH.cons rfl (fun K hK=>?_) AllReadyH.nil;rw[if_pos (by rfl)]
      go_simp
      obtain⟨wd,hwd⟩:∃ wd,wd=wc.alloc (zo8 3 so):=⟨_,rfl⟩
      have hb:Below wc.heap.size wc wd:=by rw[hwd];exact zb
      have R11:Hid (RdN wd wd.heap.size (some ⟨wc.heap.size,0,none⟩) 2 [3,so]):=by rw[hwd];exact Qbn wc 3 so 22
      rw[← hwd]
      clear hwd;replace V3:=hid (Qah V3.out hb);replace V2:=hid (Qah V2.out hb);replace R6:=hid ((R6.out.below hb).more hb.size);replace BT:=hid (BT.out.trans (hb.mono BT.out.size));clear hb;obtain⟨g11,hg⟩:∃ g,g=wc.heap.size:=⟨_,rfl⟩
      rw[← hg] at R11
      rw[← hg]
      clear hg;refine hK.out _ _ BT.out (fun hHeld=>?_);try simp only[zs]
      clear hK K hHeld;exact key2_3_4_6_11 v2 g6 g11 wd ⟨BT,V3,V2,R6,R11⟩
    case key =>
     rintro v2 g6 g11 wc ⟨BT,V3,V2,R6,R11⟩;try dsimp only
     refine wpAnyH_ready (rs:=[7]) (by kernel_rfl) (by simp) ?_;refine AllReadyH.cons rfl (fun K hK=>?_) AllReadyH.nil;rw[if_pos (by rfl)]
     go_simp
     refine(CP.out g6 1 5 (by decide) (by decide) _ R6.out).mono ?_;rintro e wd ⟨v7,rfl,hv,hb⟩;have V7:Hid (RdI (Qap (Qax 0) wd) wd.heap.size v7 (aI [uI 1,uI 5])):=hv.deeper (Nat.zero_le _);clear hv R6;replace V3:=hid (Qah V3.out hb);replace V2:=hid (Qah V2.out hb);replace R11:=hid ((R11.out.below hb).more hb.size);replace BT:=hid (BT.out.trans (hb.mono BT.out.size));clear hb;go_simp
     refine hK.out _ _ BT.out (fun hHeld=>?_);try simp only[zs]
     clear hK K hHeld;exact key2_3_4_6_7_11 v2 g6 g11 v7 wd ⟨BT,V3,V2,V7,R11⟩
   case key =>
    rintro v2 g6 v7 wc ⟨BT,V3,V2,V7⟩;try dsimp only
    refine wpAnyH_ready (rs:=[11]) (by kernel_rfl) (by simp) ?_;refine AllReadyH.cons rfl (fun K hK=>?_) AllReadyH.nil;rw[if_pos (by rfl)]
    go_simp
    obtain⟨wd,hwd⟩:∃ wd,wd=wc.alloc (zo8 3 so):=⟨_,rfl⟩
    have hb:Below wc.heap.size wc wd:=by rw[hwd];exact zb
    have R11:Hid (RdN wd wd.heap.size (some ⟨wc.heap.size,0,none⟩) 2 [3,so]):=by rw[hwd];exact Qbn wc 3 so 22
    rw[← hwd]
    clear hwd;replace V3:=hid (Qah V3.out hb);replace V2:=hid (Qah V2.out hb);replace V7:=hid (Qah V7.out hb);replace BT:=hid (BT.out.trans (hb.mono BT.out.size));clear hb;obtain⟨g11,hg⟩:∃ g,g=wc.heap.size:=⟨_,rfl⟩
    rw[← hg] at R11
    rw[← hg]
    clear hg;refine hK.out _ _ BT.out (fun hHeld=>?_);try simp only[zs]
    clear hK K hHeld;exact key2_3_4_6_7_11 v2 g6 g11 v7 wd ⟨BT,V3,V2,V7,R11⟩
  case key =>
   rintro v2 g6 g11 v7 wc ⟨BT,V3,V2,V7,R11⟩;try dsimp only
   obtain⟨k2,n2,A2,nd2,cd2,AL2,nl2,cl2,rfl⟩:=V2.out.unmask.form;obtain⟨k7,n7,A7,nd7,cd7,AL7,nl7,cl7,rfl⟩:=V7.out.unmask.form;refine wpAnyH_ready (rs:=[12]) (by kernel_rfl) (by simp) ?_;refine AllReadyH.cons rfl (fun K hK=>?_) AllReadyH.nil;rw[if_pos (by rfl)]
   go_simp
   refine(CP.out g11 3 so (by decide) (HSO.out) _ R11.out).mono ?_;rintro e wd ⟨v12,rfl,hv,hb⟩;have V12:Hid (RdI (Qap (Qax 0) wd) wd.heap.size v12 (aI [uI 3,uI so])):=hv.deeper (Nat.zero_le _);obtain⟨k12,n12,A12,nd12,cd12,AL12,nl12,cl12,rfl⟩:=hv.unmask.form;clear hv R11;replace V3:=hid (Qah V3.out hb);replace V2:=hid (Qah V2.out hb);replace V7:=hid (Qah V7.out hb);replace BT:=hid (BT.out.trans (hb.mono BT.out.size));clear hb;go_simp
   refine hK.out _ _ BT.out (fun hHeld=>?_);try simp only[zs]
   clear hK K hHeld;clear wc;obtain⟨wc,rfl⟩:∃ wc,wc=wd:=⟨_,rfl⟩
   refine wpAnyH_ready (rs:=[13]) (by kernel_rfl) (by simp) ?_;refine AllReadyH.cons rfl (fun K hK=>?_) AllReadyH.nil;rw[if_pos (by rfl)]
   go_simp
   have hR8:=ItL.row (lo:=0) (t:=119) (cs:=[.int .i64 k7,.int .u64 (n7:Int),.slice A7 nd7 cd7,.slice AL7 nl7 cl7,.int .i64 k12,.int .u64 (n12:Int),.slice A12 nd12 cd12,.slice AL12 nl12 cl12]) (xs:=[aI [uI 1,uI 5],aI [uI 3,uI so]]) (Nat.zero_le _) ⟨V7.out,V12.out,trivial⟩;obtain⟨wd,hwd⟩:∃ wd,wd=wc.alloc (zo7 k7 n7 A7 nd7 cd7 AL7 nl7 cl7 k12 n12 A12 nd12 cd12 AL12 nl12 cl12):=⟨_,rfl⟩
   have hb:Below wc.heap.size wc wd:=by rw[hwd];exact zb
   have C14:=hid (Qb9 (n:=2) (cap:=2) (lo:=0) (W:=wd) (b:=wc.heap.size) (Nat.zero_le _) zr (by rw[hwd];simp) (by rw[hwd];exact hR8) rfl (by decide) (by simp[aI,uI,Qa5,par]) (by decide));rw[← hwd]
   clear hwd hR8 V7 V12;replace V3:=hid (Qah V3.out hb);replace V2:=hid (Qah V2.out hb);replace BT:=hid (BT.out.trans (hb.mono BT.out.size));clear hb;obtain⟨g8,hg⟩:∃ g,g=wc.heap.size:=⟨_,rfl⟩
   rw[← hg] at C14
   rw[← hg]
   clear hg;refine hK.out _ _ BT.out (fun hHeld=>?_);try simp only[zs]
   clear hK K hHeld;clear wc;obtain⟨wc,rfl⟩:∃ wc,wc=wd:=⟨_,rfl⟩
   refine wpAnyH_ready (rs:=[14]) (by kernel_rfl) (by simp) ?_;refine AllReadyH.cons rfl (fun K hK=>?_) AllReadyH.nil;rw[if_pos (by rfl)]
   go_simp
   refine C14.out.mono ?_;rintro e wd ⟨v14,rfl,hv,hb⟩;obtain⟨k14,n14,A14,nd14,cd14,AL14,nl14,cl14,rfl⟩:=hv.unmask.form;have V14:Hid (RdI (Qap (Qax 0) wd) wd.heap.size (zv6 k14 n14 A14 nd14 cd14 AL14 nl14 cl14) (Qxs so)):=hv;clear hv C14;replace V3:=hid (Qah V3.out hb);replace V2:=hid (Qah V2.out hb);replace BT:=hid (BT.out.trans (hb.mono BT.out.size));clear hb;go_simp
   refine hK.out _ _ BT.out (fun hHeld=>?_);try simp only[zs]
   clear hK K hHeld;clear wc;obtain⟨wc,rfl⟩:∃ wc,wc=wd:=⟨_,rfl⟩
   refine wpAnyH_ready (rs:=[17]) (by kernel_rfl) (by simp) ?_;refine AllReadyH.cons rfl (fun K hK=>?_) AllReadyH.nil;rw[if_pos (by rfl)]
   go_simp
   refine(CT.out _ (T2.out.trans (BT.out.mono T2.out.size))).mono ?_;rintro e wd ⟨v17,rfl,hv,hb⟩;have V17:=hid (hv.deeper (Nat.zero_le _));obtain⟨k17,n17,A17,nd17,cd17,AL17,nl17,cl17,rfl⟩:=hv.unmask.form;clear hv;replace V3:=hid (Qah V3.out hb);replace V2:=hid (Qah V2.out hb);replace V14:=hid (Qah V14.out hb);replace BT:=hid (BT.out.trans (hb.mono BT.out.size));clear hb;go_simp
   refine hK.out _ _ BT.out (fun hHeld=>?_);try simp only[zs]
   clear hK K hHeld;clear wc;obtain⟨wc,rfl⟩:∃ wc,wc=wd:=⟨_,rfl⟩
   refine wpAnyH_ready (rs:=[18]) (by kernel_rfl) (by simp) ?_;refine AllReadyH.cons rfl (fun K hK=>?_) AllReadyH.nil;rw[if_pos (by rfl)]
   go_simp
   have HROW:=hid (RdIs.unmask (by simp) (ItL.row (lo:=0) (t:=119) (cs:=[.int .i64 k2,.int .u64 (n2:Int),.slice A2 nd2 cd2,.slice AL2 nl2 cl2,.int .i64 0,.int .u64 1,.slice none 0 0,.slice none 0 0,.int .i64 0,.int .u64 1,.slice none 0 0,.slice none 0 0,.int .i64 k3,.int .u64 (n3:Int),.slice A3 nd3 cd3,.slice AL3 nl3 cl3,.int .i64 k14,.int .u64 (n14:Int),.slice A14 nd14 cd14,.slice AL14 nl14 cl14,.int .i64 k17,.int .u64 (n17:Int),.slice A17 nd17 cd17,.slice AL17 nl17 cl17]) (xs:=[X0,uI 1,uI 1,X3,Qxs so,X5]) (Nat.zero_le _) ⟨V2.out,RdI.mk_uint (by decide),RdI.mk_uint (by decide),V3.out,V14.out,V17.out,trivial⟩))
   have BN:=hid (BT.out.alloc BT.out.size (.cells #[.int .i64 k2,.int .u64 (n2:Int),.slice A2 nd2 cd2,.slice AL2 nl2 cl2,.int .i64 0,.int .u64 1,.slice none 0 0,.slice none 0 0,.int .i64 0,.int .u64 1,.slice none 0 0,.slice none 0 0,.int .i64 k3,.int .u64 (n3:Int),.slice A3 nd3 cd3,.slice AL3 nl3 cl3,.int .i64 k14,.int .u64 (n14:Int),.slice A14 nd14 cd14,.slice AL14 nl14 cl14,.int .i64 k17,.int .u64 (n17:Int),.slice A17 nd17 cd17,.slice AL17 nl17 cl17] 119));clear V2 V3 V14 V17;refine hK.out _ _ BN.out (fun hHeld=>?_);try simp only[zs]
   clear hK K;refine Qao (i:=19) (v:=?v19_9) rfl (by kernel_rfl) (by kernel_rfl) (by kernel_rfl) (fun _ _ _ h=>h) (by rfl) ?hy19_9 (by assumption) ?rest19_9
   case hy19_9=>(intro W hSw;go_simp;try with_reducible rfl)
   try simp only[zs]
   refine wpAnyH_done (by kernel_rfl) ?_ _;go_wp2_with fail;go_ret;exact⟨_,rfl,by simp,HROW.out,T2.out.trans (BN.out.mono T2.out.size)⟩
end Go.Proofs.YtbnfkjkoinbkgaaGreatDoor
