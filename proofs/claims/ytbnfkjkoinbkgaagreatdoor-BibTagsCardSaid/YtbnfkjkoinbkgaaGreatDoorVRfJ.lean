import Derived.Test.YtbnfkjkoinbkgaaGreatDoorVAbb
import Derived.Test.YtbnfkjkoinbkgaaGreatDoorVBunD
import Derived.Test.YtbnfkjkoinbkgaaGreatDoorVRfI
namespace Go.Proofs.YtbnfkjkoinbkgaaGreatDoor
set_option maxRecDepth 100000
set_option maxHeartbeats 16000000
open Go.RowKit
open Go.Lib (hid)
theorem Qee{W:World}{B b:Nat}{x y:Nat}(hx:x<18446744073709551616)(hy:y<18446744073709551616)(h:∀ j u,([.int .i64 0,.int .u64 (x:Int),.slice none 0 0,.slice none 0 0,.int .i64 0,.int .u64 (y:Int),.slice none 0 0,.slice none 0 0]:List Value)[j]?=some u→W.cell? ⟨b,j,none⟩=some u) :
  RdIs W B b 0 [.mk 0 x [] [],.mk 0 y [] []]:=by
 rw[RdIs,RdIs,RdIs]
 exact⟨⟨_,_,_,_,h 0 _ rfl,h 1 _ rfl,h 2 _ rfl,h 3 _ rfl,RdI.mk_uint hx⟩,⟨_,_,_,_,h 4 _ rfl,h 5 _ rfl,h 6 _ rfl,h 7 _ rfl,RdI.mk_uint hy⟩,trivial⟩
theorem Qoa(h:BH)(l:List Blk)(A:OA)(n c:Nat)(w:World)(hd:h.Bd)(hcr:0≤h.crc∧h.crc≤2)(hc1:Qag h.dst=true)(hc2:Qag h.src=true)(hc3:Qag h.rep=true) :
  Calls Tryz.prog 36 #[Qbl h A n c] w fun e w'=>∃ g,e=.returned (.slice (some ⟨g,0,none⟩) 8 8)∧g<w'.heap.size∧RdIs w' w'.heap.size g 0 (Qb3 (h.bun l))∧Below w.heap.size w w':=by
 have HX0:Hid (Qb3 (h.bun l)=[.mk 0 7 [] [],.mk 0 h.flg [] [],.mk 0 h.crc.toNat [] [],Qal h.dst,Qal h.src,Qal h.rep,.mk 4 0 [] [.mk 0 h.tim [] [],.mk 0 h.seq [] []],.mk 0 h.lif [] []]):=rfl;rw[HX0.out]
 have HB0:=hid ((Below.refl w.heap.size w).alloc zr (hbx h h.crc A n c));have HW0:Hid (Below (w.heap.size+1) (w.alloc (hbx h h.crc A n c)) (w.alloc (hbx h h.crc A n c))):=Below.refl _ _;have HS0:Hid ((w.alloc (hbx h h.crc A n c)).heap.size=w.heap.size+1):=by show _=_;simp
 have HX:=hid (fun (W:World) (hb:Below (w.heap.size+1) (w.alloc (hbx h h.crc A n c)) W)=>Qad (w:=w) rfl hb);have CI1:=hid (fun W=>Qh6 0 h.dsc h.dnm h.dn h.dv W (Nat.zero_le _) hd.dnm hd.dn hd.dv hc1);have CI2:=hid (fun W=>Qh6 0 h.ssc h.snm h.sn h.sv W (Nat.zero_le _) hd.snm hd.sn hd.sv hc2);have CI3:=hid (fun W=>Qh6 0 h.rsc h.rnm h.rn h.rv W (Nat.zero_le _) hd.rnm hd.rn hd.rv hc3);obtain⟨X1,hX1⟩:∃ X,X=Qal h.dst:=⟨_,rfl⟩
 obtain⟨X2,hX2⟩:∃ X,X=Qal h.src:=⟨_,rfl⟩
 obtain⟨X3,hX3⟩:∃ X,X=Qal h.rep:=⟨_,rfl⟩
 have e1:Qal (ep h.dsc h.dnm h.dn h.dv)=X1:=hX1.symm;have e2:Qal (ep h.ssc h.snm h.sn h.sv)=X2:=hX2.symm;have e3:Qal (ep h.rsc h.rnm h.rn h.rv)=X3:=hX3.symm;rw[e1] at CI1
 rw[e2] at CI2
 rw[e3] at CI3
 rw[← hX1,← hX2,← hX3]
 obtain⟨C,hC⟩:∃ C:Nat,h.crc=(C:Int):=⟨h.crc.toNat,by omega⟩
 have hC2:C≤2:=by omega
 have HCB:Hid (C<18446744073709551616):=by show _<_;omega
 have hCN:h.crc.toNat=C:=by rw[hC];rfl
 have hwc:IntKind.u64.wrap (C:Int)=(C:Int):=by rw[show IntKind.u64.wrap (C:Int)=(C:Int) % 18446744073709551616 from rfl];omega
 rw[hCN]
 have HNB:Hid (h.flg<18446744073709551616∧h.tim<18446744073709551616∧h.seq<18446744073709551616∧h.lif<18446744073709551616):=⟨hd.flg,hd.tim,hd.seq,hd.lif⟩
 obtain⟨X6,hX6⟩:∃ X:Itm,X=.mk 4 0 [] [.mk 0 h.tim [] [],.mk 0 h.seq [] []]:=⟨_,rfl⟩
 rw[← hX6]
 have HX6:=hid hX6;have HCR:=hid hC;clear hd hcr hc1 hc2 hc3 hX1 hX2 hX3 e1 e2 e3 hC hC2 hCN hX6;unfold Qbl Qbq at *;go_enter Tryz.func36,Tryz.ntmps36;have x2:=Qab (HX.out _ HW0.out) 2 rfl;have x3:=Qab (HX.out _ HW0.out) 3 rfl;have x4:=Qab (HX.out _ HW0.out) 4 rfl;have x5:=Qab (HX.out _ HW0.out) 5 rfl;go_wp2_with fail;refine(CI1.out _).mono ?_;rintro e w1 ⟨v1,rfl,hv,hb⟩;have B1:=hid (Below.push HW0.out (Nat.le_of_eq HS0.out.symm) hb);have L1:Hid (w.heap.size+1≤w1.heap.size):=by show _≤_;have:=B1.out.size;have:=HS0.out;omega
 obtain⟨k1,n1,A1,nd1,cd1,AL1,nl1,cl1,rfl⟩:=hv.unmask.form;have V1:=hid hv.unmask;clear hb hv x2 x3 x4 x5;go_wp2_with (first
  | (refine Qbg rfl 119 (.tmp 3) (.tmp 14) rfl _ _ _ _ _ rfl rfl _ _ (heap_alloc_new w1 _) Qbf rfl rfl ?_;intro w2 hst;have B2:=hid (hst.2.1 _ _ (B1.out.alloc L1.out zk0) L1.out);have D2:=hid (hst.2.1 _ _ ((Below.refl w1.heap.size w1).alloc zr zk0) zr);have R2:=hid hst.1;have x6:=Qab (HX.out _ B2.out) 6 rfl;have x7:=Qab (HX.out _ B2.out) 7 rfl;have x8:=Qab (HX.out _ B2.out) 8 rfl;have x9:=Qab (HX.out _ B2.out) 9 rfl;clear hst)
  | fail)
 refine(CI2.out _).mono ?_;rintro e w3 ⟨v3,rfl,hv,hb⟩;have B3:=hid (Below.push B2.out (Nat.le_of_eq HS0.out.symm) hb);have L3:Hid (w.heap.size+1≤w3.heap.size):=by show _≤_;have:=B3.out.size;have:=HS0.out;omega
 obtain⟨k3,n3,A3,nd3,cd3,AL3,nl3,cl3,rfl⟩:=hv.unmask.form;have V3:=hid hv.unmask;have D3:=hid hb;clear hb hv x6 x7 x8 x9;go_wp2_with (first
  | (refine Qbg rfl 119 (.tmp 5) (.tmp 20) rfl _ _ _ _ _ rfl rfl _ _ (heap_alloc_new w3 _) Qbf rfl rfl ?_;intro w4 hst;have B4:=hid (hst.2.1 _ _ (B3.out.alloc L3.out zk0) L3.out);have D4:=hid (hst.2.1 _ _ ((Below.refl w3.heap.size w3).alloc zr zk0) zr);have R4:=hid hst.1;have x10:=Qab (HX.out _ B4.out) 10 rfl;have x11:=Qab (HX.out _ B4.out) 11 rfl;have x12:=Qab (HX.out _ B4.out) 12 rfl;have x13:=Qab (HX.out _ B4.out) 13 rfl;clear hst)
  | fail)
 refine(CI3.out _).mono ?_;rintro e w5 ⟨v5,rfl,hv,hb⟩;have B5:=hid (Below.push B4.out (Nat.le_of_eq HS0.out.symm) hb);have L5:Hid (w.heap.size+1≤w5.heap.size):=by show _≤_;have:=B5.out.size;have:=HS0.out;omega
 obtain⟨k5,n5,A5,nd5,cd5,AL5,nl5,cl5,rfl⟩:=hv.unmask.form;have V5:=hid hv.unmask;have D5:=hid hb;clear hb hv x10 x11 x12 x13;go_wp2_with (first
  | (refine Qbg rfl 119 (.tmp 7) (.tmp 26) rfl _ _ _ _ _ rfl rfl _ _ (heap_alloc_new w5 _) Qbf rfl rfl ?_;intro w6 hst;have B6:=hid (hst.2.1 _ _ (B5.out.alloc L5.out zk0) L5.out);have D6:=hid (hst.2.1 _ _ ((Below.refl w5.heap.size w5).alloc zr zk0) zr);have R6:=hid hst.1;clear hst)
  | fail)
 have G4:=hid (D5.out.trans (D6.out.mono D5.out.size));have G3:=hid (D4.out.trans (G4.out.mono D4.out.size));have G2:=hid (D3.out.trans (G3.out.mono D3.out.size));have G1:=hid (D2.out.trans (G2.out.mono D2.out.size));have Q2:=hid (Qac R2.out G2.out (Qaf R2.out));have Q4:=hid (Qac R4.out G4.out (Qaf R4.out));have Q6:=hid R6.out;have P1:=hid ((V1.out.below G1.out).more G1.out.size);have P3:=hid ((V3.out.below G3.out).more G3.out.size);have P5:=hid ((V5.out.below D6.out).more D6.out.size);have QB:=hid (HX.out _ B6.out);have SZ6:Hid (w.heap.size<w6.heap.size):=Qaf QB.out;clear G1 G2 G3 G4 D2 D3 D4 D5 D6 R2 R4 R6 V1 V3 V5
 try simp only[zs]
 go_cut [9] (fun p wx=>Hid (∃ (gy g cap:Nat),p=.pointer (some ⟨gy,0,none⟩)∧wx.heap[gy]?=some (.cells #[.int .i64 4,.int .u64 0,.slice none 0 0,.slice (some ⟨g,0,none⟩) 2 cap] 119 (0,0))∧RdI wx wx.heap.size (zv6 4 0 none 0 0 (some ⟨g,0,none⟩) 2 cap) X6∧Below w6.heap.size w6 wx))
 case first =>
  go_wp2_with fail;refine wp_region_held_drew (S:=fun W=>W.heap[w.heap.size]?=some (.cells (#[.int .u64 (h.flg:Int),.int .i64 h.crc,.int .i64 h.dsc,.string h.dnm,.int .u64 (h.dn:Int),.int .u64 (h.dv:Int),.int .i64 h.ssc,.string h.snm,.int .u64 (h.sn:Int),.int .u64 (h.sv:Int),.int .i64 h.rsc,.string h.rnm,.int .u64 (h.rn:Int),.int .u64 (h.rv:Int),.int .u64 (h.tim:Int),.int .u64 (h.seq:Int),.int .u64 (h.lif:Int),.slice A n c]) 28 (0,0))) (by kernel_rfl) QB.out (fun hHeld=>?_);have BC:Hid (Below w6.heap.size w6 w6.drew):=Below.drew_;refine Qao (i:=0) (v:=?v0_1) rfl (by kernel_rfl) (by kernel_rfl) (by kernel_rfl) (fun _ _ _ h=>h) (by rfl) ?hy0_1 (by assumption) ?rest0_1
  case hy0_1=>(intro W hSw;go_simp;try with_reducible rfl)
  try simp only[zs]
  refine Qao (i:=1) (v:=?v1_2) rfl (by kernel_rfl) (by kernel_rfl) (by kernel_rfl) (fun _ _ _ h=>h) (by rfl) ?hy1_2 (by assumption) ?rest1_2
  case hy1_2=>(intro W hSw;have x14:=Qab hSw 14 rfl;go_simp;try with_reducible rfl)
  try simp only[zs]
  refine Qao (i:=3) (v:=?v3_3) rfl (by kernel_rfl) (by kernel_rfl) (by kernel_rfl) (fun _ _ _ h=>h) (by rfl) ?hy3_3 (by assumption) ?rest3_3
  case hy3_3=>(intro W hSw;go_simp;try with_reducible rfl)
  try simp only[zs]
  refine Qao (i:=4) (v:=?v4_4) rfl (by kernel_rfl) (by kernel_rfl) (by kernel_rfl) (fun _ _ _ h=>h) (by rfl) ?hy4_4 (by assumption) ?rest4_4
  case hy4_4=>(intro W hSw;have x15:=Qab hSw 15 rfl;go_simp;try with_reducible rfl)
  try simp only[zs]
  obtain⟨wc,hwc⟩:∃ wc,wc=w6.drew:=⟨_,rfl⟩
  rw[← hwc] at BC
  rw[← hwc]
  clear hwc hHeld;refine wpAnyH_ready (rs:=[2,8]) (by kernel_rfl) (by simp) ?_;refine AllReadyH.cons rfl (fun K hK=>?_) ?_
  ·
   rw[if_pos (by rfl)]
   go_simp
   refine(Qdd (h.tim:Int) _).mono ?_;rintro e wd ⟨rfl,hb⟩;go_simp
   have BN:=hid (BC.out.trans (hb.mono BC.out.size));clear BC hb;have BC:=BN;clear BN;refine hK.out _ _ (Qac QB.out BC.out SZ6.out) (fun hHeld=>?_);try simp only[zs]
   clear hK K hHeld;clear wc;obtain⟨wc,rfl⟩:∃ wc,wc=wd:=⟨_,rfl⟩
   refine wpAnyH_ready (rs:=[5,8]) (by kernel_rfl) (by simp) ?_;refine AllReadyH.cons rfl (fun K hK=>?_) ?_
   ·
    rw[if_pos (by rfl)]
    go_simp
    refine(Qdd (h.seq:Int) _).mono ?_;rintro e wd ⟨rfl,hb⟩;go_simp
    have BN:=hid (BC.out.trans (hb.mono BC.out.size));clear BC hb;have BC:=BN;clear BN;refine hK.out _ _ (Qac QB.out BC.out SZ6.out) (fun hHeld=>?_);try simp only[zs]
    clear hK K hHeld;clear wc;obtain⟨wc,rfl⟩:∃ wc,wc=wd:=⟨_,rfl⟩
    refine wpAnyH_ready (rs:=[6,8]) (by kernel_rfl) (by simp) ?_;refine AllReadyH.cons rfl (fun K hK=>?_) ?_
    ·
     rw[if_pos (by rfl)]
     go_simp
     obtain⟨wd,hwd⟩:∃ wd,wd=wc.alloc (zo7 0 h.tim none 0 0 none 0 0 0 h.seq none 0 0 none 0 0):=⟨_,rfl⟩
     have hb:Below wc.heap.size wc wd:=by rw[hwd];exact zb
     have RB:=hid (show RowAt wd wc.heap.size [.int .i64 0,.int .u64 (h.tim:Int),.slice none 0 0,.slice none 0 0,.int .i64 0,.int .u64 (h.seq:Int),.slice none 0 0,.slice none 0 0] by rw[hwd];exact RowAt.made wc #[.int .i64 0,.int .u64 (h.tim:Int),.slice none 0 0,.slice none 0 0,.int .i64 0,.int .u64 (h.seq:Int),.slice none 0 0,.slice none 0 0] 119);rw[← hwd]
     clear hwd;have BN:=hid (BC.out.trans (hb.mono BC.out.size));clear BC hb;have BC:=BN;clear BN;refine hK.out _ _ (Qac QB.out BC.out SZ6.out) (fun hHeld=>?_);try simp only[zs]
     clear hK K hHeld;generalize wc.heap.size=gb at *;clear wc;obtain⟨wc,rfl⟩:∃ wc,wc=wd:=⟨_,rfl⟩
     refine wpAnyH_ready (rs:=[7,8]) (by kernel_rfl) (by simp) ?_;refine AllReadyH.cons rfl (fun K hK=>?_) ?_
     ·
      rw[if_pos (by rfl)]
      go_simp
      refine(Qde gb 0 2 2 [.int .i64 0,.int .u64 (h.tim:Int),.slice none 0 0,.slice none 0 0,.int .i64 0,.int .u64 (h.seq:Int),.slice none 0 0,.slice none 0 0] wc RB.out.1 rfl (fun j u hj=>by rw[Nat.zero_add,← Qi9];exact RB.out.2 j u hj) (fun v hv=>List.all_eq_true.1 (show([.int .i64 0,.int .u64 (h.tim:Int),.slice none 0 0,.slice none 0 0,.int .i64 0,.int .u64 (h.seq:Int),.slice none 0 0,.slice none 0 0]:List Value).all (·.oneCell')=true from rfl) v hv) (by decide) (by decide)).mono ?_;rintro e wd ⟨g,cap,rfl,hlg,hgs,hcap,hgc,hb⟩;have GC:=hid hgc;have LG:=hid hgs;have CP:=hid hcap;clear hlg hgs hcap hgc RB
      go_simp
      have BN:=hid (BC.out.trans (hb.mono BC.out.size));clear BC hb;have BC:=BN;clear BN;refine hK.out _ _ (Qac QB.out BC.out SZ6.out) (fun hHeld=>?_);try simp only[zs]
      clear hK K hHeld;clear wc;obtain⟨wc,rfl⟩:∃ wc,wc=wd:=⟨_,rfl⟩
      refine wpAnyH_ready (rs:=[8]) (by kernel_rfl) (by simp) ?_;refine AllReadyH.cons rfl (fun K hK=>?_) AllReadyH.nil;have LYG:Hid (w6.heap.size≤wc.heap.size):=BC.out.size;rw[if_pos (by rfl)]
      go_simp
      obtain⟨wd,hwd⟩:∃ wd,wd=wc.alloc zk0:=⟨_,rfl⟩
      have hb:Below wc.heap.size wc wd:=by rw[hwd];exact zb
      have RY:=hid (show wd.heap[wc.heap.size]?=some (.cells #[.int .i64 0,.int .u64 0,.slice none 0 0,.slice none 0 0] 119 (0,0)) by rw[hwd];exact heap_alloc_new wc zk0);rw[← hwd]
      clear hwd;have NE:Hid (wc.heap.size≠g):=by show _≠_;have:=LG.out;omega
      have GC2:=hid (fun j u hj=>((hb).cell (p:=⟨g,j,none⟩) LG.out).trans (GC.out j u hj));have LG2:Hid (g<wd.heap.size):=Nat.lt_of_lt_of_le LG.out (hb).size;clear GC LG;have GC:=GC2;have LG:=LG2;clear GC2 LG2;have BN:=hid (BC.out.trans (hb.mono BC.out.size));clear BC hb;have BC:=BN;clear BN;refine hK.out _ _ (Qac QB.out BC.out SZ6.out) (fun hHeld=>?_);try simp only[zs]
      clear hK K hHeld;generalize wc.heap.size=gy at *;clear wc;obtain⟨wc,rfl⟩:∃ wc,wc=wd:=⟨_,rfl⟩
      refine wpAnyH_ready (rs:=[9]) (by kernel_rfl) (by simp) ?_;refine AllReadyH.cons rfl (fun K hK=>?_) AllReadyH.nil;refine Qc5 (by rfl) 119 (.tmp 9) (.tmp 35) (by rfl) _ _ _ _ _ (by rfl) (by rfl) _ _ RY.out Qbf rfl rfl ?_;intro wd hst;have hgc:∀ j u,([.int .i64 0,.int .u64 (h.tim:Int),.slice none 0 0,.slice none 0 0,.int .i64 0,.int .u64 (h.seq:Int),.slice none 0 0,.slice none 0 0]:List Value)[j]?=some u→wd.cell? ⟨g,j,none⟩=some u:=fun j u hj=>(World.cell?_of_block (hst.2.2.2 g (fun e=>NE.out e.symm))).trans (GC.out j u hj)
      have VI:Hid (RdI wd wd.heap.size (zv6 4 0 none 0 0 (some ⟨g,0,none⟩) 2 cap) X6):=by
       rw[HX6.out]
       exact RdI.mk_list (by decide) CP.out (by decide) rfl (by rw[hst.2.2.1];exact LG.out) (Qee HNB.out.2.1 HNB.out.2.2.1 hgc)
      have RW:=hid hst.1;have LY:Hid (w6.heap.size≤gy):=LYG.out;have BN:=hid (hst.2.1 _ _ BC.out LY.out);refine hK.out _ _ (Qac QB.out BN.out SZ6.out) (fun hHeld=>?_);try simp only[zs]
      clear hK K hHeld;refine wpAnyH_done (by kernel_rfl) ?_ _;go_wp2_with fail;go_meet
      case rel=>exact⟨gy,g,cap,rfl,RW.out,VI.out,BN.out⟩
     refine AllReadyH.cons rfl (fun K hK=>?_) AllReadyH.nil;have LYG:Hid (w6.heap.size≤wc.heap.size):=BC.out.size;rw[if_pos (by rfl)]
     go_simp
     obtain⟨wd,hwd⟩:∃ wd,wd=wc.alloc zk0:=⟨_,rfl⟩
     have hb:Below wc.heap.size wc wd:=by rw[hwd];exact zb
     have RY:=hid (show wd.heap[wc.heap.size]?=some (.cells #[.int .i64 0,.int .u64 0,.slice none 0 0,.slice none 0 0] 119 (0,0)) by rw[hwd];exact heap_alloc_new wc zk0);rw[← hwd]
     clear hwd;have RB2:=hid (RB.out.below hb);clear RB;have RB:=RB2;clear RB2;have BN:=hid (BC.out.trans (hb.mono BC.out.size));clear BC hb;have BC:=BN;clear BN;refine hK.out _ _ (Qac QB.out BC.out SZ6.out) (fun hHeld=>?_);try simp only[zs]
     clear hK K hHeld;generalize wc.heap.size=gy at *;clear wc;obtain⟨wc,rfl⟩:∃ wc,wc=wd:=⟨_,rfl⟩
     refine wpAnyH_ready (rs:=[7]) (by kernel_rfl) (by simp) ?_;refine AllReadyH.cons rfl (fun K hK=>?_) AllReadyH.nil;rw[if_pos (by rfl)]
     go_simp
     refine(Qde gb 0 2 2 [.int .i64 0,.int .u64 (h.tim:Int),.slice none 0 0,.slice none 0 0,.int .i64 0,.int .u64 (h.seq:Int),.slice none 0 0,.slice none 0 0] wc RB.out.1 rfl (fun j u hj=>by rw[Nat.zero_add,← Qi9];exact RB.out.2 j u hj) (fun v hv=>List.all_eq_true.1 (show([.int .i64 0,.int .u64 (h.tim:Int),.slice none 0 0,.slice none 0 0,.int .i64 0,.int .u64 (h.seq:Int),.slice none 0 0,.slice none 0 0]:List Value).all (·.oneCell')=true from rfl) v hv) (by decide) (by decide)).mono ?_;rintro e wd ⟨g,cap,rfl,hlg,hgs,hcap,hgc,hb⟩;have GC:=hid hgc;have LG:=hid hgs;have CP:=hid hcap;have NE:Hid (gy≠g):=by show _≠_;have:=Qaf RY.out;omega
     clear hlg hgs hcap hgc RB;have RY2:=hid (Qac RY.out hb (Qaf RY.out));clear RY;have RY:=RY2;clear RY2;go_simp
     have BN:=hid (BC.out.trans (hb.mono BC.out.size));clear BC hb;have BC:=BN;clear BN;refine hK.out _ _ (Qac QB.out BC.out SZ6.out) (fun hHeld=>?_);try simp only[zs]
     clear hK K hHeld;clear wc;obtain⟨wc,rfl⟩:∃ wc,wc=wd:=⟨_,rfl⟩
     refine wpAnyH_ready (rs:=[9]) (by kernel_rfl) (by simp) ?_;refine AllReadyH.cons rfl (fun K hK=>?_) AllReadyH.nil;refine Qc5 (by rfl) 119 (.tmp 9) (.tmp 35) (by rfl) _ _ _ _ _ (by rfl) (by rfl) _ _ RY.out Qbf rfl rfl ?_;intro wd hst;have hgc:∀ j u,([.int .i64 0,.int .u64 (h.tim:Int),.slice none 0 0,.slice none 0 0,.int .i64 0,.int .u64 (h.seq:Int),.slice none 0 0,.slice none 0 0]:List Value)[j]?=some u→wd.cell? ⟨g,j,none⟩=some u:=fun j u hj=>(World.cell?_of_block (hst.2.2.2 g (fun e=>NE.out e.symm))).trans (GC.out j u hj)
     have VI:Hid (RdI wd wd.heap.size (zv6 4 0 none 0 0 (some ⟨g,0,none⟩) 2 cap) X6):=by
      rw[HX6.out]
      exact RdI.mk_list (by decide) CP.out (by decide) rfl (by rw[hst.2.2.1];exact LG.out) (Qee HNB.out.2.1 HNB.out.2.2.1 hgc)
     have RW:=hid hst.1;have LY:Hid (w6.heap.size≤gy):=LYG.out;have BN:=hid (hst.2.1 _ _ BC.out LY.out);refine hK.out _ _ (Qac QB.out BN.out SZ6.out) (fun hHeld=>?_);try simp only[zs]
     clear hK K hHeld;refine wpAnyH_done (by kernel_rfl) ?_ _;go_wp2_with fail;go_meet
     case rel=>exact⟨gy,g,cap,rfl,RW.out,VI.out,BN.out⟩
    refine AllReadyH.cons rfl (fun K hK=>?_) AllReadyH.nil;have LYG:Hid (w6.heap.size≤wc.heap.size):=BC.out.size;rw[if_pos (by rfl)]
    go_simp
    obtain⟨wd,hwd⟩:∃ wd,wd=wc.alloc zk0:=⟨_,rfl⟩
    have hb:Below wc.heap.size wc wd:=by rw[hwd];exact zb
    have RY:=hid (show wd.heap[wc.heap.size]?=some (.cells #[.int .i64 0,.int .u64 0,.slice none 0 0,.slice none 0 0] 119 (0,0)) by rw[hwd];exact heap_alloc_new wc zk0);rw[← hwd]
    clear hwd;have BN:=hid (BC.out.trans (hb.mono BC.out.size));clear BC hb;have BC:=BN;clear BN;refine hK.out _ _ (Qac QB.out BC.out SZ6.out) (fun hHeld=>?_);try simp only[zs]
    clear hK K hHeld;generalize wc.heap.size=gy at *;clear wc;obtain⟨wc,rfl⟩:∃ wc,wc=wd:=⟨_,rfl⟩
    refine wpAnyH_ready (rs:=[6]) (by kernel_rfl) (by simp) ?_;refine AllReadyH.cons rfl (fun K hK=>?_) AllReadyH.nil;rw[if_pos (by rfl)]
    go_simp
    obtain⟨wd,hwd⟩:∃ wd,wd=wc.alloc (zo7 0 h.tim none 0 0 none 0 0 0 h.seq none 0 0 none 0 0):=⟨_,rfl⟩
    have hb:Below wc.heap.size wc wd:=by rw[hwd];exact zb
    have RB:=hid (show RowAt wd wc.heap.size [.int .i64 0,.int .u64 (h.tim:Int),.slice none 0 0,.slice none 0 0,.int .i64 0,.int .u64 (h.seq:Int),.slice none 0 0,.slice none 0 0] by rw[hwd];exact RowAt.made wc #[.int .i64 0,.int .u64 (h.tim:Int),.slice none 0 0,.slice none 0 0,.int .i64 0,.int .u64 (h.seq:Int),.slice none 0 0,.slice none 0 0] 119);rw[← hwd]
    clear hwd;have RY2:=hid (Qac RY.out hb (Qaf RY.out));clear RY;have RY:=RY2;clear RY2;have BN:=hid (BC.out.trans (hb.mono BC.out.size));clear BC hb;have BC:=BN;clear BN;refine hK.out _ _ (Qac QB.out BC.out SZ6.out) (fun hHeld=>?_);try simp only[zs]
    clear hK K hHeld;generalize wc.heap.size=gb at *;clear wc;obtain⟨wc,rfl⟩:∃ wc,wc=wd:=⟨_,rfl⟩
    refine wpAnyH_ready (rs:=[7]) (by kernel_rfl) (by simp) ?_;refine AllReadyH.cons rfl (fun K hK=>?_) AllReadyH.nil;rw[if_pos (by rfl)]
    go_simp
    refine(Qde gb 0 2 2 [.int .i64 0,.int .u64 (h.tim:Int),.slice none 0 0,.slice none 0 0,.int .i64 0,.int .u64 (h.seq:Int),.slice none 0 0,.slice none 0 0] wc RB.out.1 rfl (fun j u hj=>by rw[Nat.zero_add,← Qi9];exact RB.out.2 j u hj) (fun v hv=>List.all_eq_true.1 (show([.int .i64 0,.int .u64 (h.tim:Int),.slice none 0 0,.slice none 0 0,.int .i64 0,.int .u64 (h.seq:Int),.slice none 0 0,.slice none 0 0]:List Value).all (·.oneCell')=true from rfl) v hv) (by decide) (by decide)).mono ?_;rintro e wd ⟨g,cap,rfl,hlg,hgs,hcap,hgc,hb⟩;have GC:=hid hgc;have LG:=hid hgs;have CP:=hid hcap;have NE:Hid (gy≠g):=by show _≠_;have:=Qaf RY.out;omega
    clear hlg hgs hcap hgc RB;have RY2:=hid (Qac RY.out hb (Qaf RY.out));clear RY;have RY:=RY2;clear RY2;go_simp
    have BN:=hid (BC.out.trans (hb.mono BC.out.size));clear BC hb;have BC:=BN;clear BN;refine hK.out _ _ (Qac QB.out BC.out SZ6.out) (fun hHeld=>?_);try simp only[zs]
    clear hK K hHeld;clear wc;obtain⟨wc,rfl⟩:∃ wc,wc=wd:=⟨_,rfl⟩
    refine wpAnyH_ready (rs:=[9]) (by kernel_rfl) (by simp) ?_;refine AllReadyH.cons rfl (fun K hK=>?_) AllReadyH.nil;refine Qc5 (by rfl) 119 (.tmp 9) (.tmp 35) (by rfl) _ _ _ _ _ (by rfl) (by rfl) _ _ RY.out Qbf rfl rfl ?_;intro wd hst;have hgc:∀ j u,([.int .i64 0,.int .u64 (h.tim:Int),.slice none 0 0,.slice none 0 0,.int .i64 0,.int .u64 (h.seq:Int),.slice none 0 0,.slice none 0 0]:List Value)[j]?=some u→wd.cell? ⟨g,j,none⟩=some u:=fun j u hj=>(World.cell?_of_block (hst.2.2.2 g (fun e=>NE.out e.symm))).trans (GC.out j u hj)
    have VI:Hid (RdI wd wd.heap.size (zv6 4 0 none 0 0 (some ⟨g,0,none⟩) 2 cap) X6):=by
     rw[HX6.out]
     exact RdI.mk_list (by decide) CP.out (by decide) rfl (by rw[hst.2.2.1];exact LG.out) (Qee HNB.out.2.1 HNB.out.2.2.1 hgc)
    have RW:=hid hst.1;have LY:Hid (w6.heap.size≤gy):=LYG.out;have BN:=hid (hst.2.1 _ _ BC.out LY.out);refine hK.out _ _ (Qac QB.out BN.out SZ6.out) (fun hHeld=>?_);try simp only[zs]
    clear hK K hHeld;refine wpAnyH_done (by kernel_rfl) ?_ _;go_wp2_with fail;go_meet
    case rel=>exact⟨gy,g,cap,rfl,RW.out,VI.out,BN.out⟩
   refine AllReadyH.cons rfl (fun K hK=>?_) AllReadyH.nil;have LYG:Hid (w6.heap.size≤wc.heap.size):=BC.out.size;rw[if_pos (by rfl)]
   go_simp
   obtain⟨wd,hwd⟩:∃ wd,wd=wc.alloc zk0:=⟨_,rfl⟩
   have hb:Below wc.heap.size wc wd:=by rw[hwd];exact zb
   have RY:=hid (show wd.heap[wc.heap.size]?=some (.cells #[.int .i64 0,.int .u64 0,.slice none 0 0,.slice none 0 0] 119 (0,0)) by rw[hwd];exact heap_alloc_new wc zk0);rw[← hwd]
   clear hwd;have BN:=hid (BC.out.trans (hb.mono BC.out.size));clear BC hb;have BC:=BN;clear BN;refine hK.out _ _ (Qac QB.out BC.out SZ6.out) (fun hHeld=>?_);try simp only[zs]
   clear hK K hHeld;generalize wc.heap.size=gy at *;clear wc;obtain⟨wc,rfl⟩:∃ wc,wc=wd:=⟨_,rfl⟩
   refine wpAnyH_ready (rs:=[5]) (by kernel_rfl) (by simp) ?_;refine AllReadyH.cons rfl (fun K hK=>?_) AllReadyH.nil;rw[if_pos (by rfl)]
   go_simp
   refine(Qdd (h.seq:Int) _).mono ?_;rintro e wd ⟨rfl,hb⟩;have RY2:=hid (Qac RY.out hb (Qaf RY.out));clear RY;have RY:=RY2;clear RY2;go_simp
   have BN:=hid (BC.out.trans (hb.mono BC.out.size));clear BC hb;have BC:=BN;clear BN;refine hK.out _ _ (Qac QB.out BC.out SZ6.out) (fun hHeld=>?_);try simp only[zs]
   clear hK K hHeld;clear wc;obtain⟨wc,rfl⟩:∃ wc,wc=wd:=⟨_,rfl⟩
   refine wpAnyH_ready (rs:=[6]) (by kernel_rfl) (by simp) ?_;refine AllReadyH.cons rfl (fun K hK=>?_) AllReadyH.nil;rw[if_pos (by rfl)]
   go_simp
   obtain⟨wd,hwd⟩:∃ wd,wd=wc.alloc (zo7 0 h.tim none 0 0 none 0 0 0 h.seq none 0 0 none 0 0):=⟨_,rfl⟩
   have hb:Below wc.heap.size wc wd:=by rw[hwd];exact zb
   have RB:=hid (show RowAt wd wc.heap.size [.int .i64 0,.int .u64 (h.tim:Int),.slice none 0 0,.slice none 0 0,.int .i64 0,.int .u64 (h.seq:Int),.slice none 0 0,.slice none 0 0] by rw[hwd];exact RowAt.made wc #[.int .i64 0,.int .u64 (h.tim:Int),.slice none 0 0,.slice none 0 0,.int .i64 0,.int .u64 (h.seq:Int),.slice none 0 0,.slice none 0 0] 119);rw[← hwd]
   clear hwd;have RY2:=hid (Qac RY.out hb (Qaf RY.out));clear RY;have RY:=RY2;clear RY2;have BN:=hid (BC.out.trans (hb.mono BC.out.size));clear BC hb;have BC:=BN;clear BN;refine hK.out _ _ (Qac QB.out BC.out SZ6.out) (fun hHeld=>?_);try simp only[zs]
   clear hK K hHeld;generalize wc.heap.size=gb at *;clear wc;obtain⟨wc,rfl⟩:∃ wc,wc=wd:=⟨_,rfl⟩
   refine wpAnyH_ready (rs:=[7]) (by kernel_rfl) (by simp) ?_;refine AllReadyH.cons rfl (fun K hK=>?_) AllReadyH.nil;rw[if_pos (by rfl)]
   go_simp
   refine(Qde gb 0 2 2 [.int .i64 0,.int .u64 (h.tim:Int),.slice none 0 0,.slice none 0 0,.int .i64 0,.int .u64 (h.seq:Int),.slice none 0 0,.slice none 0 0] wc RB.out.1 rfl (fun j u hj=>by rw[Nat.zero_add,← Qi9];exact RB.out.2 j u hj) (fun v hv=>List.all_eq_true.1 (show([.int .i64 0,.int .u64 (h.tim:Int),.slice none 0 0,.slice none 0 0,.int .i64 0,.int .u64 (h.seq:Int),.slice none 0 0,.slice none 0 0]:List Value).all (·.oneCell')=true from rfl) v hv) (by decide) (by decide)).mono ?_;rintro e wd ⟨g,cap,rfl,hlg,hgs,hcap,hgc,hb⟩;have GC:=hid hgc;have LG:=hid hgs;have CP:=hid hcap;have NE:Hid (gy≠g):=by show _≠_;have:=Qaf RY.out;omega
   clear hlg hgs hcap hgc RB;have RY2:=hid (Qac RY.out hb (Qaf RY.out));clear RY;have RY:=RY2;clear RY2;go_simp
   have BN:=hid (BC.out.trans (hb.mono BC.out.size));clear BC hb;have BC:=BN;clear BN;refine hK.out _ _ (Qac QB.out BC.out SZ6.out) (fun hHeld=>?_);try simp only[zs]
   clear hK K hHeld;clear wc;obtain⟨wc,rfl⟩:∃ wc,wc=wd:=⟨_,rfl⟩
   refine wpAnyH_ready (rs:=[9]) (by kernel_rfl) (by simp) ?_;refine AllReadyH.cons rfl (fun K hK=>?_) AllReadyH.nil;refine Qc5 (by rfl) 119 (.tmp 9) (.tmp 35) (by rfl) _ _ _ _ _ (by rfl) (by rfl) _ _ RY.out Qbf rfl rfl ?_;intro wd hst;have hgc:∀ j u,([.int .i64 0,.int .u64 (h.tim:Int),.slice none 0 0,.slice none 0 0,.int .i64 0,.int .u64 (h.seq:Int),.slice none 0 0,.slice none 0 0]:List Value)[j]?=some u→wd.cell? ⟨g,j,none⟩=some u:=fun j u hj=>(World.cell?_of_block (hst.2.2.2 g (fun e=>NE.out e.symm))).trans (GC.out j u hj)
   have VI:Hid (RdI wd wd.heap.size (zv6 4 0 none 0 0 (some ⟨g,0,none⟩) 2 cap) X6):=by
    rw[HX6.out]
    exact RdI.mk_list (by decide) CP.out (by decide) rfl (by rw[hst.2.2.1];exact LG.out) (Qee HNB.out.2.1 HNB.out.2.2.1 hgc)
   have RW:=hid hst.1;have LY:Hid (w6.heap.size≤gy):=LYG.out;have BN:=hid (hst.2.1 _ _ BC.out LY.out);refine hK.out _ _ (Qac QB.out BN.out SZ6.out) (fun hHeld=>?_);try simp only[zs]
   clear hK K hHeld;refine wpAnyH_done (by kernel_rfl) ?_ _;go_wp2_with fail;go_meet
   case rel=>exact⟨gy,g,cap,rfl,RW.out,VI.out,BN.out⟩
  refine AllReadyH.cons rfl (fun K hK=>?_) AllReadyH.nil;have LYG:Hid (w6.heap.size≤wc.heap.size):=BC.out.size;rw[if_pos (by rfl)]
  go_simp
  obtain⟨wd,hwd⟩:∃ wd,wd=wc.alloc zk0:=⟨_,rfl⟩
  have hb:Below wc.heap.size wc wd:=by rw[hwd];exact zb
  have RY:=hid (show wd.heap[wc.heap.size]?=some (.cells #[.int .i64 0,.int .u64 0,.slice none 0 0,.slice none 0 0] 119 (0,0)) by rw[hwd];exact heap_alloc_new wc zk0);rw[← hwd]
  clear hwd;have BN:=hid (BC.out.trans (hb.mono BC.out.size));clear BC hb;have BC:=BN;clear BN;refine hK.out _ _ (Qac QB.out BC.out SZ6.out) (fun hHeld=>?_);try simp only[zs]
  clear hK K hHeld;generalize wc.heap.size=gy at *;clear wc;obtain⟨wc,rfl⟩:∃ wc,wc=wd:=⟨_,rfl⟩
  refine wpAnyH_ready (rs:=[2]) (by kernel_rfl) (by simp) ?_;refine AllReadyH.cons rfl (fun K hK=>?_) AllReadyH.nil;rw[if_pos (by rfl)]
  go_simp
  refine(Qdd (h.tim:Int) _).mono ?_;rintro e wd ⟨rfl,hb⟩;have RY2:=hid (Qac RY.out hb (Qaf RY.out));clear RY;have RY:=RY2;clear RY2;go_simp
  have BN:=hid (BC.out.trans (hb.mono BC.out.size));clear BC hb;have BC:=BN;clear BN;refine hK.out _ _ (Qac QB.out BC.out SZ6.out) (fun hHeld=>?_);try simp only[zs]
  clear hK K hHeld;clear wc;obtain⟨wc,rfl⟩:∃ wc,wc=wd:=⟨_,rfl⟩
  refine wpAnyH_ready (rs:=[5]) (by kernel_rfl) (by simp) ?_;refine AllReadyH.cons rfl (fun K hK=>?_) AllReadyH.nil;rw[if_pos (by rfl)]
  go_simp
  refine(Qdd (h.seq:Int) _).mono ?_;rintro e wd ⟨rfl,hb⟩;have RY2:=hid (Qac RY.out hb (Qaf RY.out));clear RY;have RY:=RY2;clear RY2;go_simp
  have BN:=hid (BC.out.trans (hb.mono BC.out.size));clear BC hb;have BC:=BN;clear BN;refine hK.out _ _ (Qac QB.out BC.out SZ6.out) (fun hHeld=>?_);try simp only[zs]
  clear hK K hHeld;clear wc;obtain⟨wc,rfl⟩:∃ wc,wc=wd:=⟨_,rfl⟩
  refine wpAnyH_ready (rs:=[6]) (by kernel_rfl) (by simp) ?_;refine AllReadyH.cons rfl (fun K hK=>?_) AllReadyH.nil;rw[if_pos (by rfl)]
  go_simp
  obtain⟨wd,hwd⟩:∃ wd,wd=wc.alloc (zo7 0 h.tim none 0 0 none 0 0 0 h.seq none 0 0 none 0 0):=⟨_,rfl⟩
  have hb:Below wc.heap.size wc wd:=by rw[hwd];exact zb
  have RB:=hid (show RowAt wd wc.heap.size [.int .i64 0,.int .u64 (h.tim:Int),.slice none 0 0,.slice none 0 0,.int .i64 0,.int .u64 (h.seq:Int),.slice none 0 0,.slice none 0 0] by rw[hwd];exact RowAt.made wc #[.int .i64 0,.int .u64 (h.tim:Int),.slice none 0 0,.slice none 0 0,.int .i64 0,.int .u64 (h.seq:Int),.slice none 0 0,.slice none 0 0] 119);rw[← hwd]
  clear hwd;have RY2:=hid (Qac RY.out hb (Qaf RY.out));clear RY;have RY:=RY2;clear RY2;have BN:=hid (BC.out.trans (hb.mono BC.out.size));clear BC hb;have BC:=BN;clear BN;refine hK.out _ _ (Qac QB.out BC.out SZ6.out) (fun hHeld=>?_);try simp only[zs]
  clear hK K hHeld;generalize wc.heap.size=gb at *;clear wc;obtain⟨wc,rfl⟩:∃ wc,wc=wd:=⟨_,rfl⟩
  refine wpAnyH_ready (rs:=[7]) (by kernel_rfl) (by simp) ?_;refine AllReadyH.cons rfl (fun K hK=>?_) AllReadyH.nil;rw[if_pos (by rfl)]
  go_simp
  refine(Qde gb 0 2 2 [.int .i64 0,.int .u64 (h.tim:Int),.slice none 0 0,.slice none 0 0,.int .i64 0,.int .u64 (h.seq:Int),.slice none 0 0,.slice none 0 0] wc RB.out.1 rfl (fun j u hj=>by rw[Nat.zero_add,← Qi9];exact RB.out.2 j u hj) (fun v hv=>List.all_eq_true.1 (show([.int .i64 0,.int .u64 (h.tim:Int),.slice none 0 0,.slice none 0 0,.int .i64 0,.int .u64 (h.seq:Int),.slice none 0 0,.slice none 0 0]:List Value).all (·.oneCell')=true from rfl) v hv) (by decide) (by decide)).mono ?_;rintro e wd ⟨g,cap,rfl,hlg,hgs,hcap,hgc,hb⟩;have GC:=hid hgc;have LG:=hid hgs;have CP:=hid hcap;have NE:Hid (gy≠g):=by show _≠_;have:=Qaf RY.out;omega
  clear hlg hgs hcap hgc RB;have RY2:=hid (Qac RY.out hb (Qaf RY.out));clear RY;have RY:=RY2;clear RY2;go_simp
  have BN:=hid (BC.out.trans (hb.mono BC.out.size));clear BC hb;have BC:=BN;clear BN;refine hK.out _ _ (Qac QB.out BC.out SZ6.out) (fun hHeld=>?_);try simp only[zs]
  clear hK K hHeld;clear wc;obtain⟨wc,rfl⟩:∃ wc,wc=wd:=⟨_,rfl⟩
  refine wpAnyH_ready (rs:=[9]) (by kernel_rfl) (by simp) ?_;refine AllReadyH.cons rfl (fun K hK=>?_) AllReadyH.nil;refine Qc5 (by rfl) 119 (.tmp 9) (.tmp 35) (by rfl) _ _ _ _ _ (by rfl) (by rfl) _ _ RY.out Qbf rfl rfl ?_;intro wd hst;have hgc:∀ j u,([.int .i64 0,.int .u64 (h.tim:Int),.slice none 0 0,.slice none 0 0,.int .i64 0,.int .u64 (h.seq:Int),.slice none 0 0,.slice none 0 0]:List Value)[j]?=some u→wd.cell? ⟨g,j,none⟩=some u:=fun j u hj=>(World.cell?_of_block (hst.2.2.2 g (fun e=>NE.out e.symm))).trans (GC.out j u hj)
  have VI:Hid (RdI wd wd.heap.size (zv6 4 0 none 0 0 (some ⟨g,0,none⟩) 2 cap) X6):=by
   rw[HX6.out]
   exact RdI.mk_list (by decide) CP.out (by decide) rfl (by rw[hst.2.2.1];exact LG.out) (Qee HNB.out.2.1 HNB.out.2.2.1 hgc)
  have RW:=hid hst.1;have LY:Hid (w6.heap.size≤gy):=LYG.out;have BN:=hid (hst.2.1 _ _ BC.out LY.out);refine hK.out _ _ (Qac QB.out BN.out SZ6.out) (fun hHeld=>?_);try simp only[zs]
  clear hK K hHeld;refine wpAnyH_done (by kernel_rfl) ?_ _;go_wp2_with fail;go_meet
  case rel=>exact⟨gy,g,cap,rfl,RW.out,VI.out,BN.out⟩
 case rest =>
  obtain⟨gy,g,cap,rfl,hrow,hrd,hbt⟩:=hcut.out;have QY:=hid hrow;have PY:=hid hrd;have BT:=hid hbt;have RB:=hid (Qac QB.out hbt SZ6.out);have R2:=hid (Qac Q2.out hbt (Qaf Q2.out));have R4:=hid (Qac Q4.out hbt (Qaf Q4.out));have R6:=hid (Qac Q6.out hbt (Qaf Q6.out));clear hcut hrow hrd hbt;go_wp2_with fail;refine wp_region_held_drew (S:=fun W=>Below wc.heap.size wc W) (by kernel_rfl) Below.drew_ (fun hHeld=>?_);have BC:Hid (Below wc.heap.size wc wc.drew):=Below.drew_;refine Qao (i:=1) (v:=?v1_5) rfl (by kernel_rfl) (by kernel_rfl) (by kernel_rfl) (fun _ _ _ h=>h) (by rfl) ?hy1_5 (by assumption) ?rest1_5
  case hy1_5=>(intro W hSw;go_simp;try with_reducible rfl)
  try simp only[zs]
  refine Qao (i:=2) (v:=?v2_6) rfl (by kernel_rfl) (by kernel_rfl) (by kernel_rfl) (fun _ _ _ h=>h) (by rfl) ?hy2_6 (by assumption) ?rest2_6
  case hy2_6=>(intro W hSw;have x0:=Qab (Qac RB.out hSw (Qaf RB.out)) 0 rfl;go_simp;try with_reducible rfl)
  try simp only[zs]
  refine Qao (i:=4) (v:=?v4_7) rfl (by kernel_rfl) (by kernel_rfl) (by kernel_rfl) (fun _ _ _ h=>h) (by rfl) ?hy4_7 (by assumption) ?rest4_7
  case hy4_7=>(intro W hSw;go_simp;try with_reducible rfl)
  try simp only[zs]
  refine Qao (i:=5) (v:=?v5_8) rfl (by kernel_rfl) (by kernel_rfl) (by kernel_rfl) (fun _ _ _ h=>h) (by rfl) ?hy5_8 (by assumption) ?rest5_8
  case hy5_8=>(intro W hSw;have x1:=Qab (Qac RB.out hSw (Qaf RB.out)) 1 rfl;rw[HCR.out] at x1;go_simp;try with_reducible rfl)
  try simp only[zs]
  refine Qao (i:=6) (v:=?v6_9) rfl (by kernel_rfl) (by kernel_rfl) (by kernel_rfl) (fun _ _ _ h=>h) (by rfl) ?hy6_9 (by assumption) ?rest6_9
  case hy6_9=>(intro W hSw;go_simp;try with_reducible rfl)
  try simp only[zs]
  refine Qao (i:=12) (v:=?v12_10) rfl (by kernel_rfl) (by kernel_rfl) (by kernel_rfl) (fun _ _ _ h=>h) (by rfl) ?hy12_10 (by assumption) ?rest12_10
  case hy12_10=>(intro W hSw;go_simp;try with_reducible rfl)
  try simp only[zs]
  refine Qao (i:=13) (v:=?v13_11) rfl (by kernel_rfl) (by kernel_rfl) (by kernel_rfl) (fun _ _ _ h=>h) (by rfl) ?hy13_11 (by assumption) ?rest13_11
  case hy13_11=>(intro W hSw;have x16:=Qab (Qac RB.out hSw (Qaf RB.out)) 16 rfl;go_simp;try with_reducible rfl)
  try simp only[zs]
  refine Qao (i:=8) rfl (by kernel_rfl) (by kernel_rfl) (by kernel_rfl) (fun _ _ _ h=>h) (by rfl) (fun W hW=>Qd7 rfl rfl (Qac R2.out hW (Qaf R2.out)) rfl) (by assumption) ?_;try simp only[zs]
  refine Qao (i:=9) rfl (by kernel_rfl) (by kernel_rfl) (by kernel_rfl) (fun _ _ _ h=>h) (by rfl) (fun W hW=>Qd7 rfl rfl (Qac R4.out hW (Qaf R4.out)) rfl) (by assumption) ?_;try simp only[zs]
  refine Qao (i:=10) rfl (by kernel_rfl) (by kernel_rfl) (by kernel_rfl) (fun _ _ _ h=>h) (by rfl) (fun W hW=>Qd7 rfl rfl (Qac R6.out hW (Qaf R6.out)) rfl) (by assumption) ?_;try simp only[zs]
  refine Qao (i:=11) rfl (by kernel_rfl) (by kernel_rfl) (by kernel_rfl) (fun _ _ _ h=>h) (by rfl) (fun W hW=>Qd7 rfl rfl (Qac QY.out hW (Qaf QY.out)) rfl) (by assumption) ?_;try simp only[zs]
  refine wpAnyH_ready (rs:=[0]) (by kernel_rfl) (by simp) ?_;refine AllReadyH.cons rfl (fun K hK=>?_) AllReadyH.nil;rw[if_pos (by rfl)]
  go_simp
  refine(Qdd 7 _).mono ?_;rintro e wa ⟨rfl,hb⟩;replace BC:=hid (BC.out.trans (hb.mono BC.out.size));clear hb;go_simp
  refine hK.out _ _ BC.out (fun hHeld=>?_);try simp only[zs]
  clear hK K;refine wpAnyH_ready (rs:=[3]) (by kernel_rfl) (by simp) ?_;refine AllReadyH.cons rfl (fun K hK=>?_) AllReadyH.nil;rw[if_pos (by rfl)]
  go_simp
  refine(Qdd (h.flg:Int) _).mono ?_;rintro e wb ⟨rfl,hb⟩;replace BC:=hid (BC.out.trans (hb.mono BC.out.size));clear hb;go_simp
  refine hK.out _ _ BC.out (fun hHeld=>?_);try simp only[zs]
  clear hK K;refine wpAnyH_ready (rs:=[7]) (by kernel_rfl) (by simp) ?_;refine AllReadyH.cons rfl (fun K hK=>?_) AllReadyH.nil;rw[if_pos (by rfl)]
  go_simp
  refine(Qdd (C:Int) _).mono ?_;rintro e wd ⟨rfl,hb⟩;replace BC:=hid (BC.out.trans (hb.mono BC.out.size));clear hb;go_simp
  refine hK.out _ _ BC.out (fun hHeld=>?_);try simp only[zs]
  clear hK K;refine wpAnyH_ready (rs:=[14]) (by kernel_rfl) (by simp) ?_;refine AllReadyH.cons rfl (fun K hK=>?_) AllReadyH.nil;rw[if_pos (by rfl)]
  go_simp
  refine(Qdd (h.lif:Int) _).mono ?_;rintro e we ⟨rfl,hb⟩;replace BC:=hid (BC.out.trans (hb.mono BC.out.size));clear hb;go_simp
  refine hK.out _ _ BC.out (fun hHeld=>?_);try simp only[zs]
  clear hK K;refine wpAnyH_ready (rs:=[15]) (by kernel_rfl) (by simp) ?_;refine AllReadyH.cons rfl (fun K hK=>?_) AllReadyH.nil;rw[if_pos (by rfl)]
  go_simp
  have hit:ItC (Qap (Qax 0) we) we.heap.size [.int .i64 0,.int .u64 7,.slice none 0 0,.slice none 0 0,.int .i64 0,.int .u64 (h.flg:Int),.slice none 0 0,.slice none 0 0,.int .i64 0,.int .u64 (C:Int),.slice none 0 0,.slice none 0 0,.int .i64 k1,.int .u64 (n1:Int),.slice A1 nd1 cd1,.slice AL1 nl1 cl1,.int .i64 k3,.int .u64 (n3:Int),.slice A3 nd3 cd3,.slice AL3 nl3 cl3,.int .i64 k5,.int .u64 (n5:Int),.slice A5 nd5 cd5,.slice AL5 nl5 cl5,.int .i64 4,.int .u64 0,.slice none 0 0,.slice (some ⟨g,0,none⟩) 2 cap,.int .i64 0,.int .u64 (h.lif:Int),.slice none 0 0,.slice none 0 0] [.mk 0 7 [] [],.mk 0 h.flg [] [],.mk 0 C [] [],X1,X2,X3,X6,.mk 0 h.lif [] []]:=⟨RdI.mk_uint (n:=7) (by decide),RdI.mk_uint HNB.out.1,RdI.mk_uint HCB.out,RdI.mask0 ((P1.out.below (BT.out.trans (BC.out.mono BT.out.size))).more (BT.out.trans (BC.out.mono BT.out.size)).size),RdI.mask0 ((P3.out.below (BT.out.trans (BC.out.mono BT.out.size))).more (BT.out.trans (BC.out.mono BT.out.size)).size),RdI.mask0 ((P5.out.below (BT.out.trans (BC.out.mono BT.out.size))).more (BT.out.trans (BC.out.mono BT.out.size)).size),RdI.mask0 ((PY.out.below BC.out).more BC.out.size),RdI.mk_uint HNB.out.2.2.2,trivial⟩
  have HROW:=hid (RdIs.unmask (by simp) (ItL.row (t:=119) (Nat.zero_le _) hit));have BN:=hid (BC.out.alloc BC.out.size (zo5 0 7 none 0 0 none 0 0 0 h.flg none 0 0 none 0 0 0 C none 0 0 none 0 0 k1 n1 A1 nd1 cd1 AL1 nl1 cl1 k3 n3 A3 nd3 cd3 AL3 nl3 cl3 k5 n5 A5 nd5 cd5 AL5 nl5 cl5 4 0 none 0 0 (some ⟨g,0,none⟩) 2 cap 0 h.lif none 0 0 none 0 0));clear hit;refine hK.out _ _ BN.out (fun hHeld=>?_);try simp only[zs]
  clear hK K;refine Qao (i:=16) (v:=?v16_12) rfl (by kernel_rfl) (by kernel_rfl) (by kernel_rfl) (fun _ _ _ h=>h) (by rfl) ?hy16_12 (by assumption) ?rest16_12
  case hy16_12=>(intro W hSw;go_simp;try with_reducible rfl)
  try simp only[zs]
  refine wpAnyH_done (by kernel_rfl) ?_ _;go_wp2_with fail;go_ret;exact⟨_,rfl,by simp,HROW.out,HB0.out.trans ((B6.out.trans ((BT.out.trans (BN.out.mono BT.out.size)).mono SZ6.out)).mono (Nat.le_succ _))⟩
end Go.Proofs.YtbnfkjkoinbkgaaGreatDoor
