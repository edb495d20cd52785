/- BundleChanges of layer 6's statements, walked. (Made by gen/BunW5.py and gen/bun.py.) -/
import Derived.Test.YtldnokgdgafphaaGreatDoorJBunPu
import Derived.Test.YtldnokgdgafphaaGreatDoorJBunWk
import Derived.Test.YtldnokgdgafphaaGreatDoorJRfY
namespace Go.Proofs.YtldnokgdgafphaaGreatDoor
open Go.RowKit
theorem numZ_cau (b:Bun):numZ (cauU b)=cauU b∨cauU b=0:=by
  unfold cauU
  split
  · left;rfl
  · split
    · right;rfl
    · left;rfl
theorem put_both (h:BH) (l:List Blk) (x:Blk):∃ (hP:BH) (nP:Nat) (lP:List Blk) (zP:Int),
    (∀ w e w',PutZ h l x w e w'→Below w.heap.size w w'∧∃ (A:Option Addr) (c:Nat),e=.returned (.tuple #[bunV hP A nP c,.int .i64 zP])∧RdL w' w'.heap.size A nP lP)∧(∀ w e w',PutR h l x w e w'→Below w.heap.size w w'∧∃ (A:Option Addr) (c:Nat),e=.returned (.tuple #[bunV hP A nP c,.int .i64 zP])∧RdL w' w'.heap.size A nP lP):=by
  by_cases hp:cauU (h.bun l)=0∧cauU (h.bun (putB l x))=0
  · refine ⟨h,(putB l x).length,putB l x,0,?_,?_⟩
    · rintro w e w' ⟨hb,⟨-,-,A,n,c,rfl,hr,-⟩ | ⟨hn,-⟩⟩
      · obtain rfl:n=(putB l x).length:=hr.1.symm
        exact ⟨hb,A,c,rfl,hr.unmask_⟩
      · exact absurd hp hn
    · rintro w e w' ⟨hb,⟨-,-,A,n,c,rfl,hr,-⟩ | ⟨hn,-⟩⟩
      · obtain rfl:n=(putB l x).length:=hr.1.symm
        exact ⟨hb,A,c,rfl,hr⟩
      · exact absurd hp hn
  · refine ⟨BH.zero,0,[],(if cauU (h.bun l)=0 then cauU (h.bun (putB l x)) else cauU (h.bun l)),?_,?_⟩
    · rintro w e w' ⟨hb,⟨h1,h2,-⟩ | ⟨-,z,-,hz,rfl⟩⟩
      · exact absurd ⟨h1,h2⟩ hp
      · have e1:z=(if cauU (h.bun l)=0 then cauU (h.bun (putB l x)) else cauU (h.bun l)):=by
          rw [hz]
          split
          · rename_i h0
            rcases numZ_cau (h.bun (putB l x)) with h1 | h1
            · exact h1
            · exact absurd ⟨h0,h1⟩ hp
          · rename_i h0
            rcases numZ_cau (h.bun l) with h1 | h1
            · exact h1
            · exact absurd h1 h0
        subst e1
        exact ⟨hb,none,0,rfl,RdL.nil_⟩
    · rintro w e w' ⟨hb,⟨h1,h2,-⟩ | ⟨-,rfl⟩⟩
      · exact absurd ⟨h1,h2⟩ hp
      · exact ⟨hb,none,0,rfl,RdL.nil_⟩
theorem drop_both (h:BH) (l:List Blk) (q:Nat):∃ (hP:BH) (nP:Nat) (lP:List Blk) (zP:Int),
    (∀ w e w',DropZ h l q w e w'→Below w.heap.size w w'∧∃ (A:Option Addr) (c:Nat),e=.returned (.tuple #[bunV hP A nP c,.int .i64 zP])∧RdL w' w'.heap.size A nP lP)∧(∀ w e w',DropR h l q w e w'→Below w.heap.size w w'∧∃ (A:Option Addr) (c:Nat),e=.returned (.tuple #[bunV hP A nP c,.int .i64 zP])∧RdL w' w'.heap.size A nP lP):=by
  by_cases hp:cauU (h.bun l)=0∧0≤plc (pNum q) l 0∧plc (pNum q) l 0+1<(l.length:Int)
  · obtain ⟨k,hk⟩:∃ k:Nat,plc (pNum q) l 0=(k:Int):=⟨(plc (pNum q) l 0).toNat,by omega⟩
    refine ⟨h,(l.take k++l.drop (k+1)).length,l.take k++l.drop (k+1),0,?_,?_⟩
    · rintro w e w' ⟨hb,⟨k',-,hk',-,A,n,c,rfl,hr,-⟩ | ⟨hn,-⟩⟩
      · obtain rfl:k=k':=by omega
        obtain rfl:n=(l.take k++l.drop (k+1)).length:=hr.1.symm
        exact ⟨hb,A,c,rfl,hr.unmask_⟩
      · exact absurd hp hn
    · rintro w e w' ⟨hb,⟨k',-,hk',-,A,n,c,rfl,hr,-⟩ | ⟨hn,-⟩⟩
      · obtain rfl:k=k':=by omega
        obtain rfl:n=(l.take k++l.drop (k+1)).length:=hr.1.symm
        exact ⟨hb,A,c,rfl,hr⟩
      · exact absurd hp hn
  · refine ⟨BH.zero,0,[],(if cauU (h.bun l)=0 then 60 else cauU (h.bun l)),?_,?_⟩
    · rintro w e w' ⟨hb,⟨k,h1,h2,h3,-⟩ | ⟨-,z,-,hz,rfl⟩⟩
      · exact absurd ⟨h1,by omega,by omega⟩ hp
      · have e1:z=(if cauU (h.bun l)=0 then 60 else cauU (h.bun l)):=by
          rw [hz]
          split
          · rfl
          · rename_i h0
            rcases numZ_cau (h.bun l) with h1 | h1
            · exact h1
            · exact absurd h1 h0
        subst e1
        exact ⟨hb,none,0,rfl,RdL.nil_⟩
    · rintro w e w' ⟨hb,⟨k,h1,h2,h3,-⟩ | ⟨-,rfl⟩⟩
      · exact absurd ⟨h1,by omega,by omega⟩ hp
      · exact ⟨hb,none,0,rfl,RdL.nil_⟩
set_option maxRecDepth 100000 in
set_option maxHeartbeats 16000000 in
theorem bundleChanges_walkN (h:BH) (l:List Blk) (A:Option Addr) (n c:Nat) (x:Blk) (Ax:Option Addr) (nx cx:Nat) (q:Nat) (w:World) (S:Snt) (hin:BunIn w h l A n c) (hxin:BlkIn2 w x Ax nx cx) (hS:Wd S w) :
    Calls Tryz.prog 4 #[bunV h A n c,blkV x.typ x.num x.flg x.crc Ax nx cx,.int .u64 (q:Int)] w fun e w'=>e=.returned (.bool true)∧Below w.heap.size w w':=by
  obtain ⟨hd,hr,hc⟩:=hin
  obtain ⟨hbx,hnx,hrx⟩:=hxin
  have HB0:=Lib.hid (((Below.refl w.heap.size w).alloc (Nat.le_refl _) (.cells #[.int .u64 (h.flg:Int),.int .i64 h.crc,.int .i64 h.dsc,.string h.dnm,.int .u64 (h.dn:Int),.int .u64 (h.dv:Int),.int .i64 h.ssc,.string h.snm,.int .u64 (h.sn:Int),.int .u64 (h.sv:Int),.int .i64 h.rsc,.string h.rnm,.int .u64 (h.rn:Int),.int .u64 (h.rv:Int),.int .u64 (h.tim:Int),.int .u64 (h.seq:Int),.int .u64 (h.lif:Int),.slice A n c] 28)).alloc (le_alloc _ _) (.cells #[.int .u64 (x.typ:Int),.int .u64 (x.num:Int),.int .u64 (x.flg:Int),.int .i64 x.crc,.slice Ax nx cx] 43))
  have HW0:Hid (Below (w.heap.size+2) ((w.alloc (.cells #[.int .u64 (h.flg:Int),.int .i64 h.crc,.int .i64 h.dsc,.string h.dnm,.int .u64 (h.dn:Int),.int .u64 (h.dv:Int),.int .i64 h.ssc,.string h.snm,.int .u64 (h.sn:Int),.int .u64 (h.sv:Int),.int .i64 h.rsc,.string h.rnm,.int .u64 (h.rn:Int),.int .u64 (h.rv:Int),.int .u64 (h.tim:Int),.int .u64 (h.seq:Int),.int .u64 (h.lif:Int),.slice A n c] 28)).alloc (.cells #[.int .u64 (x.typ:Int),.int .u64 (x.num:Int),.int .u64 (x.flg:Int),.int .i64 x.crc,.slice Ax nx cx] 43)) ((w.alloc (.cells #[.int .u64 (h.flg:Int),.int .i64 h.crc,.int .i64 h.dsc,.string h.dnm,.int .u64 (h.dn:Int),.int .u64 (h.dv:Int),.int .i64 h.ssc,.string h.snm,.int .u64 (h.sn:Int),.int .u64 (h.sv:Int),.int .i64 h.rsc,.string h.rnm,.int .u64 (h.rn:Int),.int .u64 (h.rv:Int),.int .u64 (h.tim:Int),.int .u64 (h.seq:Int),.int .u64 (h.lif:Int),.slice A n c] 28)).alloc (.cells #[.int .u64 (x.typ:Int),.int .u64 (x.num:Int),.int .u64 (x.flg:Int),.int .i64 x.crc,.slice Ax nx cx] 43))):=Below.refl _ _
  have HS0:Hid (((w.alloc (.cells #[.int .u64 (h.flg:Int),.int .i64 h.crc,.int .i64 h.dsc,.string h.dnm,.int .u64 (h.dn:Int),.int .u64 (h.dv:Int),.int .i64 h.ssc,.string h.snm,.int .u64 (h.sn:Int),.int .u64 (h.sv:Int),.int .i64 h.rsc,.string h.rnm,.int .u64 (h.rn:Int),.int .u64 (h.rv:Int),.int .u64 (h.tim:Int),.int .u64 (h.seq:Int),.int .u64 (h.lif:Int),.slice A n c] 28)).alloc (.cells #[.int .u64 (x.typ:Int),.int .u64 (x.num:Int),.int .u64 (x.flg:Int),.int .i64 x.crc,.slice Ax nx cx] 43)).heap.size=w.heap.size+2):=by show _=_;simp
  have HX1:=Lib.hid (fun (W:World) (hb:Below (w.heap.size+2) ((w.alloc (.cells #[.int .u64 (h.flg:Int),.int .i64 h.crc,.int .i64 h.dsc,.string h.dnm,.int .u64 (h.dn:Int),.int .u64 (h.dv:Int),.int .i64 h.ssc,.string h.snm,.int .u64 (h.sn:Int),.int .u64 (h.sv:Int),.int .i64 h.rsc,.string h.rnm,.int .u64 (h.rn:Int),.int .u64 (h.rv:Int),.int .u64 (h.tim:Int),.int .u64 (h.seq:Int),.int .u64 (h.lif:Int),.slice A n c] 28)).alloc (.cells #[.int .u64 (x.typ:Int),.int .u64 (x.num:Int),.int .u64 (x.flg:Int),.int .i64 x.crc,.slice Ax nx cx] 43)) W)=>(row_of_box (w:=w) (g:=w.heap.size) rfl (((Below.refl (w.heap.size+1) (w.alloc (.cells #[.int .u64 (h.flg:Int),.int .i64 h.crc,.int .i64 h.dsc,.string h.dnm,.int .u64 (h.dn:Int),.int .u64 (h.dv:Int),.int .i64 h.ssc,.string h.snm,.int .u64 (h.sn:Int),.int .u64 (h.sv:Int),.int .i64 h.rsc,.string h.rnm,.int .u64 (h.rn:Int),.int .u64 (h.rv:Int),.int .u64 (h.tim:Int),.int .u64 (h.seq:Int),.int .u64 (h.lif:Int),.slice A n c] 28))).alloc (by simp) (.cells #[.int .u64 (x.typ:Int),.int .u64 (x.num:Int),.int .u64 (x.flg:Int),.int .i64 x.crc,.slice Ax nx cx] 43)).trans (hb.mono (Nat.le_succ _)))))
  have HX2:=Lib.hid (fun (W:World) (hb:Below (w.heap.size+2) ((w.alloc (.cells #[.int .u64 (h.flg:Int),.int .i64 h.crc,.int .i64 h.dsc,.string h.dnm,.int .u64 (h.dn:Int),.int .u64 (h.dv:Int),.int .i64 h.ssc,.string h.snm,.int .u64 (h.sn:Int),.int .u64 (h.sv:Int),.int .i64 h.rsc,.string h.rnm,.int .u64 (h.rn:Int),.int .u64 (h.rv:Int),.int .u64 (h.tim:Int),.int .u64 (h.seq:Int),.int .u64 (h.lif:Int),.slice A n c] 28)).alloc (.cells #[.int .u64 (x.typ:Int),.int .u64 (x.num:Int),.int .u64 (x.flg:Int),.int .i64 x.crc,.slice Ax nx cx] 43)) W)=>(row_of_box (w:=w.alloc (.cells #[.int .u64 (h.flg:Int),.int .i64 h.crc,.int .i64 h.dsc,.string h.dnm,.int .u64 (h.dn:Int),.int .u64 (h.dv:Int),.int .i64 h.ssc,.string h.snm,.int .u64 (h.sn:Int),.int .u64 (h.sv:Int),.int .i64 h.rsc,.string h.rnm,.int .u64 (h.rn:Int),.int .u64 (h.rv:Int),.int .u64 (h.tim:Int),.int .u64 (h.seq:Int),.int .u64 (h.lif:Int),.slice A n c] 28)) (g:=w.heap.size+1) (by simp) hb))
  have CH:=Lib.hid (fun (W:World) (hb:Below w.heap.size w W)=>heads06_any S W (hS.below hb (Nat.le_refl _)))
  have CF:=Lib.hid (fun (W:World) (hb:Below w.heap.size w W)=>few06_any h l A n c W.heap.size W ((hr.below hb).more hb.size) (Nat.le_refl _))
  obtain ⟨h1,n1,l1,z1,hp1,hp2⟩:=put_both h l x
  obtain ⟨h2,n2,l2,z2,hp3,hp4⟩:=drop_both h l q
  have CP:=Lib.hid (fun (W:World) (hb:Below w.heap.size w W)=>(uputZ_any S h l A n c W.heap.size x Ax nx cx W (hS.below hb (Nat.le_refl _)) hd ((hr.below hb).more hb.size) (Nat.le_refl _) hc hbx hnx ((hrx.below hb).more hb.size)).mono (fun e w'=>hp1 W e w'))
  have CQ:=Lib.hid (fun (W:World) (hb:Below w.heap.size w W)=>(rputU_any h l A n c W.heap.size x Ax nx cx W hd ((hr.below hb).more hb.size) (Nat.le_refl _) hc hbx hnx ((hrx.below hb).more hb.size)).mono (fun e w'=>hp2 W e w'))
  have CD:=Lib.hid (fun (W:World) (hb:Below w.heap.size w W)=>(udropZ_any S h l A n c W.heap.size q W (hS.below hb (Nat.le_refl _)) hd ((hr.below hb).more hb.size) (Nat.le_refl _) hc).mono (fun e w'=>hp3 W e w'))
  have CE:=Lib.hid (fun (W:World) (hb:Below w.heap.size w W)=>(rdropU_any h l A n c W.heap.size q W hd ((hr.below hb).more hb.size) (Nat.le_refl _) hc).mono (fun e w'=>hp4 W e w'))
  have CI:=Lib.hid (fun (W:World) (hb:Below w.heap.size w W)=>ufind_any h l A n c W.heap.size q W ((hr.below hb).more hb.size) (Nat.le_refl _))
  have CJ:=Lib.hid (fun (W:World) (hb:Below w.heap.size w W)=>rfindU_any h l A n c W.heap.size q W ((hr.below hb).more hb.size) (Nat.le_refl _))
  have ROWa:=Lib.hid (HX1.out _ HW0.out)
  have ROWb:=Lib.hid (HX2.out _ HW0.out)
  generalize plc (pNum q) l 0=PQ at *
  clear hd hr hc hS hbx hnx hrx hp1 hp2 hp3 hp4
  unfold bunV blkV at *
  go_enter Tryz.func4,Tryz.ntmps4
  go_wp2_with (first
    | (refine wpList_ld18 rfl (.tmp 3) rfl _ rfl _ _ ROWa.out rfl ?_)
    | fail)
  refine (CF.out _ HB0.out).mono ?_
  rintro e w1 ⟨R1,rfl,hb⟩
  have B1:=Lib.hid (Below.push HW0.out (Nat.le_of_eq HS0.out.symm) hb)
  have T1:=Lib.hid (HB0.out.trans (B1.out.mono (Nat.le_add_right _ 2)))
  have ROW1:=Lib.hid (HX1.out _ B1.out)
  have y4:=cell_row (HX2.out _ B1.out) 4 rfl
  clear hb ROWa ROWb
  cases R1 with
  | false =>
    go_wp2_with fail
    refine (CH.out w1 T1.out).mono ?_
    rintro e w2 ⟨rfl,hb⟩
    have T2:=Lib.hid (T1.out.trans (hb.mono T1.out.size))
    clear hb
    go_wp2_with fail
    go_ret
    exact ⟨rfl,T2.out⟩
  | true =>
  by_cases h5:5000<nx
  · have e1:(5000:Int)<(nx:Int):=by omega
    have e2:decide ((5000:Int)<(nx:Int))=true:=decide_eq_true e1
    go_wp2_with fail
    refine (CH.out w1 T1.out).mono ?_
    rintro e w2 ⟨rfl,hb⟩
    have T2:=Lib.hid (T1.out.trans (hb.mono T1.out.size))
    clear hb
    go_wp2_with fail
    go_ret
    exact ⟨rfl,T2.out⟩
  have e1:¬ (5000:Int)<(nx:Int):=by omega
  have e2:decide ((5000:Int)<(nx:Int))=false:=decide_eq_false e1
  have y0:=cell_row (HX2.out _ B1.out) 0 rfl
  have y1:=cell_row (HX2.out _ B1.out) 1 rfl
  have y2:=cell_row (HX2.out _ B1.out) 2 rfl
  have y3:=cell_row (HX2.out _ B1.out) 3 rfl
  go_wp2_with (first
    | (refine wpList_ld18 rfl (.tmp 3) rfl _ rfl _ _ ROW1.out rfl ?_)
    | fail)
  refine (CP.out _ T1.out).mono ?_
  clear y0 y1 y2 y3 y4
  clear e1 e2 h5
  rintro e w2 ⟨hb,A2,c2,rfl,hr2⟩
  have B2:=Lib.hid (Below.push B1.out (Nat.le_of_eq HS0.out.symm) hb)
  have HR2:=Lib.hid hr2
  have SZ2:Hid (w.heap.size+2≤w2.heap.size):=by show _≤_;have:=B2.out.size;have:=HS0.out;omega
  clear hb hr2
  unfold bunV at *
  go_wp2_with (first
    | (refine wpList_st18 rfl 28 (.tmp 7) (.tmp 29) rfl _ rfl rfl _ _ (heap_alloc_new w2 _) info_bun rfl rfl ?_;intro W3 hrow3 _ _ hbel hsz3;have B3:=Lib.hid (hbel _ _ (B2.out.alloc SZ2.out _) SZ2.out);have D3:=Lib.hid (hbel _ _ ((Below.refl w2.heap.size w2).alloc (Nat.le_refl _) _) (Nat.le_refl _));have RW3:=Lib.hid hrow3;have LT3:Hid (w2.heap.size<W3.heap.size):=Nat.lt_of_lt_of_le (by simp) (Nat.le_of_eq hsz3.symm);have ROW3:=Lib.hid (HX1.out _ B3.out);have y0:=cell_row (HX2.out _ B3.out) 0 rfl;have y1:=cell_row (HX2.out _ B3.out) 1 rfl;have y2:=cell_row (HX2.out _ B3.out) 2 rfl;have y3:=cell_row (HX2.out _ B3.out) 3 rfl;have y4:=cell_row (HX2.out _ B3.out) 4 rfl;clear hbel hrow3 hsz3)
    | (refine wpList_ld18 rfl (.tmp 3) rfl _ rfl _ _ ROW3.out rfl ?_)
    | fail)
  have T3:=Lib.hid (HB0.out.trans (B3.out.mono (Nat.le_add_right _ 2)))
  refine (CQ.out _ T3.out).mono ?_
  clear y0 y1 y2 y3 y4
  rintro e w4 ⟨hb,A4,c4,rfl,hr4⟩
  have B4:=Lib.hid (Below.push B3.out (Nat.le_of_eq HS0.out.symm) hb)
  have HR4:=Lib.hid hr4
  have SZ4:Hid (w.heap.size+2≤w4.heap.size):=by show _≤_;have:=B4.out.size;have:=HS0.out;omega
  have E4:=Lib.hid hb
  clear hb hr4
  unfold bunV at *
  go_wp2_with (first
    | (refine wpList_st18 rfl 28 (.tmp 9) (.tmp 35) rfl _ rfl rfl _ _ (heap_alloc_new w4 _) info_bun rfl rfl ?_;intro W5 hrow5 _ _ hbel hsz5;have B5:=Lib.hid (hbel _ _ (B4.out.alloc SZ4.out _) SZ4.out);have D5:=Lib.hid (hbel _ _ ((Below.refl w4.heap.size w4).alloc (Nat.le_refl _) _) (Nat.le_refl _));have RW5:=Lib.hid hrow5;have LT5:Hid (w4.heap.size<W5.heap.size):=Nat.lt_of_lt_of_le (by simp) (Nat.le_of_eq hsz5.symm);have ROW5:=Lib.hid (HX1.out _ B5.out);clear hbel hrow5 hsz5)
    | (refine wpList_ld18 rfl (.tmp 3) rfl _ rfl _ _ ROW5.out rfl ?_)
    | fail)
  have T5:=Lib.hid (HB0.out.trans (B5.out.mono (Nat.le_add_right _ 2)))
  refine (CD.out _ T5.out).mono ?_
  rintro e w6 ⟨hb,A6,c6,rfl,hr6⟩
  have B6:=Lib.hid (Below.push B5.out (Nat.le_of_eq HS0.out.symm) hb)
  have HR6:=Lib.hid hr6
  have SZ6:Hid (w.heap.size+2≤w6.heap.size):=by show _≤_;have:=B6.out.size;have:=HS0.out;omega
  have E6:=Lib.hid hb
  clear hb hr6
  unfold bunV at *
  go_wp2_with (first
    | (refine wpList_st18 rfl 28 (.tmp 11) (.tmp 41) rfl _ rfl rfl _ _ (heap_alloc_new w6 _) info_bun rfl rfl ?_;intro W7 hrow7 _ _ hbel hsz7;have B7:=Lib.hid (hbel _ _ (B6.out.alloc SZ6.out _) SZ6.out);have D7:=Lib.hid (hbel _ _ ((Below.refl w6.heap.size w6).alloc (Nat.le_refl _) _) (Nat.le_refl _));have RW7:=Lib.hid hrow7;have LT7:Hid (w6.heap.size<W7.heap.size):=Nat.lt_of_lt_of_le (by simp) (Nat.le_of_eq hsz7.symm);have ROW7:=Lib.hid (HX1.out _ B7.out);clear hbel hrow7 hsz7)
    | (refine wpList_ld18 rfl (.tmp 3) rfl _ rfl _ _ ROW7.out rfl ?_)
    | fail)
  have T7:=Lib.hid (HB0.out.trans (B7.out.mono (Nat.le_add_right _ 2)))
  refine (CE.out _ T7.out).mono ?_
  rintro e w8 ⟨hb,A8,c8,rfl,hr8⟩
  have B8:=Lib.hid (Below.push B7.out (Nat.le_of_eq HS0.out.symm) hb)
  have HR8:=Lib.hid hr8
  have SZ8:Hid (w.heap.size+2≤w8.heap.size):=by show _≤_;have:=B8.out.size;have:=HS0.out;omega
  have E8:=Lib.hid hb
  clear hb hr8
  unfold bunV at *
  go_wp2_with (first
    | (refine wpList_st18 rfl 28 (.tmp 13) (.tmp 47) rfl _ rfl rfl _ _ (heap_alloc_new w8 _) info_bun rfl rfl ?_;intro W9 hrow9 _ _ hbel hsz9;have B9:=Lib.hid (hbel _ _ (B8.out.alloc SZ8.out _) SZ8.out);have D9:=Lib.hid (hbel _ _ ((Below.refl w8.heap.size w8).alloc (Nat.le_refl _) _) (Nat.le_refl _));have RW9:=Lib.hid hrow9;have LT9:Hid (w8.heap.size<W9.heap.size):=Nat.lt_of_lt_of_le (by simp) (Nat.le_of_eq hsz9.symm);clear hbel hrow9 hsz9)
    | fail)
  have T9:=Lib.hid (HB0.out.trans (B9.out.mono (Nat.le_add_right _ 2)))
  have G8:=Lib.hid (E8.out.trans (D9.out.mono E8.out.size))
  have G7:=Lib.hid (D7.out.trans (G8.out.mono D7.out.size))
  have G6:=Lib.hid (E6.out.trans (G7.out.mono E6.out.size))
  have G5:=Lib.hid (D5.out.trans (G6.out.mono D5.out.size))
  have G4:=Lib.hid (E4.out.trans (G5.out.mono E4.out.size))
  have G3:=Lib.hid (D3.out.trans (G4.out.mono D3.out.size))
  have Q3:=Lib.hid ((G4.out.block w2.heap.size LT3.out).trans RW3.out)
  have Q5:=Lib.hid ((G6.out.block w4.heap.size LT5.out).trans RW5.out)
  have Q7:=Lib.hid ((G8.out.block w6.heap.size LT7.out).trans RW7.out)
  have Q9:=Lib.hid RW9.out
  have QA:=Lib.hid (HX1.out _ B9.out)
  have P2:=Lib.hid ((HR2.out.below G3.out).more G3.out.size)
  have P4:=Lib.hid ((HR4.out.below G5.out).more G5.out.size)
  have P6:=Lib.hid ((HR6.out.below G7.out).more G7.out.size)
  have P8:=Lib.hid ((HR8.out.below D9.out).more D9.out.size)
  clear G3 G4 G5 G6 G7 G8 D3 D5 D7 D9 E4 E6 E8 RW3 RW5 RW7 RW9 HR2 HR4 HR6 HR8 ROW1 ROW3 ROW5 ROW7 LT3 LT5 LT7 LT9
  refine wp_region_held_drew (S:=fun W=>Below W9.heap.size W9 W) (by kernel_rfl) Below.drew_ (fun hHeld=>?_)
  have BC:=Lib.hid hHeld
  refine takeW18 (i:=0) rfl (by kernel_rfl) (by kernel_rfl) (by kernel_rfl) (fun _ _ _ h=>h) (by rfl) (fun W hW=>exec_ld18 rfl rfl ((hW.block _ (Array.getElem?_eq_some_iff.1 Q3.out).1).trans Q3.out) rfl) (by assumption) ?_
  try simp only [Act.put,List.setIfInBounds_toArray,List.set_cons_zero,List.set_cons_succ]
  refine takeW18 (i:=1) rfl (by kernel_rfl) (by kernel_rfl) (by kernel_rfl) (fun _ _ _ h=>h) (by rfl) (fun W hW=>exec_ld18 rfl rfl ((hW.block _ (Array.getElem?_eq_some_iff.1 Q5.out).1).trans Q5.out) rfl) (by assumption) ?_
  try simp only [Act.put,List.setIfInBounds_toArray,List.set_cons_zero,List.set_cons_succ]
  refine wpAnyH_ready (rs:=[2]) (by kernel_rfl) (by simp) ?_
  refine AllReadyH.cons rfl (fun K hK=>?_) AllReadyH.nil
  rw [if_pos (by rfl)]
  go_simp
  refine (rsameU_true h1 l1 A2 A4 n1 c2 c4 W9.drew.heap.size W9.drew ((P2.out.below BC.out).more BC.out.size) ((P4.out.below BC.out).more BC.out.size) (Nat.le_refl _)).mono ?_
  rintro e wa ⟨rfl,hb⟩
  replace BC:=Lib.hid (BC.out.trans (hb.mono BC.out.size))
  clear hb
  go_simp
  refine hK.out _ _ BC.out (fun hHeld=>?_)
  try simp only [Act.put,List.setIfInBounds_toArray,List.set_cons_zero,List.set_cons_succ]
  clear hK K
  refine takeW18 (i:=3) (v:=?v3_1) rfl (by kernel_rfl) (by kernel_rfl) (by kernel_rfl) (fun _ _ _ h=>h) (by rfl) ?hy3_1 (by assumption) ?rest3_1
  case hy3_1=>(intro w hSw;go_simp;try with_reducible rfl)
  try simp only [Act.put,List.setIfInBounds_toArray,List.set_cons_zero,List.set_cons_succ]
  refine takeW18 (i:=4) (v:=?v4_2) rfl (by kernel_rfl) (by kernel_rfl) (by kernel_rfl) (fun _ _ _ h=>h) (by rfl) ?hy4_2 (by assumption) ?rest4_2
  case hy4_2=>(intro w hSw;go_simp;try with_reducible rfl)
  try simp only [Act.put,List.setIfInBounds_toArray,List.set_cons_zero,List.set_cons_succ]
  refine takeW18 (i:=5) (v:=?v5_3) rfl (by kernel_rfl) (by kernel_rfl) (by kernel_rfl) (fun _ _ _ h=>h) (by rfl) ?hy5_3 (by assumption) ?rest5_3
  case hy5_3=>(intro w hSw;go_simp;try with_reducible rfl)
  try simp only [Act.put,List.setIfInBounds_toArray,List.set_cons_zero,List.set_cons_succ]
  refine takeW18 (i:=6) (v:=?v6_4) rfl (by kernel_rfl) (by kernel_rfl) (by kernel_rfl) (fun _ _ _ h=>h) (by rfl) ?hy6_4 (by assumption) ?rest6_4
  case hy6_4=>(intro w hSw;go_simp;try with_reducible rfl)
  try simp only [Act.put,List.setIfInBounds_toArray,List.set_cons_zero,List.set_cons_succ]
  refine takeW18 (i:=7) (v:=?v7_5) rfl (by kernel_rfl) (by kernel_rfl) (by kernel_rfl) (fun _ _ _ h=>h) (by rfl) ?hy7_5 (by assumption) ?rest7_5
  case hy7_5=>(intro w hSw;go_simp;try with_reducible rfl)
  try simp only [Act.put,List.setIfInBounds_toArray,List.set_cons_zero,List.set_cons_succ]
  refine takeW18 (i:=8) (v:=?v8_6) rfl (by kernel_rfl) (by kernel_rfl) (by kernel_rfl) (fun _ _ _ h=>h) (by rfl) ?hy8_6 (by assumption) ?rest8_6
  case hy8_6=>(intro w hSw;go_simp;try with_reducible rfl)
  try simp only [Act.put,List.setIfInBounds_toArray,List.set_cons_zero,List.set_cons_succ]
  refine takeW18 (i:=9) rfl (by kernel_rfl) (by kernel_rfl) (by kernel_rfl) (fun _ _ _ h=>h) (by rfl) (fun W hW=>exec_ld18 rfl rfl ((hW.block _ (Array.getElem?_eq_some_iff.1 Q7.out).1).trans Q7.out) rfl) (by assumption) ?_
  try simp only [Act.put,List.setIfInBounds_toArray,List.set_cons_zero,List.set_cons_succ]
  refine takeW18 (i:=10) rfl (by kernel_rfl) (by kernel_rfl) (by kernel_rfl) (fun _ _ _ h=>h) (by rfl) (fun W hW=>exec_ld18 rfl rfl ((hW.block _ (Array.getElem?_eq_some_iff.1 Q9.out).1).trans Q9.out) rfl) (by assumption) ?_
  try simp only [Act.put,List.setIfInBounds_toArray,List.set_cons_zero,List.set_cons_succ]
  refine wpAnyH_ready (rs:=[11]) (by kernel_rfl) (by simp) ?_
  refine AllReadyH.cons rfl (fun K hK=>?_) AllReadyH.nil
  rw [if_pos (by rfl)]
  go_simp
  refine (rsameU_true h2 l2 A6 A8 n2 c6 c8 wa.heap.size wa ((P6.out.below BC.out).more BC.out.size) ((P8.out.below BC.out).more BC.out.size) (Nat.le_refl _)).mono ?_
  rintro e wb ⟨rfl,hb⟩
  replace BC:=Lib.hid (BC.out.trans (hb.mono BC.out.size))
  clear hb
  go_simp
  refine hK.out _ _ BC.out (fun hHeld=>?_)
  try simp only [Act.put,List.setIfInBounds_toArray,List.set_cons_zero,List.set_cons_succ]
  clear hK K
  refine takeW18 (i:=12) (v:=?v12_7) rfl (by kernel_rfl) (by kernel_rfl) (by kernel_rfl) (fun _ _ _ h=>h) (by rfl) ?hy12_7 (by assumption) ?rest12_7
  case hy12_7=>(intro w hSw;go_simp;try with_reducible rfl)
  try simp only [Act.put,List.setIfInBounds_toArray,List.set_cons_zero,List.set_cons_succ]
  refine takeW18 (i:=13) (v:=?v13_8) rfl (by kernel_rfl) (by kernel_rfl) (by kernel_rfl) (fun _ _ _ h=>h) (by rfl) ?hy13_8 (by assumption) ?rest13_8
  case hy13_8=>(intro w hSw;go_simp;try with_reducible rfl)
  try simp only [Act.put,List.setIfInBounds_toArray,List.set_cons_zero,List.set_cons_succ]
  refine takeW18 (i:=14) (v:=?v14_9) rfl (by kernel_rfl) (by kernel_rfl) (by kernel_rfl) (fun _ _ _ h=>h) (by rfl) ?hy14_9 (by assumption) ?rest14_9
  case hy14_9=>(intro w hSw;go_simp;try with_reducible rfl)
  try simp only [Act.put,List.setIfInBounds_toArray,List.set_cons_zero,List.set_cons_succ]
  refine takeW18 (i:=15) (v:=?v15_10) rfl (by kernel_rfl) (by kernel_rfl) (by kernel_rfl) (fun _ _ _ h=>h) (by rfl) ?hy15_10 (by assumption) ?rest15_10
  case hy15_10=>(intro w hSw;go_simp;try with_reducible rfl)
  try simp only [Act.put,List.setIfInBounds_toArray,List.set_cons_zero,List.set_cons_succ]
  refine takeW18 (i:=16) (v:=?v16_11) rfl (by kernel_rfl) (by kernel_rfl) (by kernel_rfl) (fun _ _ _ h=>h) (by rfl) ?hy16_11 (by assumption) ?rest16_11
  case hy16_11=>(intro w hSw;go_simp;try with_reducible rfl)
  try simp only [Act.put,List.setIfInBounds_toArray,List.set_cons_zero,List.set_cons_succ]
  refine takeW18 (i:=17) (v:=?v17_12) rfl (by kernel_rfl) (by kernel_rfl) (by kernel_rfl) (fun _ _ _ h=>h) (by rfl) ?hy17_12 (by assumption) ?rest17_12
  case hy17_12=>(intro w hSw;go_simp;try with_reducible rfl)
  try simp only [Act.put,List.setIfInBounds_toArray,List.set_cons_zero,List.set_cons_succ]
  refine takeW18 (i:=18) (v:=?v18_13) rfl (by kernel_rfl) (by kernel_rfl) (by kernel_rfl) (fun _ _ _ h=>h) (by rfl) ?hy18_13 (by assumption) ?rest18_13
  case hy18_13=>(intro w hSw;go_simp;try with_reducible rfl)
  try simp only [Act.put,List.setIfInBounds_toArray,List.set_cons_zero,List.set_cons_succ]
  refine takeW18 (i:=19) rfl (by kernel_rfl) (by kernel_rfl) (by kernel_rfl) (fun _ _ _ h=>h) (by rfl) (fun W hW=>exec_ld18 rfl rfl ((hW.block _ (Array.getElem?_eq_some_iff.1 QA.out).1).trans QA.out) rfl) (by assumption) ?_
  try simp only [Act.put,List.setIfInBounds_toArray,List.set_cons_zero,List.set_cons_succ]
  refine takeW18 (i:=20) (v:=?v20_14) rfl (by kernel_rfl) (by kernel_rfl) (by kernel_rfl) (fun _ _ _ h=>h) (by rfl) ?hy20_14 (by assumption) ?rest20_14
  case hy20_14=>(intro w hSw;go_simp;try with_reducible rfl)
  try simp only [Act.put,List.setIfInBounds_toArray,List.set_cons_zero,List.set_cons_succ]
  refine takeW18 (i:=22) rfl (by kernel_rfl) (by kernel_rfl) (by kernel_rfl) (fun _ _ _ h=>h) (by rfl) (fun W hW=>exec_ld18 rfl rfl ((hW.block _ (Array.getElem?_eq_some_iff.1 QA.out).1).trans QA.out) rfl) (by assumption) ?_
  try simp only [Act.put,List.setIfInBounds_toArray,List.set_cons_zero,List.set_cons_succ]
  refine takeW18 (i:=23) (v:=?v23_15) rfl (by kernel_rfl) (by kernel_rfl) (by kernel_rfl) (fun _ _ _ h=>h) (by rfl) ?hy23_15 (by assumption) ?rest23_15
  case hy23_15=>(intro w hSw;go_simp;try with_reducible rfl)
  try simp only [Act.put,List.setIfInBounds_toArray,List.set_cons_zero,List.set_cons_succ]
  refine wpAnyH_ready (rs:=[21]) (by kernel_rfl) (by simp) ?_
  refine AllReadyH.cons rfl (fun K hK=>?_) AllReadyH.nil
  rw [if_pos (by rfl)]
  go_simp
  refine (CI.out _ (T9.out.trans (BC.out.mono T9.out.size))).mono ?_
  rintro e wc ⟨rfl,hb⟩
  replace BC:=Lib.hid (BC.out.trans (hb.mono BC.out.size))
  clear hb
  go_simp
  refine hK.out _ _ BC.out (fun hHeld=>?_)
  try simp only [Act.put,List.setIfInBounds_toArray,List.set_cons_zero,List.set_cons_succ]
  clear hK K
  refine wpAnyH_ready (rs:=[24]) (by kernel_rfl) (by simp) ?_
  refine AllReadyH.cons rfl (fun K hK=>?_) AllReadyH.nil
  rw [if_pos (by rfl)]
  go_simp
  refine (CJ.out _ (T9.out.trans (BC.out.mono T9.out.size))).mono ?_
  rintro e wd ⟨rfl,hb⟩
  replace BC:=Lib.hid (BC.out.trans (hb.mono BC.out.size))
  clear hb
  go_simp
  refine hK.out _ _ BC.out (fun hHeld=>?_)
  try simp only [Act.put,List.setIfInBounds_toArray,List.set_cons_zero,List.set_cons_succ]
  clear hK K
  refine takeW18 (i:=25) (v:=?v25_16) rfl (by kernel_rfl) (by kernel_rfl) (by kernel_rfl) (fun _ _ _ h=>h) (by rfl) ?hy25_16 (by assumption) ?rest25_16
  case hy25_16=>(intro w hSw;go_simp;try with_reducible rfl)
  try simp only [Act.put,List.setIfInBounds_toArray,List.set_cons_zero,List.set_cons_succ]
  refine takeW18 (i:=26) (v:=?v26_17) rfl (by kernel_rfl) (by kernel_rfl) (by kernel_rfl) (fun _ _ _ h=>h) (by rfl) ?hy26_17 (by assumption) ?rest26_17
  case hy26_17=>(intro w hSw;go_simp;try with_reducible rfl)
  try simp only [Act.put,List.setIfInBounds_toArray,List.set_cons_zero,List.set_cons_succ]
  refine takeW18 (i:=27) (v:=?v27_18) rfl (by kernel_rfl) (by kernel_rfl) (by kernel_rfl) (fun _ _ _ h=>h) (by rfl) ?hy27_18 (by assumption) ?rest27_18
  case hy27_18=>(intro w hSw;go_simp;try with_reducible rfl)
  try simp only [Act.put,List.setIfInBounds_toArray,List.set_cons_zero,List.set_cons_succ]
  refine wpAnyH_ready (rs:=[28]) (by kernel_rfl) (by simp) ?_
  refine AllReadyH.cons rfl (fun K hK=>?_) AllReadyH.nil
  rw [if_pos (by rfl)]
  go_simp
  refine (CH.out _ (T9.out.trans (BC.out.mono T9.out.size))).mono ?_
  rintro e we ⟨rfl,hb⟩
  replace BC:=Lib.hid (BC.out.trans (hb.mono BC.out.size))
  clear hb
  go_simp
  refine hK.out _ _ BC.out (fun hHeld=>?_)
  try simp only [Act.put,List.setIfInBounds_toArray,List.set_cons_zero,List.set_cons_succ]
  clear hK K
  refine takeW18 (i:=29) (v:=?v29_19) rfl (by kernel_rfl) (by kernel_rfl) (by kernel_rfl) (fun _ _ _ h=>h) (by rfl) ?hy29_19 (by assumption) ?rest29_19
  case hy29_19=>(intro w hSw;go_simp;try with_reducible rfl)
  try simp only [Act.put,List.setIfInBounds_toArray,List.set_cons_zero,List.set_cons_succ]
  refine takeW18 (i:=30) (v:=?v30_20) rfl (by kernel_rfl) (by kernel_rfl) (by kernel_rfl) (fun _ _ _ h=>h) (by rfl) ?hy30_20 (by assumption) ?rest30_20
  case hy30_20=>(intro w hSw;go_simp;try with_reducible rfl)
  try simp only [Act.put,List.setIfInBounds_toArray,List.set_cons_zero,List.set_cons_succ]
  refine wpAnyH_done (by kernel_rfl) ?_ _
  go_wp2_with fail
  go_ret
  exact ⟨rfl,(T9.out.trans (BC.out.mono T9.out.size))⟩
theorem bundleChanges_walk (h:BH) (l:List Blk) (A:Option Addr) (n c:Nat) (x:Blk) (Ax:Option Addr) (nx cx:Nat) (a:Int) (w:World) (S:Snt) (hin:BunIn w h l A n c) (hxin:BlkIn2 w x Ax nx cx) (ha:(Lit.int .u64 a).wf=true) (hS:Wd S w) :
    Calls Tryz.prog 4 #[bunV h A n c,blkV x.typ x.num x.flg x.crc Ax nx cx,.int .u64 a] w fun e w'=>e=.returned (.bool true)∧Below w.heap.size w w':=by
  have h0:0≤a:=by simp [Lit.wf,IntKind.min,IntKind.max,IntKind.signed,IntKind.bits] at ha;omega
  obtain ⟨q,rfl⟩:∃ q:Nat,a=(q:Int):=⟨a.toNat,by omega⟩
  exact bundleChanges_walkN h l A n c x Ax nx cx q w S hin hxin hS
end Go.Proofs.YtldnokgdgafphaaGreatDoor
