import Derived.Test.YtlecbblmaadpiaaGreatDoorKBunN
import Derived.Test.YtlecbblmaadpiaaGreatDoorKRfC
import Derived.Deep.RegionHeld3
import Derived.ArgAppend
import Derived.StillTailTactics
namespace Go.Proofs.YtlecbblmaadpiaaGreatDoor
set_option maxRecDepth 100000
set_option maxHeartbeats 16000000
open Go.RowKit
open Go.Lib (hid)
def CopU (h:BH) (l:List Blk) (w:World) (e:Ending) (w':World):Prop:=Below w.heap.size w w'∧∃ (A:Option Addr) (n c:Nat),e=.returned (bunV h A n c)∧RdL (mask (lows w.heap.size) w') w'.heap.size A n l∧n≤c
theorem ucopied_any (h:BH) (l:List Blk) (A:Option Addr) (n c B:Nat) (w:World) (hbd:h.Bd) (hr:RdL w B A n l) (hB:B≤w.heap.size) (h0:0<n) (hm:n≤1000) :
  Calls Tryz.prog 140 #[bunV h A n c] w (CopU h l w):=by
 obtain ⟨b,o,rfl,hb,hks⟩:=hr.2.1 h0
 obtain ⟨ps,hmap,hcell,hsrc⟩:=hks.pks
 have hlen:ps.length=n:=by rw [← hr.1,← hmap,List.length_map]
 have HP:=hid (And.intro hmap (And.intro hcell (And.intro hsrc hlen)))
 have HH:=hid (And.intro hb (And.intro hB (And.intro h0 hm)))
 have HN:=hid hbd
 have HB0:=hid (((Below.refl w.heap.size w).alloc nlr (.cells #[.int .u64 (h.flg:Int),.int .i64 h.crc,.int .i64 h.dsc,.string h.dnm,.int .u64 (h.dn:Int),.int .u64 (h.dv:Int),.int .i64 h.ssc,.string h.snm,.int .u64 (h.sn:Int),.int .u64 (h.sv:Int),.int .i64 h.rsc,.string h.rnm,.int .u64 (h.rn:Int),.int .u64 (h.rv:Int),.int .u64 (h.tim:Int),.int .u64 (h.seq:Int),.int .u64 (h.lif:Int),.slice (some ⟨b,o,none⟩) n c] 73)).alloc (le_alloc _ _) (.cells #[.int .u64 0,.int .i64 0,.int .i64 0,.string ⟨#[]⟩,.int .u64 0,.int .u64 0,.int .i64 0,.string ⟨#[]⟩,.int .u64 0,.int .u64 0,.int .i64 0,.string ⟨#[]⟩,.int .u64 0,.int .u64 0,.int .u64 0,.int .u64 0,.int .u64 0,.slice none 0 0] 73))
 have HW0:Hid (Below (w.heap.size+2) ((w.alloc (.cells #[.int .u64 (h.flg:Int),.int .i64 h.crc,.int .i64 h.dsc,.string h.dnm,.int .u64 (h.dn:Int),.int .u64 (h.dv:Int),.int .i64 h.ssc,.string h.snm,.int .u64 (h.sn:Int),.int .u64 (h.sv:Int),.int .i64 h.rsc,.string h.rnm,.int .u64 (h.rn:Int),.int .u64 (h.rv:Int),.int .u64 (h.tim:Int),.int .u64 (h.seq:Int),.int .u64 (h.lif:Int),.slice (some ⟨b,o,none⟩) n c] 73)).alloc (.cells #[.int .u64 0,.int .i64 0,.int .i64 0,.string ⟨#[]⟩,.int .u64 0,.int .u64 0,.int .i64 0,.string ⟨#[]⟩,.int .u64 0,.int .u64 0,.int .i64 0,.string ⟨#[]⟩,.int .u64 0,.int .u64 0,.int .u64 0,.int .u64 0,.int .u64 0,.slice none 0 0] 73)) ((w.alloc (.cells #[.int .u64 (h.flg:Int),.int .i64 h.crc,.int .i64 h.dsc,.string h.dnm,.int .u64 (h.dn:Int),.int .u64 (h.dv:Int),.int .i64 h.ssc,.string h.snm,.int .u64 (h.sn:Int),.int .u64 (h.sv:Int),.int .i64 h.rsc,.string h.rnm,.int .u64 (h.rn:Int),.int .u64 (h.rv:Int),.int .u64 (h.tim:Int),.int .u64 (h.seq:Int),.int .u64 (h.lif:Int),.slice (some ⟨b,o,none⟩) n c] 73)).alloc (.cells #[.int .u64 0,.int .i64 0,.int .i64 0,.string ⟨#[]⟩,.int .u64 0,.int .u64 0,.int .i64 0,.string ⟨#[]⟩,.int .u64 0,.int .u64 0,.int .i64 0,.string ⟨#[]⟩,.int .u64 0,.int .u64 0,.int .u64 0,.int .u64 0,.int .u64 0,.slice none 0 0] 73))):=Below.refl _ _
 have HS0:Hid (((w.alloc (.cells #[.int .u64 (h.flg:Int),.int .i64 h.crc,.int .i64 h.dsc,.string h.dnm,.int .u64 (h.dn:Int),.int .u64 (h.dv:Int),.int .i64 h.ssc,.string h.snm,.int .u64 (h.sn:Int),.int .u64 (h.sv:Int),.int .i64 h.rsc,.string h.rnm,.int .u64 (h.rn:Int),.int .u64 (h.rv:Int),.int .u64 (h.tim:Int),.int .u64 (h.seq:Int),.int .u64 (h.lif:Int),.slice (some ⟨b,o,none⟩) n c] 73)).alloc (.cells #[.int .u64 0,.int .i64 0,.int .i64 0,.string ⟨#[]⟩,.int .u64 0,.int .u64 0,.int .i64 0,.string ⟨#[]⟩,.int .u64 0,.int .u64 0,.int .i64 0,.string ⟨#[]⟩,.int .u64 0,.int .u64 0,.int .u64 0,.int .u64 0,.int .u64 0,.slice none 0 0] 73)).heap.size=w.heap.size+2):=by show _=_;simp
 have HX1:=hid (fun (W:World) (hb:Below (w.heap.size+2) ((w.alloc (.cells #[.int .u64 (h.flg:Int),.int .i64 h.crc,.int .i64 h.dsc,.string h.dnm,.int .u64 (h.dn:Int),.int .u64 (h.dv:Int),.int .i64 h.ssc,.string h.snm,.int .u64 (h.sn:Int),.int .u64 (h.sv:Int),.int .i64 h.rsc,.string h.rnm,.int .u64 (h.rn:Int),.int .u64 (h.rv:Int),.int .u64 (h.tim:Int),.int .u64 (h.seq:Int),.int .u64 (h.lif:Int),.slice (some ⟨b,o,none⟩) n c] 73)).alloc (.cells #[.int .u64 0,.int .i64 0,.int .i64 0,.string ⟨#[]⟩,.int .u64 0,.int .u64 0,.int .i64 0,.string ⟨#[]⟩,.int .u64 0,.int .u64 0,.int .i64 0,.string ⟨#[]⟩,.int .u64 0,.int .u64 0,.int .u64 0,.int .u64 0,.int .u64 0,.slice none 0 0] 73)) W)=>(row_of_box (w:=w) (g:=w.heap.size) rfl (((Below.refl (w.heap.size+1) (w.alloc (.cells #[.int .u64 (h.flg:Int),.int .i64 h.crc,.int .i64 h.dsc,.string h.dnm,.int .u64 (h.dn:Int),.int .u64 (h.dv:Int),.int .i64 h.ssc,.string h.snm,.int .u64 (h.sn:Int),.int .u64 (h.sv:Int),.int .i64 h.rsc,.string h.rnm,.int .u64 (h.rn:Int),.int .u64 (h.rv:Int),.int .u64 (h.tim:Int),.int .u64 (h.seq:Int),.int .u64 (h.lif:Int),.slice (some ⟨b,o,none⟩) n c] 73))).alloc (by simp) (.cells #[.int .u64 0,.int .i64 0,.int .i64 0,.string ⟨#[]⟩,.int .u64 0,.int .u64 0,.int .i64 0,.string ⟨#[]⟩,.int .u64 0,.int .u64 0,.int .i64 0,.string ⟨#[]⟩,.int .u64 0,.int .u64 0,.int .u64 0,.int .u64 0,.int .u64 0,.slice none 0 0] 73)).trans (hb.mono (Nat.le_succ _)))))
 have HX2:=hid (fun (W:World) (hb:Below (w.heap.size+2) ((w.alloc (.cells #[.int .u64 (h.flg:Int),.int .i64 h.crc,.int .i64 h.dsc,.string h.dnm,.int .u64 (h.dn:Int),.int .u64 (h.dv:Int),.int .i64 h.ssc,.string h.snm,.int .u64 (h.sn:Int),.int .u64 (h.sv:Int),.int .i64 h.rsc,.string h.rnm,.int .u64 (h.rn:Int),.int .u64 (h.rv:Int),.int .u64 (h.tim:Int),.int .u64 (h.seq:Int),.int .u64 (h.lif:Int),.slice (some ⟨b,o,none⟩) n c] 73)).alloc (.cells #[.int .u64 0,.int .i64 0,.int .i64 0,.string ⟨#[]⟩,.int .u64 0,.int .u64 0,.int .i64 0,.string ⟨#[]⟩,.int .u64 0,.int .u64 0,.int .i64 0,.string ⟨#[]⟩,.int .u64 0,.int .u64 0,.int .u64 0,.int .u64 0,.int .u64 0,.slice none 0 0] 73)) W)=>(row_of_box (w:=w.alloc (.cells #[.int .u64 (h.flg:Int),.int .i64 h.crc,.int .i64 h.dsc,.string h.dnm,.int .u64 (h.dn:Int),.int .u64 (h.dv:Int),.int .i64 h.ssc,.string h.snm,.int .u64 (h.sn:Int),.int .u64 (h.sv:Int),.int .i64 h.rsc,.string h.rnm,.int .u64 (h.rn:Int),.int .u64 (h.rv:Int),.int .u64 (h.tim:Int),.int .u64 (h.seq:Int),.int .u64 (h.lif:Int),.slice (some ⟨b,o,none⟩) n c] 73)) (g:=w.heap.size+1) (by simp) hb))
 have C1:=hid (fun W=>sclone_any h.dnm W hbd.dnm)
 have C2:=hid (fun W=>sclone_any h.snm W hbd.snm)
 have C3:=hid (fun W=>sclone_any h.rnm W hbd.rnm)
 clear hbd hr hB h0 hm hb hks hmap hcell hsrc hlen
 unfold bunV
 go_enter Tryz.func140,Tryz.ntmps140
 go_wp2_with fail
 refine (C1.out _).mono ?_
 rintro e w1 ⟨rfl,hb1⟩
 have B1:=hid (Below.push HW0.out (Nat.le_of_eq HS0.out.symm) hb1)
 have f3:=row_free (HX1.out _ B1.out) 3
 have x3s:=cell_row (HX1.out _ B1.out) 3 rfl
 have x7:=cell_row (HX1.out _ B1.out) 7 rfl
 have E1:=hid (setCell_self (HX1.out _ B1.out) (j:=3) (v:=.string h.dnm) rfl)
 clear hb1
 go_wp2_with fail
 rw [E1.out]
 clear E1 f3 x3s
 refine (C2.out _).mono ?_
 rintro e w2 ⟨rfl,hb2⟩
 have B2:=hid (Below.push B1.out (Nat.le_of_eq HS0.out.symm) hb2)
 have f7:=row_free (HX1.out _ B2.out) 7
 have x7s:=cell_row (HX1.out _ B2.out) 7 rfl
 have x11:=cell_row (HX1.out _ B2.out) 11 rfl
 have E2:=hid (setCell_self (HX1.out _ B2.out) (j:=7) (v:=.string h.snm) rfl)
 clear hb2 x7
 go_wp2_with fail
 rw [E2.out]
 clear E2 f7 x7s
 refine (C3.out _).mono ?_
 rintro e w3 ⟨rfl,hb3⟩
 have B3:=hid (Below.push B2.out (Nat.le_of_eq HS0.out.symm) hb3)
 have f11:=row_free (HX1.out _ B3.out) 11
 have x11s:=cell_row (HX1.out _ B3.out) 11 rfl
 have x17:=cell_row (HX1.out _ B3.out) 17 rfl
 have E3:=hid (setCell_self (HX1.out _ B3.out) (j:=11) (v:=.string h.rnm) rfl)
 have BB3:=hid (HB0.out.trans (B3.out.mono (Nat.le_add_right _ 2)))
 have C4:=hid (kclone_any b o n c B ps w3 (Nat.le_trans HH.out.2.1 BB3.out.size) HH.out.1 (fun j u hj=>by
  rw [BB3.out.cell (p:=⟨b,o+j,none⟩) (Nat.lt_of_lt_of_le HH.out.1 HH.out.2.1)]
  exact HP.out.2.1 j u hj) HP.out.2.2.2 HH.out.2.2.1 HH.out.2.2.2)
 clear hb3 x11
 go_wp2_with fail
 rw [E3.out]
 clear E3 f11 x11s
 refine C4.out.mono ?_
 rintro e w4 ⟨g,cap,rfl,hown,hb4,hg4⟩
 have B4:=hid (Below.push B3.out (Nat.le_of_eq HS0.out.symm) hb4)
 have hw2:w.heap.size+2≤w3.heap.size:=by have:=B3.out.size;have:=HS0.out;omega
 have HBS:=hid hw2
 have hg3:w3.heap.size≤g:=(World.ownsRow.lt hown g rfl).1
 have x17':=cell_row (HX1.out _ B4.out) 17 rfl
 have f17:=row_free (HX1.out _ B4.out) 17
 have hrow5:=set17 (.slice (some ⟨g,0,none⟩) n cap) (HX1.out _ B4.out)
 have hz5:(w4.setCell ⟨w.heap.size,17,none⟩ (.slice (some ⟨g,0,none⟩) n cap)).heap[w.heap.size+1]?=_:=(Below.heap_setCell w4 ⟨w.heap.size,17,none⟩ (.slice (some ⟨g,0,none⟩) n cap) (w.heap.size+1) (by simp)).trans (HX2.out _ B4.out)
 have hown5:=ownsRow_setCell_below hown (a:=⟨w.heap.size,17,none⟩) (by show w.heap.size<_;omega) (.slice (some ⟨g,0,none⟩) n cap)
 have BB5:=hid ((HB0.out.trans (B4.out.mono (Nat.le_add_right _ 2))).setCell (p:=⟨w.heap.size,17,none⟩) nlr (.slice (some ⟨g,0,none⟩) n cap))
 have x17b:=cell_row hrow5 17 rfl
 have hcap:n≤cap:=by
  rcases hown.2 with ⟨hv,-⟩|⟨q,cap',cur,hv,-,-,hnc,-⟩
  ·
   cases hv
  ·
   injection hv with _ _ h3;omega
 have HROW5:=hid hrow5
 have HZ5:=hid hz5
 have HC:=hid (And.intro hg3 hcap)
 have hsz5:(w4.setCell ⟨w.heap.size,17,none⟩ (.slice (some ⟨g,0,none⟩) n cap)).heap.size=w4.heap.size:=by simp [World.setCell]
 have HSZ5:Hid (w3.heap.size≤(w4.setCell ⟨w.heap.size,17,none⟩ (.slice (some ⟨g,0,none⟩) n cap)).heap.size):=by show _≤_;rw [hsz5];omega
 have HCS:Hid (CpSt w3.heap.size w3.heap.size B g cap n (w4.setCell ⟨w.heap.size,17,none⟩ (.slice (some ⟨g,0,none⟩) n cap)) l 0 (w4.setCell ⟨w.heap.size,17,none⟩ (.slice (some ⟨g,0,none⟩) n cap)) ps) :=
  ⟨hown5,HP.out.1,HP.out.2.2.2,fun j hj h=>absurd h (Nat.not_lt_zero j),fun j hj _=>(HP.out.2.2.1 _ (List.getElem_mem hj)).below (BB5.out.mono HH.out.2.1),Below.refl _ _⟩
 clear hown hb4 hg4 hg3 x17 hrow5 hz5 hown5 hcap hw2 hsz5 C4
 go_wp2_with fail
 generalize w4.setCell ⟨w.heap.size,17,none⟩ (.slice (some ⟨g,0,none⟩) n cap)=W5 at *
 go_loopw [29] (fun v wr=>∃ (k:Nat) (qs:List PK),k≤n∧v=.int .i64 (k:Int)∧Hid (CpSt w3.heap.size w3.heap.size B g cap n W5 l k wr qs)) (fun v _=>n - (intOf v).toNat)
 case atStart=>exact ⟨0,ps,Nat.zero_le _,rfl,HCS.out⟩
 case round =>
  obtain ⟨k,qs,hk,rfl,HS⟩:=hrel
  have HROWr:=hid ((HS.out.bel.block w.heap.size (by have:=HBS.out;omega)).trans HROW5.out)
  have HZr:=hid ((HS.out.bel.block (w.heap.size+1) (by have:=HBS.out;omega)).trans HZ5.out)
  by_cases hlt:k<n
  ·
   have hkl:k<qs.length:=by rw [HS.out.len];exact hlt
   have hii:(k:Int)<(n:Int):=by omega
   have hs:=HS.out.rest k hkl nlr
   have hSz:=HS.out.bel.size
   have hBr:B≤wr.heap.size:=by have:=HH.out.2.1;have:=HBS.out;have:=HSZ5.out;omega
   have hcr:=HS.out.cell hkl
   have hfr:=World.ownsRow.frozenAt HS.out.own (k*5+4)
   have hgl:=HS.out.blk
   have HQ:Hid (∀ (wc:World) (A:Option Addr) (c:Nat),Below wr.heap.size wr wc→Ob wc wr.heap.size 5 (.slice A qs[k].nd c) qs[k].x.dat→CpSt w3.heap.size w3.heap.size B g cap n W5 l (k+1) (wc.setCell ⟨g,k*5+4,none⟩ (.slice A qs[k].nd c)) (qs.set k ⟨qs[k].x,A,qs[k].nd,c⟩)) :=
    fun wc A c hb hO=>HS.out.step nlr (by have:=HH.out.2.1;have:=HBS.out;omega) hkl hb hO
   have C5:=hid (fun (W:World) (hW:Below wr.heap.size wr W)=>bclone_any qs[k].A qs[k].nd qs[k].cd B qs[k].x.dat W (Nat.le_trans hBr hW.size) (hs.2.2.below (hW.mono hBr)) hs.2.1.2)
   have hS:∀ W,Below wr.heap.size wr W→W.cell? ⟨w.heap.size,17,none⟩=some (.slice (some ⟨g,0,none⟩) n cap)∧W.cell? ⟨g,k*5+4,none⟩=some (.slice qs[k].A qs[k].nd qs[k].cd)∧W.frozen? ⟨g,k*5+4,none⟩=false:=fun W hW =>
    ⟨(hW.cell (p:=⟨w.heap.size,17,none⟩) (by show w.heap.size<_;have:=HBS.out;omega)).trans (cell_row HROWr.out 17 rfl),(hW.cell (p:=⟨g,k*5+4,none⟩) hgl.2).trans hcr,(hW.frozen (p:=⟨g,k*5+4,none⟩) hgl.2).trans hfr⟩
   have HSS:=hid hS
   have HL:Hid (qs[k].x.dat.length=qs[k].nd):=hs.2.2.1
   have HGW:Hid (w.heap.size<g):=by show _<_;have:=hgl.1;have:=HBS.out;omega
   generalize qs[k]=q at *
   clear hs hSz hBr hcr hfr hgl hS
   go_wp2_with fail
   have hd:=(HSS.out _ (Below.refl _ _)).2.1
   have hdd:=drew_cell hd
   refine wp_region_held_drew (S:=fun W=>W.cell? ⟨w.heap.size,17,none⟩=some (.slice (some ⟨g,0,none⟩) n cap)) (by kernel_rfl) (HSS.out _ Below.drew_).1 (fun hHeld=>?_)
   refine takeW18 (i:=0) (v:=?v0) rfl (by kernel_rfl) (by kernel_rfl) (by kernel_rfl) (fun _ _ _ h=>h) (by rfl) ?hy0 (by assumption) ?rest0
   case hy0=>(intro w hSw;go_simp;try with_reducible rfl)
   try simp only [Act.put,List.setIfInBounds_toArray,List.set_cons_zero,List.set_cons_succ]
   refine takeW18 (i:=1) (v:=?v1) rfl (by kernel_rfl) (by kernel_rfl) (by kernel_rfl) (fun _ _ _ h=>h) (by rfl) ?hy1 (by assumption) ?rest1
   case hy1=>(intro w hSw;go_simp;try with_reducible rfl)
   try simp only [Act.put,List.setIfInBounds_toArray,List.set_cons_zero,List.set_cons_succ]
   refine takeW18 (i:=2) (v:=?v2) rfl (by kernel_rfl) (by kernel_rfl) (by kernel_rfl) (fun _ _ _ h=>h) (by rfl) ?hy2 (by assumption) ?rest2
   case hy2=>(intro w hSw;go_simp;try with_reducible rfl)
   try simp only [Act.put,List.setIfInBounds_toArray,List.set_cons_zero,List.set_cons_succ]
   refine takeW18 (i:=3) (v:=?v3) rfl (by kernel_rfl) (by kernel_rfl) (by kernel_rfl) (fun _ _ _ h=>h) (by rfl) ?hy3 (by assumption) ?rest3
   case hy3=>(intro w hSw;go_simp;try with_reducible rfl)
   try simp only [Act.put,List.setIfInBounds_toArray,List.set_cons_zero,List.set_cons_succ]
   refine takeW18 (i:=4) (v:=?v4) rfl (by kernel_rfl) (by kernel_rfl) (by kernel_rfl) (fun _ _ _ h=>h) (by rfl) ?hy4 (by assumption) ?rest4
   case hy4=>(intro w hSw;go_simp;try with_reducible rfl)
   try simp only [Act.put,List.setIfInBounds_toArray,List.set_cons_zero,List.set_cons_succ]
   refine takeW18 (i:=5) (v:=?v5) rfl (by kernel_rfl) (by kernel_rfl) (by kernel_rfl) (fun _ _ _ h=>h) (by rfl) ?hy5 (by assumption) ?rest5
   case hy5=>(intro w hSw;go_simp;try with_reducible rfl)
   try simp only [Act.put,List.setIfInBounds_toArray,List.set_cons_zero,List.set_cons_succ]
   refine takeW18 (i:=6) (v:=?v6) rfl (by kernel_rfl) (by kernel_rfl) (by kernel_rfl) (fun _ _ _ h=>h) (by rfl) ?hy6 (by assumption) ?rest6
   case hy6=>(intro w hSw;go_simp;try with_reducible rfl)
   try simp only [Act.put,List.setIfInBounds_toArray,List.set_cons_zero,List.set_cons_succ]
   refine takeW18 (i:=7) (v:=?v7) rfl (by kernel_rfl) (by kernel_rfl) (by kernel_rfl) (fun _ _ _ h=>h) (by rfl) ?hy7 (by assumption) ?rest7
   case hy7=>(intro w hSw;go_simp;try with_reducible rfl)
   try simp only [Act.put,List.setIfInBounds_toArray,List.set_cons_zero,List.set_cons_succ]
   refine wpAnyH_ready (rs:=[8]) (by kernel_rfl) (by simp) ?_
   refine AllReadyH.cons rfl (fun K hK=>?_) AllReadyH.nil
   go_simp
   refine hK.out _ _ (HSS.out _ Below.drew_).1 (fun hHeld=>?_)
   try simp only [Act.put,List.setIfInBounds_toArray]
   clear hK K
   refine wpAnyH_ready (rs:=[9]) (by kernel_rfl) (by simp) ?_
   refine AllReadyH.cons rfl (fun K hK=>?_) AllReadyH.nil
   go_simp
   refine (C5.out _ Below.drew_).mono ?_
   rintro e w5 ⟨v5,rfl,ho5,hb5⟩
   obtain ⟨A5,c5,rfl,-,-,-⟩:=ho5.rdn HL.out
   have D2:Hid (Below wr.heap.size wr w5):=Below.drew_.trans hb5
   have O2:=hid ho5
   have y1:=(HSS.out _ D2.out).2.1
   have y2:=(HSS.out _ D2.out).2.2
   clear hb5 ho5 hd hdd
   go_simp
   refine hK.out _ _ (HSS.out _ D2.out).1 (fun hHeld=>?_)
   try simp only [Act.put,List.setIfInBounds_toArray]
   clear hK K
   refine takeW18 (i:=10) (v:=?v10) rfl (by kernel_rfl) (by kernel_rfl) (by kernel_rfl) (fun _ _ _ h=>h) (by rfl) ?hy10 (by assumption) ?rest10
   case hy10=>(intro w hSw;go_simp;try with_reducible rfl)
   try simp only [Act.put,List.setIfInBounds_toArray,List.set_cons_zero,List.set_cons_succ]
   refine takeW18 (i:=11) (v:=?v11) rfl (by kernel_rfl) (by kernel_rfl) (by kernel_rfl) (fun _ _ _ h=>h) (by rfl) ?hy11 (by assumption) ?rest11
   case hy11=>(intro w hSw;go_simp;try with_reducible rfl)
   try simp only [Act.put,List.setIfInBounds_toArray,List.set_cons_zero,List.set_cons_succ]
   refine wpAnyH_ready (rs:=[12]) (by kernel_rfl) (by simp) ?_
   refine AllReadyH.cons rfl (fun K hK=>?_) AllReadyH.nil
   go_simp
   refine hK.out _ _ (by rw [World.cell?_setCell_far _ _ _ _ (by have:=HGW.out;show ¬ g=w.heap.size;omega)];exact (HSS.out _ D2.out).1) (fun hHeld=>?_)
   try simp only [Act.put]
   clear hK K
   refine wpAnyH_done (by kernel_rfl) ?_ _
   have HST:=hid (HQ.out w5 A5 c5 D2.out O2.out)
   clear y1 y2
   go_wp2_with fail
   have hw:wrap64 ((k:Int)+1)=((k+1:Nat):Int):=by unfold wrap64;have:=HH.out.2.2.2;omega
   go_roundw
   case rel=>exact ⟨k+1,_,by omega,by rw [hw],HST⟩
   case measure =>
    have key:∀ z:Int,intOf (.int .i64 z)=z:=fun z=>rfl
    rw [hw,key,key,Int.toNat_natCast,Int.toNat_natCast]
    omega
  ·
   obtain rfl:k=n:=by omega
   have hii:decide ((k:Int)<(k:Int))=false:=decide_eq_false (by omega)
   have hrl:=HS.out.full nlr nlr (by have:=HH.out.2.2.2;omega)
   have hbel:=BB5.out.trans (HS.out.bel.mono (by have:=HBS.out;omega))
   have HRL:=hid hrl
   have HBE:=hid hbel
   clear hrl hbel
   go_wp2_with (first
    | (refine wpList_ld18 rfl (.tmp 1) rfl _ rfl _ _ HROWr.out rfl ?_)
    | (refine wpList_st18 rfl 73 (.tmp 2) (.tmp 45) rfl _ rfl rfl _ _ HZr.out info_bun rfl rfl ?_;intro W' hrow' _ hoth hbel hsz;have HWB:=hid (hbel _ _ HBE.out (Nat.le_succ _));clear hbel)
    | fail)
   refine bodyPost_ret (res_b Tryz.results140 _ _ rfl hrow' rfl) rfl ⟨HWB.out,some ⟨g,0,none⟩,k,cap,rfl,?_,HC.out.2⟩
   exact HRL.out.maskgo (by have:=HBS.out;omega) (fun p hp u hu=>(hoth p (by have:=HBS.out;omega)).trans hu) (Nat.le_of_eq hsz.symm)
theorem kcut_hh (A:Option Addr) (n c k:Nat) (hk:k≤n) (hc:n≤c) (h0:0<c) (W:World):(Instr.slice 71 (.slice A n c) none (some (.int .i64 (k:Int))) (some (.int .i64 (k:Int)))).run Tryz.prog W=.ok (.slice A k k) W:=by
 have hz:=size_blk
 have ht:=Tryz.underlying71
 have hkc:k≤c:=by omega
 have hne:¬ c=0:=by omega
 go_simp
theorem kcut_l (b o n c k:Nat) (hk:k<n) (hc:n≤c) (x:Int) (hx:x=(k:Int)) (W:World):(Instr.slice 71 (.slice (some ⟨b,o,none⟩) n c) (some (.int .i64 x)) none none).run Tryz.prog W=.ok (.slice (some ⟨b,o+k*5,none⟩) (n - k) (c - k)) W:=by
 subst hx
 have hz:=size_blk
 have ht:=Tryz.underlying71
 have hkn:k≤n:=by omega
 have hkc:k≤c:=by omega
 have hne:¬ c=k:=by omega
 go_simp
theorem rowK_split (ps:List PK) (k:Nat):rowK (ps.take k)++rowK (ps.drop k)=rowK ps:=by rw [← rowK_app,List.take_append_drop]
theorem rowK_take {ps:List PK} {k:Nat} (_hk:k≤ps.length) {j:Nat} {u:Value} (h:(rowK (ps.take k))[j]?=some u):(rowK ps)[j]?=some u:=by
 rw [← rowK_split ps k,List.getElem?_append_left]
 ·
  exact h
 ·
  rcases Nat.lt_or_ge j (rowK (ps.take k)).length with h' | h'
  ·
   exact h'
  ·
   rw [List.getElem?_eq_none h'] at h;cases h
theorem rowK_drop {ps:List PK} {k:Nat} (hk:k≤ps.length) {j:Nat} {u:Value} (h:(rowK (ps.drop k))[j]?=some u):(rowK ps)[k*5+j]?=some u:=by
 have hl:(rowK (ps.take k)).length=k*5:=by rw [rowK_len,List.length_take];omega
 rw [← rowK_split ps k,List.getElem?_append_right (by omega),hl,Nat.add_sub_cancel_left]
 exact h
theorem rowK_src {w:World} {B B' b:Nat} (hB:B≤B'):∀ (ps:List PK) (o:Nat),(∀ j u,(rowK ps)[j]?=some u→w.cell? ⟨b,o+j,none⟩=some u)→(∀ p∈ps,SrcK w B p)→RdKs w B' b o (ps.map (·.x))
 | [],_,_,_=>trivial
 | p::r,o,hc,ho=>by
  have hp:=ho p (by simp)
  have h0:∀ j u,(fiveK p)[j]?=some u→w.cell? ⟨b,o+j,none⟩=some u:=fun j u hj=>hc j u (by
   rw [rowK,List.getElem?_append_left]
   ·
    exact hj
   ·
    rcases Nat.lt_or_ge j (fiveK p).length with h|h
    ·
     exact h
    ·
     rw [List.getElem?_eq_none h] at hj;cases hj)
  refine ⟨⟨p.A,p.nd,p.cd,⟨h0 0 _ rfl,h0 1 _ rfl,h0 2 _ rfl,h0 3 _ rfl,h0 4 _ rfl,hp.1,hp.2.1,hp.2.2.more hB⟩⟩,rowK_src hB r (o+5) (fun j u hj=>?_) (fun q hq=>ho q (by simp [hq]))⟩
  rw [show o+5+j=o+(5+j) by omega]
  refine hc (5+j) u ?_
  rw [rowK,List.getElem?_append_right (by simp [fiveK])]
  simpa [fiveK] using hj
theorem own_src {w:World} {base B g cap m:Nat} {ps:List PK} (h:w.ownsRow base 48 5 (.slice (some ⟨g,0,none⟩) m cap) m (rowK ps)) (hl:ps.length=m) (hs:∀ p∈ps,SrcK w B p) (hB:B≤w.heap.size) (hm:m≤140737488355328) :
  RdL w w.heap.size (some ⟨g,0,none⟩) m (ps.map (·.x)):=by
 refine ⟨by rw [List.length_map,hl],fun _=>⟨g,0,rfl,(World.ownsRow.lt h g rfl).2,rowK_src hB ps 0 (fun j u hj=>?_) hs⟩,hm⟩
 have hjl:j<m*5:=by
  rw [← hl,← rowK_len]
  rcases Nat.lt_or_ge j (rowK ps).length with h|h
  ·
   exact h
  ·
   rw [List.getElem?_eq_none h] at hj;cases hj
 rw [Nat.zero_add,World.ownsRow.cellAt h j hjl]
 exact hj
def DropU (h:BH) (l:List Blk) (q:Nat) (w:World) (e:Ending) (w':World):Prop:=Below w.heap.size w w' ∧
 ((∃ k:Nat,cauU (h.bun l)=0∧plc (pNum q) l 0=(k:Int)∧k+1<l.length∧∃ (A:Option Addr) (n c:Nat),e=.returned (.tuple #[bunV h A n c,.int .i64 0])∧RdL (mask (lows w.heap.size) w') w'.heap.size A n (l.take k++l.drop (k+1))∧n≤c) ∨
  (¬ (cauU (h.bun l)=0∧0≤plc (pNum q) l 0∧plc (pNum q) l 0+1<(l.length:Int))∧∃ z,z≠0∧e=.returned (.tuple #[.agg #[.int .u64 0,.int .i64 0,.int .i64 0,.string ⟨#[]⟩,.int .u64 0,.int .u64 0,.int .i64 0,.string ⟨#[]⟩,.int .u64 0,.int .u64 0,.int .i64 0,.string ⟨#[]⟩,.int .u64 0,.int .u64 0,.int .u64 0,.int .u64 0,.int .u64 0,.slice none 0 0],.int .i64 z])))
def DropZ (h:BH) (l:List Blk) (q:Nat) (w:World) (e:Ending) (w':World):Prop:=Below w.heap.size w w' ∧
 ((∃ k:Nat,cauU (h.bun l)=0∧plc (pNum q) l 0=(k:Int)∧k+1<l.length∧∃ (A:Option Addr) (n c:Nat),e=.returned (.tuple #[bunV h A n c,.int .i64 0])∧RdL (mask (lows w.heap.size) w') w'.heap.size A n (l.take k++l.drop (k+1))∧n≤c) ∨
  (¬ (cauU (h.bun l)=0∧0≤plc (pNum q) l 0∧plc (pNum q) l 0+1<(l.length:Int))∧∃ z,z≠0∧z=(if cauU (h.bun l)=0 then 60 else numZ (cauU (h.bun l)))∧e=.returned (.tuple #[.agg #[.int .u64 0,.int .i64 0,.int .i64 0,.string ⟨#[]⟩,.int .u64 0,.int .u64 0,.int .i64 0,.string ⟨#[]⟩,.int .u64 0,.int .u64 0,.int .i64 0,.string ⟨#[]⟩,.int .u64 0,.int .u64 0,.int .u64 0,.int .u64 0,.int .u64 0,.slice none 0 0],.int .i64 z])))
theorem DropZ.old {h:BH} {l:List Blk} {q:Nat} {w:World} {e:Ending} {w':World} (x:DropZ h l q w e w'):DropU h l q w e w' :=
 ⟨x.1,x.2.elim .inl (fun ⟨h1,z,h2,_,h4⟩=>.inr ⟨h1,z,h2,h4⟩)⟩
theorem udropZ_any (S:Snt) (h:BH) (l:List Blk) (A:Option Addr) (n c B q:Nat) (w:World) (hS:Wd S w) (hd:h.Bd) (hr:RdL w B A n l) (hB:B≤w.heap.size) (hc:n≤c) :
  Calls Tryz.prog 93 #[bunV h A n c,.int .u64 (q:Int)] w (DropZ h l q w):=by
 have HB0:=hid (((Below.refl w.heap.size w).alloc nlr (.cells #[.int .u64 (h.flg:Int),.int .i64 h.crc,.int .i64 h.dsc,.string h.dnm,.int .u64 (h.dn:Int),.int .u64 (h.dv:Int),.int .i64 h.ssc,.string h.snm,.int .u64 (h.sn:Int),.int .u64 (h.sv:Int),.int .i64 h.rsc,.string h.rnm,.int .u64 (h.rn:Int),.int .u64 (h.rv:Int),.int .u64 (h.tim:Int),.int .u64 (h.seq:Int),.int .u64 (h.lif:Int),.slice A n c] 73)).alloc (le_alloc _ _) (.cells #[.int .u64 0,.int .i64 0,.int .i64 0,.string ⟨#[]⟩,.int .u64 0,.int .u64 0,.int .i64 0,.string ⟨#[]⟩,.int .u64 0,.int .u64 0,.int .i64 0,.string ⟨#[]⟩,.int .u64 0,.int .u64 0,.int .u64 0,.int .u64 0,.int .u64 0,.slice none 0 0] 73))
 have HW0:Hid (Below (w.heap.size+2) ((w.alloc (.cells #[.int .u64 (h.flg:Int),.int .i64 h.crc,.int .i64 h.dsc,.string h.dnm,.int .u64 (h.dn:Int),.int .u64 (h.dv:Int),.int .i64 h.ssc,.string h.snm,.int .u64 (h.sn:Int),.int .u64 (h.sv:Int),.int .i64 h.rsc,.string h.rnm,.int .u64 (h.rn:Int),.int .u64 (h.rv:Int),.int .u64 (h.tim:Int),.int .u64 (h.seq:Int),.int .u64 (h.lif:Int),.slice A n c] 73)).alloc (.cells #[.int .u64 0,.int .i64 0,.int .i64 0,.string ⟨#[]⟩,.int .u64 0,.int .u64 0,.int .i64 0,.string ⟨#[]⟩,.int .u64 0,.int .u64 0,.int .i64 0,.string ⟨#[]⟩,.int .u64 0,.int .u64 0,.int .u64 0,.int .u64 0,.int .u64 0,.slice none 0 0] 73)) ((w.alloc (.cells #[.int .u64 (h.flg:Int),.int .i64 h.crc,.int .i64 h.dsc,.string h.dnm,.int .u64 (h.dn:Int),.int .u64 (h.dv:Int),.int .i64 h.ssc,.string h.snm,.int .u64 (h.sn:Int),.int .u64 (h.sv:Int),.int .i64 h.rsc,.string h.rnm,.int .u64 (h.rn:Int),.int .u64 (h.rv:Int),.int .u64 (h.tim:Int),.int .u64 (h.seq:Int),.int .u64 (h.lif:Int),.slice A n c] 73)).alloc (.cells #[.int .u64 0,.int .i64 0,.int .i64 0,.string ⟨#[]⟩,.int .u64 0,.int .u64 0,.int .i64 0,.string ⟨#[]⟩,.int .u64 0,.int .u64 0,.int .i64 0,.string ⟨#[]⟩,.int .u64 0,.int .u64 0,.int .u64 0,.int .u64 0,.int .u64 0,.slice none 0 0] 73))):=Below.refl _ _
 have HS0:Hid (((w.alloc (.cells #[.int .u64 (h.flg:Int),.int .i64 h.crc,.int .i64 h.dsc,.string h.dnm,.int .u64 (h.dn:Int),.int .u64 (h.dv:Int),.int .i64 h.ssc,.string h.snm,.int .u64 (h.sn:Int),.int .u64 (h.sv:Int),.int .i64 h.rsc,.string h.rnm,.int .u64 (h.rn:Int),.int .u64 (h.rv:Int),.int .u64 (h.tim:Int),.int .u64 (h.seq:Int),.int .u64 (h.lif:Int),.slice A n c] 73)).alloc (.cells #[.int .u64 0,.int .i64 0,.int .i64 0,.string ⟨#[]⟩,.int .u64 0,.int .u64 0,.int .i64 0,.string ⟨#[]⟩,.int .u64 0,.int .u64 0,.int .i64 0,.string ⟨#[]⟩,.int .u64 0,.int .u64 0,.int .u64 0,.int .u64 0,.int .u64 0,.slice none 0 0] 73)).heap.size=w.heap.size+2):=by show _=_;simp
 have HX1:=hid (fun (W:World) (hb:Below (w.heap.size+2) ((w.alloc (.cells #[.int .u64 (h.flg:Int),.int .i64 h.crc,.int .i64 h.dsc,.string h.dnm,.int .u64 (h.dn:Int),.int .u64 (h.dv:Int),.int .i64 h.ssc,.string h.snm,.int .u64 (h.sn:Int),.int .u64 (h.sv:Int),.int .i64 h.rsc,.string h.rnm,.int .u64 (h.rn:Int),.int .u64 (h.rv:Int),.int .u64 (h.tim:Int),.int .u64 (h.seq:Int),.int .u64 (h.lif:Int),.slice A n c] 73)).alloc (.cells #[.int .u64 0,.int .i64 0,.int .i64 0,.string ⟨#[]⟩,.int .u64 0,.int .u64 0,.int .i64 0,.string ⟨#[]⟩,.int .u64 0,.int .u64 0,.int .i64 0,.string ⟨#[]⟩,.int .u64 0,.int .u64 0,.int .u64 0,.int .u64 0,.int .u64 0,.slice none 0 0] 73)) W)=>(row_of_box (w:=w) (g:=w.heap.size) rfl (((Below.refl (w.heap.size+1) (w.alloc (.cells #[.int .u64 (h.flg:Int),.int .i64 h.crc,.int .i64 h.dsc,.string h.dnm,.int .u64 (h.dn:Int),.int .u64 (h.dv:Int),.int .i64 h.ssc,.string h.snm,.int .u64 (h.sn:Int),.int .u64 (h.sv:Int),.int .i64 h.rsc,.string h.rnm,.int .u64 (h.rn:Int),.int .u64 (h.rv:Int),.int .u64 (h.tim:Int),.int .u64 (h.seq:Int),.int .u64 (h.lif:Int),.slice A n c] 73))).alloc (by simp) (.cells #[.int .u64 0,.int .i64 0,.int .i64 0,.string ⟨#[]⟩,.int .u64 0,.int .u64 0,.int .i64 0,.string ⟨#[]⟩,.int .u64 0,.int .u64 0,.int .i64 0,.string ⟨#[]⟩,.int .u64 0,.int .u64 0,.int .u64 0,.int .u64 0,.int .u64 0,.slice none 0 0] 73)).trans (hb.mono (Nat.le_succ _)))))
 have HX2:=hid (fun (W:World) (hb:Below (w.heap.size+2) ((w.alloc (.cells #[.int .u64 (h.flg:Int),.int .i64 h.crc,.int .i64 h.dsc,.string h.dnm,.int .u64 (h.dn:Int),.int .u64 (h.dv:Int),.int .i64 h.ssc,.string h.snm,.int .u64 (h.sn:Int),.int .u64 (h.sv:Int),.int .i64 h.rsc,.string h.rnm,.int .u64 (h.rn:Int),.int .u64 (h.rv:Int),.int .u64 (h.tim:Int),.int .u64 (h.seq:Int),.int .u64 (h.lif:Int),.slice A n c] 73)).alloc (.cells #[.int .u64 0,.int .i64 0,.int .i64 0,.string ⟨#[]⟩,.int .u64 0,.int .u64 0,.int .i64 0,.string ⟨#[]⟩,.int .u64 0,.int .u64 0,.int .i64 0,.string ⟨#[]⟩,.int .u64 0,.int .u64 0,.int .u64 0,.int .u64 0,.int .u64 0,.slice none 0 0] 73)) W)=>(row_of_box (w:=w.alloc (.cells #[.int .u64 (h.flg:Int),.int .i64 h.crc,.int .i64 h.dsc,.string h.dnm,.int .u64 (h.dn:Int),.int .u64 (h.dv:Int),.int .i64 h.ssc,.string h.snm,.int .u64 (h.sn:Int),.int .u64 (h.sv:Int),.int .i64 h.rsc,.string h.rnm,.int .u64 (h.rn:Int),.int .u64 (h.rv:Int),.int .u64 (h.tim:Int),.int .u64 (h.seq:Int),.int .u64 (h.lif:Int),.slice A n c] 73)) (g:=w.heap.size+1) (by simp) hb))
 have C1:=hid (ucheck_any S h l A n c B ((w.alloc (.cells #[.int .u64 (h.flg:Int),.int .i64 h.crc,.int .i64 h.dsc,.string h.dnm,.int .u64 (h.dn:Int),.int .u64 (h.dv:Int),.int .i64 h.ssc,.string h.snm,.int .u64 (h.sn:Int),.int .u64 (h.sv:Int),.int .i64 h.rsc,.string h.rnm,.int .u64 (h.rn:Int),.int .u64 (h.rv:Int),.int .u64 (h.tim:Int),.int .u64 (h.seq:Int),.int .u64 (h.lif:Int),.slice A n c] 73)).alloc (.cells #[.int .u64 0,.int .i64 0,.int .i64 0,.string ⟨#[]⟩,.int .u64 0,.int .u64 0,.int .i64 0,.string ⟨#[]⟩,.int .u64 0,.int .u64 0,.int .i64 0,.string ⟨#[]⟩,.int .u64 0,.int .u64 0,.int .u64 0,.int .u64 0,.int .u64 0,.slice none 0 0] 73)) ((hS.alloc _).alloc _) hd (hr.below (HB0.out.mono hB)) (Nat.le_trans hB HB0.out.size) hc)
 have q1:=fun (W:World) (u:TypeId) (x:Value)=>run_neq_iface_nil (P:=Tryz.prog) (w:=W) 95 (by kernel_rfl) u x
 have HR:=hid (And.intro hr (And.intro hB (And.intro hc hd)))
 have HN:=hid hr.1
 have CN:=hid unumber_any
 have HG:Hid (∀ e w',(Below w.heap.size w w' ∧
  ((∃ k:Nat,cauU (h.bun l)=0∧plc (pNum q) l 0=(k:Int)∧k+1<l.length∧∃ (A:Option Addr) (n c:Nat),e=.returned (.tuple #[bunV h A n c,.int .i64 0])∧RdL (mask (lows w.heap.size) w') w'.heap.size A n (l.take k++l.drop (k+1))∧n≤c) ∨
   (¬ (cauU (h.bun l)=0∧0≤plc (pNum q) l 0∧plc (pNum q) l 0+1<(l.length:Int))∧∃ z,z≠0∧z=(if cauU (h.bun l)=0 then 60 else numZ (cauU (h.bun l)))∧e=.returned (.tuple #[.agg #[.int .u64 0,.int .i64 0,.int .i64 0,.string ⟨#[]⟩,.int .u64 0,.int .u64 0,.int .i64 0,.string ⟨#[]⟩,.int .u64 0,.int .u64 0,.int .i64 0,.string ⟨#[]⟩,.int .u64 0,.int .u64 0,.int .u64 0,.int .u64 0,.int .u64 0,.slice none 0 0],.int .i64 z]))))→DropZ h l q w e w'):=fun _ _ hh=>hh
 clear hr hB hc hS hd
 by_cases hz:cauU (h.bun l)=0
 case neg =>
  have HZ:=hid hz
  have hnz:numZ (cauU (h.bun l))≠0:=by
   unfold numZ
   split
   ·
    exact hz
   ·
    decide
  have HNZ:=hid hnz
  have HE:Hid (numZ (cauU (h.bun l))=(if cauU (h.bun l)=0 then 60 else numZ (cauU (h.bun l)))):=(if_neg hz).symm
  generalize cauU (h.bun l)=z at *
  clear hnz
  unfold bunV at *
  go_enter Tryz.func93,Tryz.ntmps93
  go_wp2_with (first
   | (refine wpList_ld18 rfl (.tmp 2) rfl _ rfl _ _ (HX1.out _ HW0.out) rfl ?_)
   | fail)
  refine C1.out.mono ?_
  rintro e w1 ⟨hb,⟨h0,-⟩|⟨-,s,rfl⟩⟩
  ·
   exact absurd h0 hz
  have B1:=hid (Below.push HW0.out (Nat.le_of_eq HS0.out.symm) hb)
  clear hb hz
  have C2:=hid (CN.out z s w1)
  unfold ufl at *
  go_wp2_with fail
  refine C2.out.mono ?_
  rintro e w2 ⟨rfl,hb⟩
  have B2:=hid (Below.push B1.out (Nat.le_of_eq HS0.out.symm) hb)
  clear hb
  go_wp2_with (first
   | (refine wpList_st18 rfl 73 (.tmp 4) (.tmp 12) rfl _ rfl rfl _ _ (HX2.out _ B2.out) info_bun rfl rfl ?_;intro W' hrow' _ _ hbel _;have HWB:=hid (hbel _ _ (HB0.out.trans (B2.out.mono (Nat.le_add_right _ 2))) (Nat.le_succ _));clear hbel)
   | fail)
  exact bodyPost_ret (res_bt Tryz.results93 _ _ rfl hrow' rfl) rfl (HG.out _ _ ⟨HWB.out,.inr ⟨fun hh=>HZ.out hh.1,_,HNZ.out,HE.out,rfl⟩⟩)
 have HL16:Hid (1≤n∧n≤16):=by show _∧_;rw [← HN.out];exact blksOk_len (cauU_0.1 hz).2.2
 have C2:=hid (fun (W:World) (hb:Below (w.heap.size+2) ((w.alloc (.cells #[.int .u64 (h.flg:Int),.int .i64 h.crc,.int .i64 h.dsc,.string h.dnm,.int .u64 (h.dn:Int),.int .u64 (h.dv:Int),.int .i64 h.ssc,.string h.snm,.int .u64 (h.sn:Int),.int .u64 (h.sv:Int),.int .i64 h.rsc,.string h.rnm,.int .u64 (h.rn:Int),.int .u64 (h.rv:Int),.int .u64 (h.tim:Int),.int .u64 (h.seq:Int),.int .u64 (h.lif:Int),.slice A n c] 73)).alloc (.cells #[.int .u64 0,.int .i64 0,.int .i64 0,.string ⟨#[]⟩,.int .u64 0,.int .u64 0,.int .i64 0,.string ⟨#[]⟩,.int .u64 0,.int .u64 0,.int .i64 0,.string ⟨#[]⟩,.int .u64 0,.int .u64 0,.int .u64 0,.int .u64 0,.int .u64 0,.slice none 0 0] 73)) W)=>place_any A n c B q l W (HR.out.1.below ((HB0.out.trans (hb.mono (Nat.le_add_right _ 2))).mono HR.out.2.1)) (Nat.le_trans HR.out.2.1 (HB0.out.trans (hb.mono (Nat.le_add_right _ 2))).size))
 have hpb : -1≤plc (pNum q) l 0∧plc (pNum q) l 0<(n:Int):=by have:=plc_bd (pNum q) l 0;rw [HN.out] at this;omega
 have HZ:=hid hz
 by_cases hbad:plc (pNum q) l 0<0∨plc (pNum q) l 0+1=(n:Int)
 ·
  have HBAD:Hid (¬ (cauU (h.bun l)=0∧0≤plc (pNum q) l 0∧plc (pNum q) l 0+1<(l.length:Int))):=fun hh=>by rw [HN.out] at hh;omega
  by_cases hneg:plc (pNum q) l 0<0
  ·
   have d1:decide (plc (pNum q) l 0<0)=true:=decide_eq_true hneg
   generalize plc (pNum q) l 0=p at *
   generalize cauU (h.bun l)=z at *
   subst hz
   clear hbad
   unfold bunV at *
   go_enter Tryz.func93,Tryz.ntmps93
   go_wp2_with (first
    | (refine wpList_ld18 rfl (.tmp 2) rfl _ rfl _ _ (HX1.out _ HW0.out) rfl ?_)
    | fail)
   refine C1.out.mono ?_
   rintro e w1 ⟨hb,⟨-,rfl⟩|⟨h0,-⟩⟩
   case inr=>exact absurd rfl h0
   have B1:=hid (Below.push HW0.out (Nat.le_of_eq HS0.out.symm) hb)
   clear hb
   have x17:=cell_row (HX1.out _ B1.out) 17 rfl
   go_wp2_with fail
   refine (C2.out _ B1.out).mono ?_
   rintro e w2 ⟨rfl,hb⟩
   have B2:=hid (Below.push B1.out (Nat.le_of_eq HS0.out.symm) hb)
   clear hb x17
   go_wp2_with (first
    | (refine wpList_st18 rfl 73 (.tmp 4) (.tmp 29) rfl _ rfl rfl _ _ (HX2.out _ B2.out) info_bun rfl rfl ?_;intro W' hrow' _ _ hbel _;have HWB:=hid (hbel _ _ (HB0.out.trans (B2.out.mono (Nat.le_add_right _ 2))) (Nat.le_succ _));clear hbel)
    | fail)
   exact bodyPost_ret (res_bt Tryz.results93 _ _ rfl hrow' rfl) rfl (HG.out _ _ ⟨HWB.out,.inr ⟨HBAD.out,60,by decide,(by simp),rfl⟩⟩)
  ·
   have d1:decide (plc (pNum q) l 0<0)=false:=decide_eq_false hneg
   have hl:=HL16.out
   have hw1:wrap64 ((n:Int) - 1)=(n:Int) - 1:=by unfold wrap64;omega
   have d2:(plc (pNum q) l 0==(n:Int) - 1)=true:=by simp;omega
   clear hl
   generalize plc (pNum q) l 0=p at *
   generalize cauU (h.bun l)=z at *
   subst hz
   clear hbad
   unfold bunV at *
   go_enter Tryz.func93,Tryz.ntmps93
   go_wp2_with (first
    | (refine wpList_ld18 rfl (.tmp 2) rfl _ rfl _ _ (HX1.out _ HW0.out) rfl ?_)
    | fail)
   refine C1.out.mono ?_
   rintro e w1 ⟨hb,⟨-,rfl⟩|⟨h0,-⟩⟩
   case inr=>exact absurd rfl h0
   have B1:=hid (Below.push HW0.out (Nat.le_of_eq HS0.out.symm) hb)
   clear hb
   have x17:=cell_row (HX1.out _ B1.out) 17 rfl
   go_wp2_with fail
   refine (C2.out _ B1.out).mono ?_
   rintro e w2 ⟨rfl,hb⟩
   have B2:=hid (Below.push B1.out (Nat.le_of_eq HS0.out.symm) hb)
   clear hb x17
   have x17:=cell_row (HX1.out _ B2.out) 17 rfl
   go_wp2_with (first
    | (refine wpList_st18 rfl 73 (.tmp 4) (.tmp 29) rfl _ rfl rfl _ _ (HX2.out _ B2.out) info_bun rfl rfl ?_;intro W' hrow' _ _ hbel _;have HWB:=hid (hbel _ _ (HB0.out.trans (B2.out.mono (Nat.le_add_right _ 2))) (Nat.le_succ _));clear hbel)
    | fail)
   exact bodyPost_ret (res_bt Tryz.results93 _ _ rfl hrow' rfl) rfl (HG.out _ _ ⟨HWB.out,.inr ⟨HBAD.out,60,by decide,(by simp),rfl⟩⟩)
 obtain ⟨k,hk⟩:∃ k:Nat,plc (pNum q) l 0=(k:Int):=⟨(plc (pNum q) l 0).toNat,by omega⟩
 have hk1:k+1<n:=by omega
 have HK:=hid (And.intro hk hk1)
 have hl16:=HL16.out
 obtain ⟨b,o,rfl,hb,hks⟩:=HR.out.1.2.1 (by omega)
 obtain ⟨ps,hmap,hcell,hsrc⟩:=hks.pks
 have hlen:ps.length=n:=by rw [← HN.out,← hmap,List.length_map]
 have HP:=hid (And.intro hmap (And.intro hcell (And.intro hsrc hlen)))
 have HH:=hid hb
 have hcn:n≤c:=HR.out.2.2.1
 have cut1:=fun W=>kcut_hh (some ⟨b,o,none⟩) n c k (by omega) hcn (by omega) W
 have hwk:wrap64 ((k:Int)+1)=(k:Int)+1:=by unfold wrap64;omega
 have hwk2:IntKind.i64.wrap ((k:Int)+1)=(k:Int)+1:=by rw [IntKind.wrap_i64];omega
 have cut2:=fun W=>kcut_l b o n c (k+1) hk1 hcn ((k:Int)+1) (by omega) W
 obtain ⟨N1,hN1⟩:∃ N1,n - (k+1)=N1:=⟨_,rfl⟩
 rw [hN1] at cut2
 have HN1:Hid (k+N1+1=n∧0<N1):=by show _∧_;omega
 clear hN1
 obtain ⟨i0,hi0,hz0,hz1,hz2⟩:=info_parts info_blk
 have HI:=hid hi0
 have HI0:=hid hz0
 have HI1:=hid hz1
 have HI2:=hid hz2
 have HLO:Hid ((rowK (ps.take k)).length=k*5):=by show _=_;rw [rowK_len,List.length_take,hlen];have:=HN1.out;congr 1;omega
 have HLN:Hid ((rowK (ps.drop (k+1))).length=N1*5):=by show _=_;rw [rowK_len,List.length_drop,hlen];have:=HN1.out;congr 1;omega
 clear hi0 hz0 hz1 hz2
 have d1:decide ((k:Int)<0)=false:=decide_eq_false (by omega)
 have hw1:wrap64 ((n:Int) - 1)=(n:Int) - 1:=by unfold wrap64;omega
 have d2:((k:Int)==(n:Int) - 1)=false:=by simp;omega
 rw [hk] at C2
 clear hpb hbad hmap hcell hsrc hlen hks hb hl16 hk
 generalize cauU (h.bun l)=z at *
 subst hz
 unfold bunV at *
 go_enter Tryz.func93,Tryz.ntmps93
 go_wp2_with (first
  | (refine wpList_ld18 rfl (.tmp 2) rfl _ rfl _ _ (HX1.out _ HW0.out) rfl ?_)
  | fail)
 refine C1.out.mono ?_
 rintro e w1 ⟨hb,⟨-,rfl⟩|⟨h0,-⟩⟩
 case inr=>exact absurd rfl h0
 have B1:=hid (Below.push HW0.out (Nat.le_of_eq HS0.out.symm) hb)
 clear hb
 have x17:=cell_row (HX1.out _ B1.out) 17 rfl
 go_wp2_with fail
 refine (C2.out _ B1.out).mono ?_
 rintro e w2 ⟨rfl,hb⟩
 have B2:=hid (Below.push B1.out (Nat.le_of_eq HS0.out.symm) hb)
 clear hb x17
 have x17:=cell_row (HX1.out _ B2.out) 17 rfl
 go_wp2_with fail
 have x17d:=drew_cell x17
 refine wp_region_still_tail 10 (by kernel_rfl) (by kernel_rfl) ?_
 simp only [List.take_succ_cons,List.take_zero,List.drop_succ_cons,List.drop_zero]
 repeat still_step
 refine wpStill_nil ?_
 have BD:=hid B2.out.drew
 change wpList _ _ _ _ _ w2.drew
 generalize w2.drew=w3 at *
 have HC3:Hid (∀ j u,(rowK ps)[j]?=some u→w3.cell? ⟨b,o+j,none⟩=some u):=fun j u hj=>by
  rw [(HB0.out.trans (BD.out.mono (Nat.le_add_right _ 2))).cell (p:=⟨b,o+j,none⟩) (Nat.lt_of_lt_of_le HH.out HR.out.2.1)]
  exact HP.out.2.1 j u hj
 have HOL:Hid (∀ bb:Addr,some (⟨b,o,none⟩:Addr)=some bb→∀ j u,(rowK (ps.take k))[j]?=some u→w3.cell? (bb.add j)=some u):=fun bb e j u hj=>by
  cases e
  rw [show (⟨b,o,none⟩:Addr).add j=⟨b,o+j,none⟩ by unfold Addr.add;split <;> simp_all]
  exact HC3.out j u (rowK_take (by have:=HP.out.2.2.2;have:=HN1.out;omega) hj)
 have HNW:Hid (∀ j u,(rowK (ps.drop (k+1)))[j]?=some u→w3.cell? ((⟨b,o+(k+1)*5,none⟩:Addr).add j)=some u):=fun j u hj=>by
  rw [show (⟨b,o+(k+1)*5,none⟩:Addr).add j=⟨b,o+((k+1)*5+j),none⟩ by unfold Addr.add;split <;> simp_all;omega]
  exact HC3.out _ u (rowK_drop (by have:=HP.out.2.2.2;have:=HN1.out;omega) hj)
 clear x17 x17d
 have hw3:w.heap.size+2≤w3.heap.size:=by have:=BD.out.size;have:=HS0.out;omega
 have HW3:=hid hw3
 clear hw3
 refine wpList_append_grows w3 rfl (.tmp 34) (.tmp 39) 71 rfl 48 i0 _ 5 56 Tryz.underlying71 HI.out HI0.out HI1.out HI2.out rfl (by decide) (some ⟨b,o,none⟩) k k (rowK (ps.take k)) rfl (fun e=>by cases e) HLO.out HOL.out ⟨b,o+(k+1)*5,none⟩ N1 (c - (k+1)) (rowK (ps.drop (k+1))) rfl HLN.out HNW.out (rowK_one _) (by have:=HN1.out;omega) (by have:=HN1.out;have:=HL16.out;unfold maxLen;omega) (by have:=HN1.out;have:=HL16.out;omega) ?_
 intro v4 w4 ho4 hg4
 have B4:=hid (BD.out.grown hg4 HW3.out (fun _ e=>by cases e))
 obtain ⟨g,cap,rfl,hg3,hlt4⟩:=ho4.form (by have:=HN1.out;omega)
 have x17:=cell_row (HX1.out _ B4.out) 17 rfl
 have f17:=row_free (HX1.out _ B4.out) 17
 have hrow5:=set17 (.slice (some ⟨g,0,none⟩) (k+N1) cap) (HX1.out _ B4.out)
 have hz5:(w4.setCell ⟨w.heap.size,17,none⟩ (.slice (some ⟨g,0,none⟩) (k+N1) cap)).heap[w.heap.size+1]?=_:=(Below.heap_setCell w4 ⟨w.heap.size,17,none⟩ (.slice (some ⟨g,0,none⟩) (k+N1) cap) (w.heap.size+1) (by simp)).trans (HX2.out _ B4.out)
 have hown5:=ownsRow_setCell_below ho4 (a:=⟨w.heap.size,17,none⟩) (by have:=HW3.out;show w.heap.size<_;omega) (.slice (some ⟨g,0,none⟩) (k+N1) cap)
 have BB5:=hid ((HB0.out.trans (B4.out.mono (Nat.le_add_right _ 2))).setCell (p:=⟨w.heap.size,17,none⟩) nlr (.slice (some ⟨g,0,none⟩) (k+N1) cap))
 have hsz5:(w4.setCell ⟨w.heap.size,17,none⟩ (.slice (some ⟨g,0,none⟩) (k+N1) cap)).heap.size=w4.heap.size:=by simp [World.setCell]
 have HSZ5:Hid (w.heap.size+2≤(w4.setCell ⟨w.heap.size,17,none⟩ (.slice (some ⟨g,0,none⟩) (k+N1) cap)).heap.size):=by show _≤_;rw [hsz5];have:=B4.out.size;have:=HS0.out;omega
 have hmm:(ps.take k++ps.drop (k+1)).map (·.x)=l.take k++l.drop (k+1):=by rw [List.map_append,List.map_take,List.map_drop,HP.out.1]
 have hr5:=own_src (B:=B) (ps:=ps.take k++ps.drop (k+1)) (by rw [rowK_app];exact hown5) (by rw [List.length_append,List.length_take,List.length_drop];have:=HP.out.2.2.2;have:=HN1.out;omega)
  (fun p hp=>(HP.out.2.2.1 p (by rcases List.mem_append.1 hp with h|h;exact List.mem_of_mem_take h;exact List.mem_of_mem_drop h)).below (BB5.out.mono HR.out.2.1))
  (Nat.le_trans HR.out.2.1 BB5.out.size) (by have:=HN1.out;have:=HL16.out;omega)
 rw [hmm] at hr5
 have C9:=hid (ucopied_any h (l.take k++l.drop (k+1)) (some ⟨g,0,none⟩) (k+N1) cap _ _ HR.out.2.2.2 hr5 nlr (by have:=HN1.out;omega) (by have:=HN1.out;have:=HL16.out;omega))
 unfold bunV at C9
 have HROW5:=hid hrow5
 have HZ5:=hid hz5
 clear ho4 hg4 hg3 hlt4 hrow5 hz5 hown5 hsz5 hmm hr5
 go_wp2_with (first
  | (refine wpList_ld18 rfl (.tmp 2) rfl _ rfl _ _ HROW5.out rfl ?_)
  | fail)
 refine C9.out.mono ?_
 rintro e w9 ⟨hb9,A9,n9,c9,rfl,hr9,hc9⟩
 have HZ9:=hid ((hb9.block (w.heap.size+1) (by have:=HSZ5.out;omega)).trans HZ5.out)
 have B9:=hid (BB5.out.trans (hb9.mono (by have:=HSZ5.out;omega)))
 have HR9:=hid (And.intro hr9 hc9)
 clear hb9 hr9 hc9 x17 f17
 unfold bunV at *
 go_wp2_with (first
  | (refine wpList_st18 rfl 73 (.tmp 4) (.tmp 43) rfl _ rfl rfl _ _ HZ9.out info_bun rfl rfl ?_;intro W' hrow' _ hoth hbel hsz';have HWB:=hid (hbel _ _ B9.out (Nat.le_succ _));clear hbel)
  | fail)
 refine bodyPost_ret (res_bt Tryz.results93 _ _ rfl hrow' rfl) rfl (HG.out _ _ ⟨HWB.out,.inl ⟨k,trivial,HK.out.1,by rw [HN.out];exact HK.out.2,A9,n9,c9,rfl,?_,HR9.out.2⟩⟩)
 exact HR9.out.1.maskgo (by have:=HSZ5.out;omega) (fun p hp u hu=>(hoth p (by have:=HSZ5.out;omega)).trans hu) (Nat.le_of_eq hsz'.symm)
theorem udrop_any (S:Snt) (h:BH) (l:List Blk) (A:Option Addr) (n c B q:Nat) (w:World) (hS:Wd S w) (hd:h.Bd) (hr:RdL w B A n l) (hB:B≤w.heap.size) (hc:n≤c) :
  Calls Tryz.prog 93 #[bunV h A n c,.int .u64 (q:Int)] w (DropU h l q w) :=
 (udropZ_any S h l A n c B q w hS hd hr hB hc).mono (fun _ _ hh=>hh.old)
end Go.Proofs.YtlecbblmaadpiaaGreatDoor
