import Derived.Test.YtlecbblmaadpiaaGreatDoorKBlkC
import Derived.Test.YtlecbblmaadpiaaGreatDoorKBunG
import Derived.Test.YtlecbblmaadpiaaGreatDoorKNumE
import Derived.Test.YtlecbblmaadpiaaGreatDoorKRfC
import Derived.Stop.IfaceNil
import Derived.Deep.RegionHeld3
namespace Go.Proofs.YtlecbblmaadpiaaGreatDoor
set_option maxRecDepth 100000
set_option maxHeartbeats 16000000
open Go.RowKit
open Go.Lib (hid)
theorem bccheck_any (t n f:Nat) (c:Int) (A:Option Addr) (nd cd:Nat) (d:List UInt8) (w:World) (hd:d.length=nd) :
  Calls Tryz.prog 179 #[blkV t n f c A nd cd] w fun e w'=>e=.returned (.bool (blkOk ⟨t,n,f,c,d⟩))∧Below w.heap.size w w':=by
 have C1:=hid (fun W=>bcheck_any t n f c A nd cd d W hd)
 have q2:=fun (W:World) (u:TypeId) (x:Value)=>run_eql_iface_nil (P:=Tryz.prog) (w:=W) 95 (by kernel_rfl) u x
 clear hd
 generalize blkOk ⟨t,n,f,c,d⟩=R at *
 unfold blkV at *
 go_enter Tryz.func179,Tryz.ntmps179
 go_wp2_with fail
 refine (C1.out _).mono ?_
 rintro e w1 ⟨hb,⟨rfl,rfl⟩|⟨rfl,s,rfl⟩⟩
 ·
  have HB:=hid (((Below.refl _ _).alloc nlr _).trans (hb.mono (le_alloc _ _)))
  clear hb
  go_wp2_with fail
  go_ret
  exact ⟨rfl,HB.out⟩
 ·
  have HB:=hid (((Below.refl _ _).alloc nlr _).trans (hb.mono (le_alloc _ _)))
  clear hb
  unfold bfl at *
  go_wp2_with fail
  go_ret
  exact ⟨rfl,HB.out⟩
def plc (p:Blk→Bool):List Blk→Nat→Int
 | [],_ => -1
 | x::r,i=>if p x=true then (i:Int) else plc p r (i+1)
theorem plc_ge (p:Blk→Bool):∀ (l:List Blk) (i:Nat),decide (0≤plc p l i)=l.any p
 | [],_=>by simp [plc]
 | x::r,i=>by
  rw [plc,List.any_cons]
  cases h:p x
  ·
   rw [if_neg (by decide),plc_ge p r (i+1),Bool.false_or]
  ·
   rw [if_pos rfl,Bool.true_or];simp
theorem plc_bd (p:Blk→Bool):∀ (l:List Blk) (i:Nat),-1≤plc p l i∧plc p l i<i+l.length
 | [],i=>by simp [plc];omega
 | x::r,i=>by
  rw [plc,List.length_cons]
  have:=plc_bd p r (i+1)
  split <;> omega
theorem plc_at (p:Blk→Bool) (l:List Blk) (i:Nat) (hi:i<l.length):plc p (l.drop i) i=if p (l[i]'hi)=true then (i:Int) else plc p (l.drop (i+1)) (i+1):=by
 rw [List.drop_eq_getElem_cons hi,plc]
def pNum (q:Nat) (x:Blk):Bool:=decide (x.num=q)
def pTyp (q:Nat) (x:Blk):Bool:=decide (x.typ=q)
theorem cl_num (x:Blk) (A:Option Addr) (nd cd g q:Nat) (w:World) (hg:w.cell? ⟨g,0,none⟩=some (.int .u64 (q:Int))) :
  Calls Tryz.prog 178 #[blkV x.typ x.num x.flg x.crc A nd cd,.pointer (some ⟨g,0,none⟩)] w fun e w'=>e=.returned (.bool (pNum q x))∧Below w.heap.size w w':=by
 have hlt:=World.block_lt_of_cell? w _ hg
 have hg1:(w.alloc (.cells #[.int .u64 (x.typ:Int),.int .u64 (x.num:Int),.int .u64 (x.flg:Int),.int .i64 x.crc,.slice A nd cd] 48)).cell? ⟨g,0,none⟩=some (.int .u64 (q:Int)):=(World.cell?_alloc_lt _ _ _ hlt).trans hg
 obtain ⟨R,hR⟩:∃ R,R=pNum q x:=⟨_,rfl⟩
 rw [← hR]
 have hr:((x.num:Int)==(q:Int))=R:=by
  rw [hR];unfold pNum
  rw [Bool.eq_iff_iff];simp
  omega
 unfold blkV
 clear hg hR hlt
 cases R with
 | true =>
  go_enter Tryz.func178,Tryz.ntmps178
  go_wp2_with fail
  go_ret
  exact ⟨rfl,(Below.refl _ _).alloc nlr _⟩
 | false =>
  go_enter Tryz.func178,Tryz.ntmps178
  go_wp2_with fail
  go_ret
  exact ⟨rfl,(Below.refl _ _).alloc nlr _⟩
theorem ixf_num (A:Option Addr) (n c B q g:Nat) (l:List Blk) (w:World) (h:RdL w B A n l) (hB:B≤w.heap.size) (hg:w.cell? ⟨g,0,none⟩=some (.int .u64 (q:Int))) (hlt:g<w.heap.size) :
  Calls Tryz.prog 177 #[.slice A n c,.func (.func 178) #[] #[.pointer (some ⟨g,0,none⟩)]] w fun e w'=>e=.returned (.int .i64 (plc (pNum q) l 0))∧Below w.heap.size w w':=by
 have CL:=hid (fun x A nd cd (W:World) (hb:Below w.heap.size w W)=>cl_num x A nd cd g q W ((hb.cell (p:=⟨g,0,none⟩) hlt).trans hg))
 obtain ⟨R,hR⟩:∃ R,R=plc (pNum q) l 0:=⟨_,rfl⟩
 rw [← hR]
 have HR:=hid hR
 have HH:=hid h
 have hn47:=h.2.2
 have HB0:=hid hB
 clear hR hg hlt h hB
 unfold blkV at *
 go_enter Tryz.func177,Tryz.ntmps177
 go_wp2_with fail
 go_loopw [8] (fun v wl=>∃ i:Nat,i≤n∧v=.int .i64 (i:Int)∧Hid (Below w.heap.size w wl)∧Hid (plc (pNum q) (l.drop i) i=R)) (fun v _=>n - (intOf v).toNat)
 case atStart=>exact ⟨0,Nat.zero_le _,rfl,Below.refl _ _,HR.out.symm⟩
 case round =>
  obtain ⟨i,hi,rfl,HB,HP⟩:=hrel
  by_cases hlt:i<n
  ·
   have hil:i<l.length:=by rw [HH.out.1];exact hlt
   obtain ⟨b,o,hA,hbB,hks⟩:=HH.out.2.1 (by omega)
   obtain ⟨A1,nd,cd,hk⟩:=hks.get i hil
   have hk2:=hk.below (HB.out.mono HB0.out) hbB
   have hp:=plc_at (pNum q) l i hil
   rw [HP.out] at hp
   generalize l[i]=x at *
   have g0:=hk2.k0
   have g1:=hk2.k1
   have g2:=hk2.k2
   have g3:=hk2.k3
   have g4:=hk2.k4
   have C1:=hid (CL.out x A1 nd cd wr HB.out)
   have HPP:=hid hp
   clear hp hk hk2 hks hbB
   subst hA
   cases hv:pNum q x with
   | true =>
    rw [hv] at C1
    have e:R=(i:Int):=by rw [HPP.out,hv,if_pos rfl]
    clear HPP HP HR hv
    subst e
    go_wp2_with fail
    refine C1.out.mono ?_
    rintro e w1 ⟨rfl,hb⟩
    have HB2:=hid (HB.out.trans (hb.mono HB.out.size))
    clear hb g0 g1 g2 g3 g4
    go_wp2_with fail
    go_ret
    exact ⟨rfl,HB2.out⟩
   | false =>
    rw [hv] at C1
    have HP2:Hid (plc (pNum q) (l.drop (i+1)) (i+1)=R):=by show _=_;rw [HPP.out,hv,if_neg (by decide)]
    clear HPP HP hv
    go_wp2_with fail
    refine C1.out.mono ?_
    rintro e w1 ⟨rfl,hb⟩
    have HB2:=hid (HB.out.trans (hb.mono HB.out.size))
    clear hb g0 g1 g2 g3 g4
    go_wp2_with fail
    go_roundw
    case rel=>exact ⟨i+1,by omega,by go_num,HB2.out,HP2.out⟩
    case measure=>simp [intOf];omega
  ·
   obtain rfl:i=n:=by omega
   have e:R = -1:=by
    rw [← HP.out,List.drop_eq_nil_of_le (by rw [HH.out.1];exact Nat.le_refl _)];rfl
   clear HP HR
   subst e
   have HBE:=hid HB.out
   go_wp2_with fail
   go_ret
   exact ⟨rfl,HBE.out⟩
theorem cl_typ (x:Blk) (A:Option Addr) (nd cd g q:Nat) (w:World) (hg:w.cell? ⟨g,0,none⟩=some (.int .u64 (q:Int))) :
  Calls Tryz.prog 212 #[blkV x.typ x.num x.flg x.crc A nd cd,.pointer (some ⟨g,0,none⟩)] w fun e w'=>e=.returned (.bool (pTyp q x))∧Below w.heap.size w w':=by
 have hlt:=World.block_lt_of_cell? w _ hg
 have hg1:(w.alloc (.cells #[.int .u64 (x.typ:Int),.int .u64 (x.num:Int),.int .u64 (x.flg:Int),.int .i64 x.crc,.slice A nd cd] 48)).cell? ⟨g,0,none⟩=some (.int .u64 (q:Int)):=(World.cell?_alloc_lt _ _ _ hlt).trans hg
 obtain ⟨R,hR⟩:∃ R,R=pTyp q x:=⟨_,rfl⟩
 rw [← hR]
 have hr:((x.typ:Int)==(q:Int))=R:=by
  rw [hR];unfold pTyp
  rw [Bool.eq_iff_iff];simp
  omega
 unfold blkV
 clear hg hR hlt
 cases R with
 | true =>
  go_enter Tryz.func212,Tryz.ntmps212
  go_wp2_with fail
  go_ret
  exact ⟨rfl,(Below.refl _ _).alloc nlr _⟩
 | false =>
  go_enter Tryz.func212,Tryz.ntmps212
  go_wp2_with fail
  go_ret
  exact ⟨rfl,(Below.refl _ _).alloc nlr _⟩
theorem ixf_typ (A:Option Addr) (n c B q g:Nat) (l:List Blk) (w:World) (h:RdL w B A n l) (hB:B≤w.heap.size) (hg:w.cell? ⟨g,0,none⟩=some (.int .u64 (q:Int))) (hlt:g<w.heap.size) :
  Calls Tryz.prog 177 #[.slice A n c,.func (.func 212) #[] #[.pointer (some ⟨g,0,none⟩)]] w fun e w'=>e=.returned (.int .i64 (plc (pTyp q) l 0))∧Below w.heap.size w w':=by
 have CL:=hid (fun x A nd cd (W:World) (hb:Below w.heap.size w W)=>cl_typ x A nd cd g q W ((hb.cell (p:=⟨g,0,none⟩) hlt).trans hg))
 obtain ⟨R,hR⟩:∃ R,R=plc (pTyp q) l 0:=⟨_,rfl⟩
 rw [← hR]
 have HR:=hid hR
 have HH:=hid h
 have hn47:=h.2.2
 have HB0:=hid hB
 clear hR hg hlt h hB
 unfold blkV at *
 go_enter Tryz.func177,Tryz.ntmps177
 go_wp2_with fail
 go_loopw [8] (fun v wl=>∃ i:Nat,i≤n∧v=.int .i64 (i:Int)∧Hid (Below w.heap.size w wl)∧Hid (plc (pTyp q) (l.drop i) i=R)) (fun v _=>n - (intOf v).toNat)
 case atStart=>exact ⟨0,Nat.zero_le _,rfl,Below.refl _ _,HR.out.symm⟩
 case round =>
  obtain ⟨i,hi,rfl,HB,HP⟩:=hrel
  by_cases hlt:i<n
  ·
   have hil:i<l.length:=by rw [HH.out.1];exact hlt
   obtain ⟨b,o,hA,hbB,hks⟩:=HH.out.2.1 (by omega)
   obtain ⟨A1,nd,cd,hk⟩:=hks.get i hil
   have hk2:=hk.below (HB.out.mono HB0.out) hbB
   have hp:=plc_at (pTyp q) l i hil
   rw [HP.out] at hp
   generalize l[i]=x at *
   have g0:=hk2.k0
   have g1:=hk2.k1
   have g2:=hk2.k2
   have g3:=hk2.k3
   have g4:=hk2.k4
   have C1:=hid (CL.out x A1 nd cd wr HB.out)
   have HPP:=hid hp
   clear hp hk hk2 hks hbB
   subst hA
   cases hv:pTyp q x with
   | true =>
    rw [hv] at C1
    have e:R=(i:Int):=by rw [HPP.out,hv,if_pos rfl]
    clear HPP HP HR hv
    subst e
    go_wp2_with fail
    refine C1.out.mono ?_
    rintro e w1 ⟨rfl,hb⟩
    have HB2:=hid (HB.out.trans (hb.mono HB.out.size))
    clear hb g0 g1 g2 g3 g4
    go_wp2_with fail
    go_ret
    exact ⟨rfl,HB2.out⟩
   | false =>
    rw [hv] at C1
    have HP2:Hid (plc (pTyp q) (l.drop (i+1)) (i+1)=R):=by show _=_;rw [HPP.out,hv,if_neg (by decide)]
    clear HPP HP hv
    go_wp2_with fail
    refine C1.out.mono ?_
    rintro e w1 ⟨rfl,hb⟩
    have HB2:=hid (HB.out.trans (hb.mono HB.out.size))
    clear hb g0 g1 g2 g3 g4
    go_wp2_with fail
    go_roundw
    case rel=>exact ⟨i+1,by omega,by go_num,HB2.out,HP2.out⟩
    case measure=>simp [intOf];omega
  ·
   obtain rfl:i=n:=by omega
   have e:R = -1:=by
    rw [← HP.out,List.drop_eq_nil_of_le (by rw [HH.out.1];exact Nat.le_refl _)];rfl
   clear HP HR
   subst e
   have HBE:=hid HB.out
   go_wp2_with fail
   go_ret
   exact ⟨rfl,HBE.out⟩
theorem place_any (A:Option Addr) (n c B q:Nat) (l:List Blk) (w:World) (h:RdL w B A n l) (hB:B≤w.heap.size) :
  Calls Tryz.prog 141 #[.slice A n c,.int .u64 (q:Int)] w fun e w'=>e=.returned (.int .i64 (plc (pNum q) l 0))∧Below w.heap.size w w':=by
 have C1:=hid (ixf_num A n c B q w.heap.size l (w.alloc (.cells #[.int .u64 (q:Int)] 23)) (h.below ((Below.refl _ _).alloc hB _)) (Nat.le_trans hB (le_alloc _ _)) (by rw [World.cell?_alloc_at _ _ _ _ rfl];rfl) (by simp))
 clear h hB
 go_enter Tryz.func141,Tryz.ntmps141
 go_wp2_with fail
 refine C1.out.mono ?_
 rintro e w1 ⟨rfl,hb⟩
 have HB:=hid (((Below.refl w.heap.size w).alloc nlr (.cells #[.int .u64 (q:Int)] 23)).trans (hb.mono (le_alloc _ _)))
 clear hb
 go_wp2_with fail
 go_ret
 exact ⟨rfl,HB.out⟩
theorem contains_any (A:Option Addr) (n c B q g:Nat) (l:List Blk) (w:World) (h:RdL w B A n l) (hB:B≤w.heap.size) (hg:w.cell? ⟨g,0,none⟩=some (.int .u64 (q:Int))) :
  Calls Tryz.prog 211 #[.slice A n c,.func (.func 212) #[] #[.pointer (some ⟨g,0,none⟩)]] w fun e w'=>e=.returned (.bool (l.any (pTyp q)))∧Below w.heap.size w w':=by
 have C1:=hid (ixf_typ A n c B q g l w h hB hg (World.block_lt_of_cell? w _ hg))
 have hp:=plc_ge (pTyp q) l 0
 generalize plc (pTyp q) l 0=P at *
 rw [← hp]
 clear h hB hg hp
 go_enter Tryz.func211,Tryz.ntmps211
 go_wp2_with fail
 refine C1.out.mono ?_
 rintro e w1 ⟨rfl,hb⟩
 have HB:=hid hb
 clear hb
 go_wp2_with fail
 go_ret
 exact ⟨rfl,HB.out⟩
theorem hastype_any (A:Option Addr) (n c B q:Nat) (l:List Blk) (w:World) (h:RdL w B A n l) (hB:B≤w.heap.size) :
  Calls Tryz.prog 181 #[.slice A n c,.int .u64 (q:Int)] w fun e w'=>e=.returned (.bool (l.any (pTyp q)))∧Below w.heap.size w w':=by
 have C1:=hid (contains_any A n c B q w.heap.size l (w.alloc (.cells #[.int .u64 (q:Int)] 23)) (h.below ((Below.refl _ _).alloc hB _)) (Nat.le_trans hB (le_alloc _ _)) (by rw [World.cell?_alloc_at _ _ _ _ rfl];rfl))
 clear h hB
 go_enter Tryz.func181,Tryz.ntmps181
 go_wp2_with fail
 refine C1.out.mono ?_
 rintro e w1 ⟨rfl,hb⟩
 have HB:=hid (((Below.refl w.heap.size w).alloc nlr (.cells #[.int .u64 (q:Int)] 23)).trans (hb.mono (le_alloc _ _)))
 clear hb
 go_wp2_with fail
 go_ret
 exact ⟨rfl,HB.out⟩
theorem single_any (q:Nat) (w:World):Calls Tryz.prog 180 #[.int .u64 (q:Int)] w fun e w'=>e=.returned (.bool (singB q))∧w=w':=by
 have hs:singB q=(decide ((q:Int)=10)||(decide ((q:Int)=7)||decide ((q:Int)=6))):=by
  unfold singB
  rw [Bool.eq_iff_iff]
  simp only [Bool.or_eq_true,decide_eq_true_eq]
  omega
 rw [hs]
 clear hs
 generalize (q:Int)=Q
 by_cases h1:Q=10
 ·
  subst h1
  go_enter Tryz.func180,Tryz.ntmps180
  go_wp2_with fail
  go_ret
  exact ⟨rfl,rfl⟩
 ·
  have e1:(Q==10)=false:=by simpa using h1
  have d1:decide (Q=10)=false:=by simpa using h1
  rw [d1]
  clear d1 h1
  by_cases h2:Q=7
  ·
   subst h2
   go_enter Tryz.func180,Tryz.ntmps180
   go_wp2_with fail
   go_ret
   exact ⟨rfl,rfl⟩
  ·
   have e2:(Q==7)=false:=by simpa using h2
   have d2:decide (Q=7)=false:=by simpa using h2
   rw [d2]
   clear d2 h2
   have d3:decide (Q=6)=(Q==6):=by rw [Bool.eq_iff_iff];simp
   rw [d3]
   clear d3
   go_enter Tryz.func180,Tryz.ntmps180
   go_wp2_with fail
   go_ret
   exact ⟨by simp,rfl⟩
theorem primOk_dec (h:BH) (l:List Blk):primOk (h.bun l)=(decide (0≤h.crc∧h.crc≤2)&&((checkB h.dst&&(checkB h.src&&checkB h.rep))&&((!(noneB h.dst))&&(!(noneB h.src && !(wholeB h.flg)))))):=rfl
theorem ucheckP_any (S:Snt) (h:BH) (l:List Blk) (A:Option Addr) (n c:Nat) (w:World) (hS:Wd S w) (hd:h.Bd) :
  Calls Tryz.prog 143 #[bunV h A n c] w (WhyU (if primOk (h.bun l)=true then 0 else 60) w):=by
 have HB0:=hid ((Below.refl w.heap.size w).alloc nlr (.cells #[.int .u64 (h.flg:Int),.int .i64 h.crc,.int .i64 h.dsc,.string h.dnm,.int .u64 (h.dn:Int),.int .u64 (h.dv:Int),.int .i64 h.ssc,.string h.snm,.int .u64 (h.sn:Int),.int .u64 (h.sv:Int),.int .i64 h.rsc,.string h.rnm,.int .u64 (h.rn:Int),.int .u64 (h.rv:Int),.int .u64 (h.tim:Int),.int .u64 (h.seq:Int),.int .u64 (h.lif:Int),.slice A n c] 73))
 have HW0:Hid (Below (w.heap.size+1) (w.alloc (.cells #[.int .u64 (h.flg:Int),.int .i64 h.crc,.int .i64 h.dsc,.string h.dnm,.int .u64 (h.dn:Int),.int .u64 (h.dv:Int),.int .i64 h.ssc,.string h.snm,.int .u64 (h.sn:Int),.int .u64 (h.sv:Int),.int .i64 h.rsc,.string h.rnm,.int .u64 (h.rn:Int),.int .u64 (h.rv:Int),.int .u64 (h.tim:Int),.int .u64 (h.seq:Int),.int .u64 (h.lif:Int),.slice A n c] 73)) (w.alloc (.cells #[.int .u64 (h.flg:Int),.int .i64 h.crc,.int .i64 h.dsc,.string h.dnm,.int .u64 (h.dn:Int),.int .u64 (h.dv:Int),.int .i64 h.ssc,.string h.snm,.int .u64 (h.sn:Int),.int .u64 (h.sv:Int),.int .i64 h.rsc,.string h.rnm,.int .u64 (h.rn:Int),.int .u64 (h.rv:Int),.int .u64 (h.tim:Int),.int .u64 (h.seq:Int),.int .u64 (h.lif:Int),.slice A n c] 73))):=Below.refl _ _
 have HX:=hid (fun (W:World) (hb:Below (w.heap.size+1) (w.alloc (.cells #[.int .u64 (h.flg:Int),.int .i64 h.crc,.int .i64 h.dsc,.string h.dnm,.int .u64 (h.dn:Int),.int .u64 (h.dv:Int),.int .i64 h.ssc,.string h.snm,.int .u64 (h.sn:Int),.int .u64 (h.sv:Int),.int .i64 h.rsc,.string h.rnm,.int .u64 (h.rn:Int),.int .u64 (h.rv:Int),.int .u64 (h.tim:Int),.int .u64 (h.seq:Int),.int .u64 (h.lif:Int),.slice A n c] 73)) W)=>box18 rfl hb)
 have HL:Hid (∀ W,Below (w.heap.size+1) (w.alloc (.cells #[.int .u64 (h.flg:Int),.int .i64 h.crc,.int .i64 h.dsc,.string h.dnm,.int .u64 (h.dn:Int),.int .u64 (h.dv:Int),.int .i64 h.ssc,.string h.snm,.int .u64 (h.sn:Int),.int .u64 (h.sv:Int),.int .i64 h.rsc,.string h.rnm,.int .u64 (h.rn:Int),.int .u64 (h.rv:Int),.int .u64 (h.tim:Int),.int .u64 (h.seq:Int),.int .u64 (h.lif:Int),.slice A n c] 73)) W→Lds S W):=fun W hb=>(hS.lds.alloc _).below hb (by simp)
 have K1:=hid (fun W hb=>ccheck_any S h.dsc h.dnm h.dn h.dv W (HL.out W hb) hd.dnm)
 have K2:=hid (fun W hb=>ccheck_any S h.ssc h.snm h.sn h.sv W (HL.out W hb) hd.snm)
 have K3:=hid (fun W hb=>ccheck_any S h.rsc h.rnm h.rn h.rv W (HL.out W hb) hd.rnm)
 have N1:=hid (fun W=>none_any h.dsc h.dnm h.dn h.dv W)
 have N2:=hid (fun W=>none_any h.ssc h.snm h.sn h.sv W)
 have HS:Hid ((w.alloc (.cells #[.int .u64 (h.flg:Int),.int .i64 h.crc,.int .i64 h.dsc,.string h.dnm,.int .u64 (h.dn:Int),.int .u64 (h.dv:Int),.int .i64 h.ssc,.string h.snm,.int .u64 (h.sn:Int),.int .u64 (h.sv:Int),.int .i64 h.rsc,.string h.rnm,.int .u64 (h.rn:Int),.int .u64 (h.rv:Int),.int .u64 (h.tim:Int),.int .u64 (h.seq:Int),.int .u64 (h.lif:Int),.slice A n c] 73)).heap.size=w.heap.size+1):=by show _=_;simp
 have HE:Hid (∀ (z:Int) W e,Below (w.heap.size+1) (w.alloc (.cells #[.int .u64 (h.flg:Int),.int .i64 h.crc,.int .i64 h.dsc,.string h.dnm,.int .u64 (h.dn:Int),.int .u64 (h.dv:Int),.int .i64 h.ssc,.string h.snm,.int .u64 (h.sn:Int),.int .u64 (h.sv:Int),.int .i64 h.rsc,.string h.rnm,.int .u64 (h.rn:Int),.int .u64 (h.rv:Int),.int .u64 (h.tim:Int),.int .u64 (h.seq:Int),.int .u64 (h.lif:Int),.slice A n c] 73)) W→(z=0∧e=.returned .nilIface∨z≠0∧∃ s,e=.returned (ufl z s))→WhyU z w e W):=fun z W e hb hh=>⟨HB0.out.trans (hb.mono (Nat.le_succ _)),hh⟩
 have CN:=hid unone_any
 rw [primOk_dec]
 have e1:checkB (ep h.dsc h.dnm h.dn h.dv)=checkB h.dst:=rfl
 have e2:checkB (ep h.ssc h.snm h.sn h.sv)=checkB h.src:=rfl
 have e3:checkB (ep h.rsc h.rnm h.rn h.rv)=checkB h.rep:=rfl
 have e4:noneB (ep h.dsc h.dnm h.dn h.dv)=noneB h.dst:=rfl
 have e5:noneB (ep h.ssc h.snm h.sn h.sv)=noneB h.src:=rfl
 rw [e1] at K1
 rw [e2] at K2
 rw [e3] at K3
 rw [e4] at N1
 rw [e5] at N2
 have hwh:(bits BinOp.and IntKind.u64 (h.flg:Int) 475140 != 4) = !(wholeB h.flg):=rfl
 generalize checkB h.dst=c1 at *
 generalize checkB h.src=c2 at *
 generalize checkB h.rep=c3 at *
 generalize noneB h.dst=n1 at *
 generalize noneB h.src=n2 at *
 generalize wholeB h.flg=wh at *
 have H0:Hid (∀ b:Bool,b=false→(if b=true then (0:Int) else 60)=60):=fun b hb=>by rw [hb];rfl
 obtain ⟨Z,hZ⟩:∃ Z,Z=(if (decide (0≤h.crc∧h.crc≤2)&&((c1&&(c2&&c3))&&((!n1)&&(!(n2 && !wh)))))=true then (0:Int) else 60):=⟨_,rfl⟩
 rw [← hZ]
 clear e1 e2 e3 e4 e5 hS hd
 unfold bunV epdV at *
 by_cases h1:h.crc<0
 ·
  have hz:Z=60:=by rw [hZ,decide_eq_false (by omega)];rfl
  clear hZ hwh
  subst hz
  go_enter Tryz.func143,Tryz.ntmps143
  go_wp2_with (first
   | (go_at_call 142;refine (CN.out _ _).mono ?_;rintro e w1 ⟨rfl,rfl⟩)
   | (go_at_call 15;(first|(with_reducible refine (K1.out _ HW0.out).mono ?_)|(with_reducible refine (K2.out _ HW0.out).mono ?_)|(with_reducible refine (K3.out _ HW0.out).mono ?_));rintro e w1 ⟨rfl,hb⟩;have HW1:=hid (Below.push HW0.out (Nat.le_of_eq HS.out.symm) hb);(try clear x0 x1 x2 x3 x4 x5 x6 x7 x8 x9 x10 x11 x12 x13 x14 x15 x16 x17);clear hb HW0;obtain ⟨x0,x1,x2,x3,x4,x5,x6,x7,x8,x9,x10,x11,x12,x13,x14,x15,x16,x17⟩:=HX.out _ HW1.out;have HW0:=HW1;clear HW1)
   | (go_at_call 17;(first|(with_reducible refine (N1.out _).mono ?_)|(with_reducible refine (N2.out _).mono ?_));rintro e w1 ⟨rfl,hb⟩;have HW1:=hid (Below.push HW0.out (Nat.le_of_eq HS.out.symm) hb);(try clear x0 x1 x2 x3 x4 x5 x6 x7 x8 x9 x10 x11 x12 x13 x14 x15 x16 x17);clear hb HW0;obtain ⟨x0,x1,x2,x3,x4,x5,x6,x7,x8,x9,x10,x11,x12,x13,x14,x15,x16,x17⟩:=HX.out _ HW1.out;have HW0:=HW1;clear HW1)
   | fail)
  go_ret
  exact HE.out _ _ _ HW0.out (.inr ⟨by decide,_,rfl⟩)
 have h1':decide (h.crc<0)=false:=decide_eq_false h1
 by_cases h2:2<h.crc
 ·
  have hz:Z=60:=by rw [hZ,decide_eq_false (by omega)];rfl
  clear hZ hwh
  subst hz
  go_enter Tryz.func143,Tryz.ntmps143
  go_wp2_with (first
   | (go_at_call 142;refine (CN.out _ _).mono ?_;rintro e w1 ⟨rfl,rfl⟩)
   | (go_at_call 15;(first|(with_reducible refine (K1.out _ HW0.out).mono ?_)|(with_reducible refine (K2.out _ HW0.out).mono ?_)|(with_reducible refine (K3.out _ HW0.out).mono ?_));rintro e w1 ⟨rfl,hb⟩;have HW1:=hid (Below.push HW0.out (Nat.le_of_eq HS.out.symm) hb);(try clear x0 x1 x2 x3 x4 x5 x6 x7 x8 x9 x10 x11 x12 x13 x14 x15 x16 x17);clear hb HW0;obtain ⟨x0,x1,x2,x3,x4,x5,x6,x7,x8,x9,x10,x11,x12,x13,x14,x15,x16,x17⟩:=HX.out _ HW1.out;have HW0:=HW1;clear HW1)
   | (go_at_call 17;(first|(with_reducible refine (N1.out _).mono ?_)|(with_reducible refine (N2.out _).mono ?_));rintro e w1 ⟨rfl,hb⟩;have HW1:=hid (Below.push HW0.out (Nat.le_of_eq HS.out.symm) hb);(try clear x0 x1 x2 x3 x4 x5 x6 x7 x8 x9 x10 x11 x12 x13 x14 x15 x16 x17);clear hb HW0;obtain ⟨x0,x1,x2,x3,x4,x5,x6,x7,x8,x9,x10,x11,x12,x13,x14,x15,x16,x17⟩:=HX.out _ HW1.out;have HW0:=HW1;clear HW1)
   | fail)
  go_ret
  exact HE.out _ _ _ HW0.out (.inr ⟨by decide,_,rfl⟩)
 have h2':decide (2<h.crc)=false:=decide_eq_false h2
 rw [decide_eq_true (by omega),Bool.true_and] at hZ
 cases c1 with
 | false =>
  have hz:Z=60:=by rw [hZ];rfl
  clear hZ hwh
  subst hz
  go_enter Tryz.func143,Tryz.ntmps143
  go_wp2_with (first
   | (go_at_call 142;refine (CN.out _ _).mono ?_;rintro e w1 ⟨rfl,rfl⟩)
   | (go_at_call 15;(first|(with_reducible refine (K1.out _ HW0.out).mono ?_)|(with_reducible refine (K2.out _ HW0.out).mono ?_)|(with_reducible refine (K3.out _ HW0.out).mono ?_));rintro e w1 ⟨rfl,hb⟩;have HW1:=hid (Below.push HW0.out (Nat.le_of_eq HS.out.symm) hb);(try clear x0 x1 x2 x3 x4 x5 x6 x7 x8 x9 x10 x11 x12 x13 x14 x15 x16 x17);clear hb HW0;obtain ⟨x0,x1,x2,x3,x4,x5,x6,x7,x8,x9,x10,x11,x12,x13,x14,x15,x16,x17⟩:=HX.out _ HW1.out;have HW0:=HW1;clear HW1)
   | (go_at_call 17;(first|(with_reducible refine (N1.out _).mono ?_)|(with_reducible refine (N2.out _).mono ?_));rintro e w1 ⟨rfl,hb⟩;have HW1:=hid (Below.push HW0.out (Nat.le_of_eq HS.out.symm) hb);(try clear x0 x1 x2 x3 x4 x5 x6 x7 x8 x9 x10 x11 x12 x13 x14 x15 x16 x17);clear hb HW0;obtain ⟨x0,x1,x2,x3,x4,x5,x6,x7,x8,x9,x10,x11,x12,x13,x14,x15,x16,x17⟩:=HX.out _ HW1.out;have HW0:=HW1;clear HW1)
   | fail)
  go_ret
  exact HE.out _ _ _ HW0.out (.inr ⟨by decide,_,rfl⟩)
 | true =>
 cases c2 with
 | false =>
  have hz:Z=60:=by rw [hZ];rfl
  clear hZ hwh
  subst hz
  go_enter Tryz.func143,Tryz.ntmps143
  go_wp2_with (first
   | (go_at_call 142;refine (CN.out _ _).mono ?_;rintro e w1 ⟨rfl,rfl⟩)
   | (go_at_call 15;(first|(with_reducible refine (K1.out _ HW0.out).mono ?_)|(with_reducible refine (K2.out _ HW0.out).mono ?_)|(with_reducible refine (K3.out _ HW0.out).mono ?_));rintro e w1 ⟨rfl,hb⟩;have HW1:=hid (Below.push HW0.out (Nat.le_of_eq HS.out.symm) hb);(try clear x0 x1 x2 x3 x4 x5 x6 x7 x8 x9 x10 x11 x12 x13 x14 x15 x16 x17);clear hb HW0;obtain ⟨x0,x1,x2,x3,x4,x5,x6,x7,x8,x9,x10,x11,x12,x13,x14,x15,x16,x17⟩:=HX.out _ HW1.out;have HW0:=HW1;clear HW1)
   | (go_at_call 17;(first|(with_reducible refine (N1.out _).mono ?_)|(with_reducible refine (N2.out _).mono ?_));rintro e w1 ⟨rfl,hb⟩;have HW1:=hid (Below.push HW0.out (Nat.le_of_eq HS.out.symm) hb);(try clear x0 x1 x2 x3 x4 x5 x6 x7 x8 x9 x10 x11 x12 x13 x14 x15 x16 x17);clear hb HW0;obtain ⟨x0,x1,x2,x3,x4,x5,x6,x7,x8,x9,x10,x11,x12,x13,x14,x15,x16,x17⟩:=HX.out _ HW1.out;have HW0:=HW1;clear HW1)
   | fail)
  go_ret
  exact HE.out _ _ _ HW0.out (.inr ⟨by decide,_,rfl⟩)
 | true =>
 cases c3 with
 | false =>
  have hz:Z=60:=by rw [hZ];rfl
  clear hZ hwh
  subst hz
  go_enter Tryz.func143,Tryz.ntmps143
  go_wp2_with (first
   | (go_at_call 142;refine (CN.out _ _).mono ?_;rintro e w1 ⟨rfl,rfl⟩)
   | (go_at_call 15;(first|(with_reducible refine (K1.out _ HW0.out).mono ?_)|(with_reducible refine (K2.out _ HW0.out).mono ?_)|(with_reducible refine (K3.out _ HW0.out).mono ?_));rintro e w1 ⟨rfl,hb⟩;have HW1:=hid (Below.push HW0.out (Nat.le_of_eq HS.out.symm) hb);(try clear x0 x1 x2 x3 x4 x5 x6 x7 x8 x9 x10 x11 x12 x13 x14 x15 x16 x17);clear hb HW0;obtain ⟨x0,x1,x2,x3,x4,x5,x6,x7,x8,x9,x10,x11,x12,x13,x14,x15,x16,x17⟩:=HX.out _ HW1.out;have HW0:=HW1;clear HW1)
   | (go_at_call 17;(first|(with_reducible refine (N1.out _).mono ?_)|(with_reducible refine (N2.out _).mono ?_));rintro e w1 ⟨rfl,hb⟩;have HW1:=hid (Below.push HW0.out (Nat.le_of_eq HS.out.symm) hb);(try clear x0 x1 x2 x3 x4 x5 x6 x7 x8 x9 x10 x11 x12 x13 x14 x15 x16 x17);clear hb HW0;obtain ⟨x0,x1,x2,x3,x4,x5,x6,x7,x8,x9,x10,x11,x12,x13,x14,x15,x16,x17⟩:=HX.out _ HW1.out;have HW0:=HW1;clear HW1)
   | fail)
  go_ret
  exact HE.out _ _ _ HW0.out (.inr ⟨by decide,_,rfl⟩)
 | true =>
 cases n1 with
 | true =>
  have hz:Z=60:=by rw [hZ];rfl
  clear hZ hwh
  subst hz
  go_enter Tryz.func143,Tryz.ntmps143
  go_wp2_with (first
   | (go_at_call 142;refine (CN.out _ _).mono ?_;rintro e w1 ⟨rfl,rfl⟩)
   | (go_at_call 15;(first|(with_reducible refine (K1.out _ HW0.out).mono ?_)|(with_reducible refine (K2.out _ HW0.out).mono ?_)|(with_reducible refine (K3.out _ HW0.out).mono ?_));rintro e w1 ⟨rfl,hb⟩;have HW1:=hid (Below.push HW0.out (Nat.le_of_eq HS.out.symm) hb);(try clear x0 x1 x2 x3 x4 x5 x6 x7 x8 x9 x10 x11 x12 x13 x14 x15 x16 x17);clear hb HW0;obtain ⟨x0,x1,x2,x3,x4,x5,x6,x7,x8,x9,x10,x11,x12,x13,x14,x15,x16,x17⟩:=HX.out _ HW1.out;have HW0:=HW1;clear HW1)
   | (go_at_call 17;(first|(with_reducible refine (N1.out _).mono ?_)|(with_reducible refine (N2.out _).mono ?_));rintro e w1 ⟨rfl,hb⟩;have HW1:=hid (Below.push HW0.out (Nat.le_of_eq HS.out.symm) hb);(try clear x0 x1 x2 x3 x4 x5 x6 x7 x8 x9 x10 x11 x12 x13 x14 x15 x16 x17);clear hb HW0;obtain ⟨x0,x1,x2,x3,x4,x5,x6,x7,x8,x9,x10,x11,x12,x13,x14,x15,x16,x17⟩:=HX.out _ HW1.out;have HW0:=HW1;clear HW1)
   | fail)
  go_ret
  exact HE.out _ _ _ HW0.out (.inr ⟨by decide,_,rfl⟩)
 | false =>
 cases n2 with
 | false =>
  have hz:Z=0:=by rw [hZ];rfl
  clear hZ hwh
  subst hz
  go_enter Tryz.func143,Tryz.ntmps143
  go_wp2_with (first
   | (go_at_call 142;refine (CN.out _ _).mono ?_;rintro e w1 ⟨rfl,rfl⟩)
   | (go_at_call 15;(first|(with_reducible refine (K1.out _ HW0.out).mono ?_)|(with_reducible refine (K2.out _ HW0.out).mono ?_)|(with_reducible refine (K3.out _ HW0.out).mono ?_));rintro e w1 ⟨rfl,hb⟩;have HW1:=hid (Below.push HW0.out (Nat.le_of_eq HS.out.symm) hb);(try clear x0 x1 x2 x3 x4 x5 x6 x7 x8 x9 x10 x11 x12 x13 x14 x15 x16 x17);clear hb HW0;obtain ⟨x0,x1,x2,x3,x4,x5,x6,x7,x8,x9,x10,x11,x12,x13,x14,x15,x16,x17⟩:=HX.out _ HW1.out;have HW0:=HW1;clear HW1)
   | (go_at_call 17;(first|(with_reducible refine (N1.out _).mono ?_)|(with_reducible refine (N2.out _).mono ?_));rintro e w1 ⟨rfl,hb⟩;have HW1:=hid (Below.push HW0.out (Nat.le_of_eq HS.out.symm) hb);(try clear x0 x1 x2 x3 x4 x5 x6 x7 x8 x9 x10 x11 x12 x13 x14 x15 x16 x17);clear hb HW0;obtain ⟨x0,x1,x2,x3,x4,x5,x6,x7,x8,x9,x10,x11,x12,x13,x14,x15,x16,x17⟩:=HX.out _ HW1.out;have HW0:=HW1;clear HW1)
   | fail)
  go_ret
  exact HE.out _ _ _ HW0.out (.inl ⟨rfl,rfl⟩)
 | true =>
 cases wh with
 | true =>
  have hz:Z=0:=by rw [hZ];rfl
  clear hZ
  subst hz
  go_enter Tryz.func143,Tryz.ntmps143
  go_wp2_with (first
   | (go_at_call 142;refine (CN.out _ _).mono ?_;rintro e w1 ⟨rfl,rfl⟩)
   | (go_at_call 15;(first|(with_reducible refine (K1.out _ HW0.out).mono ?_)|(with_reducible refine (K2.out _ HW0.out).mono ?_)|(with_reducible refine (K3.out _ HW0.out).mono ?_));rintro e w1 ⟨rfl,hb⟩;have HW1:=hid (Below.push HW0.out (Nat.le_of_eq HS.out.symm) hb);(try clear x0 x1 x2 x3 x4 x5 x6 x7 x8 x9 x10 x11 x12 x13 x14 x15 x16 x17);clear hb HW0;obtain ⟨x0,x1,x2,x3,x4,x5,x6,x7,x8,x9,x10,x11,x12,x13,x14,x15,x16,x17⟩:=HX.out _ HW1.out;have HW0:=HW1;clear HW1)
   | (go_at_call 17;(first|(with_reducible refine (N1.out _).mono ?_)|(with_reducible refine (N2.out _).mono ?_));rintro e w1 ⟨rfl,hb⟩;have HW1:=hid (Below.push HW0.out (Nat.le_of_eq HS.out.symm) hb);(try clear x0 x1 x2 x3 x4 x5 x6 x7 x8 x9 x10 x11 x12 x13 x14 x15 x16 x17);clear hb HW0;obtain ⟨x0,x1,x2,x3,x4,x5,x6,x7,x8,x9,x10,x11,x12,x13,x14,x15,x16,x17⟩:=HX.out _ HW1.out;have HW0:=HW1;clear HW1)
   | fail)
  go_ret
  exact HE.out _ _ _ HW0.out (.inl ⟨rfl,rfl⟩)
 | false =>
  have hz:Z=60:=by rw [hZ];rfl
  clear hZ
  subst hz
  go_enter Tryz.func143,Tryz.ntmps143
  go_wp2_with (first
   | (go_at_call 142;refine (CN.out _ _).mono ?_;rintro e w1 ⟨rfl,rfl⟩)
   | (go_at_call 15;(first|(with_reducible refine (K1.out _ HW0.out).mono ?_)|(with_reducible refine (K2.out _ HW0.out).mono ?_)|(with_reducible refine (K3.out _ HW0.out).mono ?_));rintro e w1 ⟨rfl,hb⟩;have HW1:=hid (Below.push HW0.out (Nat.le_of_eq HS.out.symm) hb);(try clear x0 x1 x2 x3 x4 x5 x6 x7 x8 x9 x10 x11 x12 x13 x14 x15 x16 x17);clear hb HW0;obtain ⟨x0,x1,x2,x3,x4,x5,x6,x7,x8,x9,x10,x11,x12,x13,x14,x15,x16,x17⟩:=HX.out _ HW1.out;have HW0:=HW1;clear HW1)
   | (go_at_call 17;(first|(with_reducible refine (N1.out _).mono ?_)|(with_reducible refine (N2.out _).mono ?_));rintro e w1 ⟨rfl,hb⟩;have HW1:=hid (Below.push HW0.out (Nat.le_of_eq HS.out.symm) hb);(try clear x0 x1 x2 x3 x4 x5 x6 x7 x8 x9 x10 x11 x12 x13 x14 x15 x16 x17);clear hb HW0;obtain ⟨x0,x1,x2,x3,x4,x5,x6,x7,x8,x9,x10,x11,x12,x13,x14,x15,x16,x17⟩:=HX.out _ HW1.out;have HW0:=HW1;clear HW1)
   | fail)
  go_ret
  exact HE.out _ _ _ HW0.out (.inr ⟨by decide,_,rfl⟩)
theorem rsameB_true (t n f:Nat) (c:Int) (A A':Option Addr) (nd cd cd' B:Nat) (d:List UInt8) (w:World) (hB:B≤w.heap.size) (h:Rd w B A nd d) (h':Rd w B A' nd d) :
  Calls Tryz.prog 31 #[blkV t n f c A nd cd,blkV t n f c A' nd cd'] w fun e w'=>e=.returned (.bool true)∧Below w.heap.size w w':=by
 have hb:=((Below.refl w.heap.size w).alloc nlr (.cells #[.int .u64 (t:Int),.int .u64 (n:Int),.int .u64 (f:Int),.int .i64 c,.slice A nd cd] 48)).alloc (le_alloc _ _) (.cells #[.int .u64 (t:Int),.int .u64 (n:Int),.int .u64 (f:Int),.int .i64 c,.slice A' nd cd'] 48)
 have C1:=hid (same_true A A' nd cd nd cd' B B d _ (h.below (hb.mono hB)) (h'.below (hb.mono hB)))
 have HB:=hid hb
 clear hb h h' hB
 unfold blkV
 generalize (t:Int)=T at *
 generalize (n:Int)=N at *
 generalize (f:Int)=F at *
 go_enter Tryz.func31,Tryz.ntmps31
 go_wp2_with fail
 refine C1.out.mono ?_
 rintro e w1 ⟨rfl,rfl⟩
 go_wp2_with fail
 go_ret
 exact ⟨rfl,HB.out⟩
theorem neq_eid_self (sc:Int) (s:ByteArray) (n v:Int) (w:World):(binOp .neq 25 (.agg #[.int .i64 sc,.string s,.int .u64 n,.int .u64 v]) (.agg #[.int .i64 sc,.string s,.int .u64 n,.int .u64 v])).run Tryz.prog w=.ok (.bool false) w:=by
 go_simp
theorem rsameU_true (h:BH) (l:List Blk) (A A':Option Addr) (n c c' B:Nat) (w:World) (hr:RdL w B A n l) (hr':RdL w B A' n l) (hB:B≤w.heap.size) :
  Calls Tryz.prog 94 #[bunV h A n c,bunV h A' n c'] w fun e w'=>e=.returned (.bool true)∧Below w.heap.size w w':=by
 have HB0:=hid (((Below.refl w.heap.size w).alloc nlr (.cells #[.int .u64 (h.flg:Int),.int .i64 h.crc,.int .i64 h.dsc,.string h.dnm,.int .u64 (h.dn:Int),.int .u64 (h.dv:Int),.int .i64 h.ssc,.string h.snm,.int .u64 (h.sn:Int),.int .u64 (h.sv:Int),.int .i64 h.rsc,.string h.rnm,.int .u64 (h.rn:Int),.int .u64 (h.rv:Int),.int .u64 (h.tim:Int),.int .u64 (h.seq:Int),.int .u64 (h.lif:Int),.slice A n c] 73)).alloc (le_alloc _ _) (.cells #[.int .u64 (h.flg:Int),.int .i64 h.crc,.int .i64 h.dsc,.string h.dnm,.int .u64 (h.dn:Int),.int .u64 (h.dv:Int),.int .i64 h.ssc,.string h.snm,.int .u64 (h.sn:Int),.int .u64 (h.sv:Int),.int .i64 h.rsc,.string h.rnm,.int .u64 (h.rn:Int),.int .u64 (h.rv:Int),.int .u64 (h.tim:Int),.int .u64 (h.seq:Int),.int .u64 (h.lif:Int),.slice A' n c'] 73))
 have HW0:Hid (Below (w.heap.size+2) ((w.alloc (.cells #[.int .u64 (h.flg:Int),.int .i64 h.crc,.int .i64 h.dsc,.string h.dnm,.int .u64 (h.dn:Int),.int .u64 (h.dv:Int),.int .i64 h.ssc,.string h.snm,.int .u64 (h.sn:Int),.int .u64 (h.sv:Int),.int .i64 h.rsc,.string h.rnm,.int .u64 (h.rn:Int),.int .u64 (h.rv:Int),.int .u64 (h.tim:Int),.int .u64 (h.seq:Int),.int .u64 (h.lif:Int),.slice A n c] 73)).alloc (.cells #[.int .u64 (h.flg:Int),.int .i64 h.crc,.int .i64 h.dsc,.string h.dnm,.int .u64 (h.dn:Int),.int .u64 (h.dv:Int),.int .i64 h.ssc,.string h.snm,.int .u64 (h.sn:Int),.int .u64 (h.sv:Int),.int .i64 h.rsc,.string h.rnm,.int .u64 (h.rn:Int),.int .u64 (h.rv:Int),.int .u64 (h.tim:Int),.int .u64 (h.seq:Int),.int .u64 (h.lif:Int),.slice A' n c'] 73)) ((w.alloc (.cells #[.int .u64 (h.flg:Int),.int .i64 h.crc,.int .i64 h.dsc,.string h.dnm,.int .u64 (h.dn:Int),.int .u64 (h.dv:Int),.int .i64 h.ssc,.string h.snm,.int .u64 (h.sn:Int),.int .u64 (h.sv:Int),.int .i64 h.rsc,.string h.rnm,.int .u64 (h.rn:Int),.int .u64 (h.rv:Int),.int .u64 (h.tim:Int),.int .u64 (h.seq:Int),.int .u64 (h.lif:Int),.slice A n c] 73)).alloc (.cells #[.int .u64 (h.flg:Int),.int .i64 h.crc,.int .i64 h.dsc,.string h.dnm,.int .u64 (h.dn:Int),.int .u64 (h.dv:Int),.int .i64 h.ssc,.string h.snm,.int .u64 (h.sn:Int),.int .u64 (h.sv:Int),.int .i64 h.rsc,.string h.rnm,.int .u64 (h.rn:Int),.int .u64 (h.rv:Int),.int .u64 (h.tim:Int),.int .u64 (h.seq:Int),.int .u64 (h.lif:Int),.slice A' n c'] 73))):=Below.refl _ _
 have HS0:Hid (((w.alloc (.cells #[.int .u64 (h.flg:Int),.int .i64 h.crc,.int .i64 h.dsc,.string h.dnm,.int .u64 (h.dn:Int),.int .u64 (h.dv:Int),.int .i64 h.ssc,.string h.snm,.int .u64 (h.sn:Int),.int .u64 (h.sv:Int),.int .i64 h.rsc,.string h.rnm,.int .u64 (h.rn:Int),.int .u64 (h.rv:Int),.int .u64 (h.tim:Int),.int .u64 (h.seq:Int),.int .u64 (h.lif:Int),.slice A n c] 73)).alloc (.cells #[.int .u64 (h.flg:Int),.int .i64 h.crc,.int .i64 h.dsc,.string h.dnm,.int .u64 (h.dn:Int),.int .u64 (h.dv:Int),.int .i64 h.ssc,.string h.snm,.int .u64 (h.sn:Int),.int .u64 (h.sv:Int),.int .i64 h.rsc,.string h.rnm,.int .u64 (h.rn:Int),.int .u64 (h.rv:Int),.int .u64 (h.tim:Int),.int .u64 (h.seq:Int),.int .u64 (h.lif:Int),.slice A' n c'] 73)).heap.size=w.heap.size+2):=by show _=_;simp
 have HX1:=hid (fun (W:World) (hb:Below (w.heap.size+2) ((w.alloc (.cells #[.int .u64 (h.flg:Int),.int .i64 h.crc,.int .i64 h.dsc,.string h.dnm,.int .u64 (h.dn:Int),.int .u64 (h.dv:Int),.int .i64 h.ssc,.string h.snm,.int .u64 (h.sn:Int),.int .u64 (h.sv:Int),.int .i64 h.rsc,.string h.rnm,.int .u64 (h.rn:Int),.int .u64 (h.rv:Int),.int .u64 (h.tim:Int),.int .u64 (h.seq:Int),.int .u64 (h.lif:Int),.slice A n c] 73)).alloc (.cells #[.int .u64 (h.flg:Int),.int .i64 h.crc,.int .i64 h.dsc,.string h.dnm,.int .u64 (h.dn:Int),.int .u64 (h.dv:Int),.int .i64 h.ssc,.string h.snm,.int .u64 (h.sn:Int),.int .u64 (h.sv:Int),.int .i64 h.rsc,.string h.rnm,.int .u64 (h.rn:Int),.int .u64 (h.rv:Int),.int .u64 (h.tim:Int),.int .u64 (h.seq:Int),.int .u64 (h.lif:Int),.slice A' n c'] 73)) W)=>cell_row (row_of_box (w:=w) (g:=w.heap.size) rfl (((Below.refl (w.heap.size+1) (w.alloc (.cells #[.int .u64 (h.flg:Int),.int .i64 h.crc,.int .i64 h.dsc,.string h.dnm,.int .u64 (h.dn:Int),.int .u64 (h.dv:Int),.int .i64 h.ssc,.string h.snm,.int .u64 (h.sn:Int),.int .u64 (h.sv:Int),.int .i64 h.rsc,.string h.rnm,.int .u64 (h.rn:Int),.int .u64 (h.rv:Int),.int .u64 (h.tim:Int),.int .u64 (h.seq:Int),.int .u64 (h.lif:Int),.slice A n c] 73))).alloc (by simp) (.cells #[.int .u64 (h.flg:Int),.int .i64 h.crc,.int .i64 h.dsc,.string h.dnm,.int .u64 (h.dn:Int),.int .u64 (h.dv:Int),.int .i64 h.ssc,.string h.snm,.int .u64 (h.sn:Int),.int .u64 (h.sv:Int),.int .i64 h.rsc,.string h.rnm,.int .u64 (h.rn:Int),.int .u64 (h.rv:Int),.int .u64 (h.tim:Int),.int .u64 (h.seq:Int),.int .u64 (h.lif:Int),.slice A' n c'] 73)).trans (hb.mono (Nat.le_succ _)))) 17 rfl)
 have HX2:=hid (fun (W:World) (hb:Below (w.heap.size+2) ((w.alloc (.cells #[.int .u64 (h.flg:Int),.int .i64 h.crc,.int .i64 h.dsc,.string h.dnm,.int .u64 (h.dn:Int),.int .u64 (h.dv:Int),.int .i64 h.ssc,.string h.snm,.int .u64 (h.sn:Int),.int .u64 (h.sv:Int),.int .i64 h.rsc,.string h.rnm,.int .u64 (h.rn:Int),.int .u64 (h.rv:Int),.int .u64 (h.tim:Int),.int .u64 (h.seq:Int),.int .u64 (h.lif:Int),.slice A n c] 73)).alloc (.cells #[.int .u64 (h.flg:Int),.int .i64 h.crc,.int .i64 h.dsc,.string h.dnm,.int .u64 (h.dn:Int),.int .u64 (h.dv:Int),.int .i64 h.ssc,.string h.snm,.int .u64 (h.sn:Int),.int .u64 (h.sv:Int),.int .i64 h.rsc,.string h.rnm,.int .u64 (h.rn:Int),.int .u64 (h.rv:Int),.int .u64 (h.tim:Int),.int .u64 (h.seq:Int),.int .u64 (h.lif:Int),.slice A' n c'] 73)) W)=>cell_row (row_of_box (w:=w.alloc (.cells #[.int .u64 (h.flg:Int),.int .i64 h.crc,.int .i64 h.dsc,.string h.dnm,.int .u64 (h.dn:Int),.int .u64 (h.dv:Int),.int .i64 h.ssc,.string h.snm,.int .u64 (h.sn:Int),.int .u64 (h.sv:Int),.int .i64 h.rsc,.string h.rnm,.int .u64 (h.rn:Int),.int .u64 (h.rv:Int),.int .u64 (h.tim:Int),.int .u64 (h.seq:Int),.int .u64 (h.lif:Int),.slice A n c] 73)) (g:=w.heap.size+1) (by simp) hb) 17 rfl)
 have HR:=hid (And.intro hr (And.intro hr' hB))
 have n1:=fun W=>neq_eid_self h.dsc h.dnm (h.dn:Int) (h.dv:Int) W
 have n2:=fun W=>neq_eid_self h.ssc h.snm (h.sn:Int) (h.sv:Int) W
 have n3:=fun W=>neq_eid_self h.rsc h.rnm (h.rn:Int) (h.rv:Int) W
 have hn47:=hr.2.2
 clear hr hr' hB
 unfold bunV
 go_enter Tryz.func94,Tryz.ntmps94
 go_wp2_with fail
 go_loopw [5] (fun v wr=>∃ i:Nat,i≤n∧v=.int .i64 (i:Int)∧Hid (Below (w.heap.size+2) ((w.alloc (.cells #[.int .u64 (h.flg:Int),.int .i64 h.crc,.int .i64 h.dsc,.string h.dnm,.int .u64 (h.dn:Int),.int .u64 (h.dv:Int),.int .i64 h.ssc,.string h.snm,.int .u64 (h.sn:Int),.int .u64 (h.sv:Int),.int .i64 h.rsc,.string h.rnm,.int .u64 (h.rn:Int),.int .u64 (h.rv:Int),.int .u64 (h.tim:Int),.int .u64 (h.seq:Int),.int .u64 (h.lif:Int),.slice A n c] 73)).alloc (.cells #[.int .u64 (h.flg:Int),.int .i64 h.crc,.int .i64 h.dsc,.string h.dnm,.int .u64 (h.dn:Int),.int .u64 (h.dv:Int),.int .i64 h.ssc,.string h.snm,.int .u64 (h.sn:Int),.int .u64 (h.sv:Int),.int .i64 h.rsc,.string h.rnm,.int .u64 (h.rn:Int),.int .u64 (h.rv:Int),.int .u64 (h.tim:Int),.int .u64 (h.seq:Int),.int .u64 (h.lif:Int),.slice A' n c'] 73)) wr)) (fun v _=>n - (intOf v).toNat)
 case atStart=>exact ⟨0,Nat.zero_le _,rfl,HW0.out⟩
 case round =>
  obtain ⟨i,hi,rfl,HB⟩:=hrel
  have hBw:Hid (Below w.heap.size w wr):=HB0.out.trans (HB.out.mono (Nat.le_add_right _ 2))
  by_cases hlt:i<n
  ·
   have hil:i<l.length:=by rw [HR.out.1.1];exact hlt
   have hii:(i:Int)<(n:Int):=by omega
   obtain ⟨b,o,hA,hbB,hks⟩:=HR.out.1.2.1 (by omega)
   obtain ⟨b',o',hA',hbB',hks'⟩:=HR.out.2.1.2.1 (by omega)
   obtain ⟨A1,nd,cd,hk⟩:=hks.get i hil
   obtain ⟨A2,nd2,cd2,hk'⟩:=hks'.get i hil
   generalize l[i]=x at *
   obtain rfl:nd=nd2:=hk.rd.1.symm.trans hk'.rd.1
   have HKK:=hid (And.intro hk (And.intro hk' (And.intro hbB hbB')))
   subst hA hA'
   have hS:∀ W,Below wr.heap.size wr W→W.cell? ⟨w.heap.size,17,none⟩=some (.slice (some ⟨b,o,none⟩) n c)∧W.cell? ⟨w.heap.size+1,17,none⟩=some (.slice (some ⟨b',o',none⟩) n c')∧(W.cell? ⟨b,o+i*5,none⟩=some (.int .u64 (x.typ:Int))∧W.cell? ⟨b,o+i*5+1,none⟩=some (.int .u64 (x.num:Int))∧W.cell? ⟨b,o+i*5+2,none⟩=some (.int .u64 (x.flg:Int))∧W.cell? ⟨b,o+i*5+3,none⟩=some (.int .i64 x.crc)∧W.cell? ⟨b,o+i*5+4,none⟩=some (.slice A1 nd cd))∧(W.cell? ⟨b',o'+i*5,none⟩=some (.int .u64 (x.typ:Int))∧W.cell? ⟨b',o'+i*5+1,none⟩=some (.int .u64 (x.num:Int))∧W.cell? ⟨b',o'+i*5+2,none⟩=some (.int .u64 (x.flg:Int))∧W.cell? ⟨b',o'+i*5+3,none⟩=some (.int .i64 x.crc)∧W.cell? ⟨b',o'+i*5+4,none⟩=some (.slice A2 nd cd2)):=fun W hW=>by
    have hb1:=Below.push HB.out (Nat.le_of_eq HS0.out.symm) hW
    have hbw:=hBw.out.trans (hW.mono hBw.out.size)
    have h1:=HKK.out.1.below (hbw.mono HR.out.2.2) HKK.out.2.2.1
    have h2:=HKK.out.2.1.below (hbw.mono HR.out.2.2) HKK.out.2.2.2
    exact ⟨HX1.out W hb1,HX2.out W hb1,⟨h1.k0,h1.k1,h1.k2,h1.k3,h1.k4⟩,⟨h2.k0,h2.k1,h2.k2,h2.k3,h2.k4⟩⟩
   have HSS:=hid hS
   have CS:=hid (fun (W:World) (hW:Below wr.heap.size wr W)=>rsameB_true x.typ x.num x.flg x.crc A1 A2 nd cd cd2 B x.dat W (Nat.le_trans HR.out.2.2 (hBw.out.trans (hW.mono hBw.out.size)).size) (HKK.out.1.rd.below ((hBw.out.trans (hW.mono hBw.out.size)).mono HR.out.2.2)) (HKK.out.2.1.rd.below ((hBw.out.trans (hW.mono hBw.out.size)).mono HR.out.2.2)))
   have x17:=(hS wr (Below.refl _ _)).1
   clear hk hk' hks hks' hbB hbB' hS
   unfold blkV at *
   go_wp2_with fail
   clear x17
   go_region_held3 (fun W=>W.cell? ⟨w.heap.size,17,none⟩=some (.slice (some ⟨b,o,none⟩) n c)∧W.cell? ⟨w.heap.size+1,17,none⟩=some (.slice (some ⟨b',o',none⟩) n c')∧(W.cell? ⟨b,o+i*5,none⟩=some (.int .u64 (x.typ:Int))∧W.cell? ⟨b,o+i*5+1,none⟩=some (.int .u64 (x.num:Int))∧W.cell? ⟨b,o+i*5+2,none⟩=some (.int .u64 (x.flg:Int))∧W.cell? ⟨b,o+i*5+3,none⟩=some (.int .i64 x.crc)∧W.cell? ⟨b,o+i*5+4,none⟩=some (.slice A1 nd cd))∧(W.cell? ⟨b',o'+i*5,none⟩=some (.int .u64 (x.typ:Int))∧W.cell? ⟨b',o'+i*5+1,none⟩=some (.int .u64 (x.num:Int))∧W.cell? ⟨b',o'+i*5+2,none⟩=some (.int .u64 (x.flg:Int))∧W.cell? ⟨b',o'+i*5+3,none⟩=some (.int .i64 x.crc)∧W.cell? ⟨b',o'+i*5+4,none⟩=some (.slice A2 nd cd2)))
    (first|(with_reducible exact HSS.out _ D2.out)|(with_reducible exact HSS.out _ Below.drew_)|(with_reducible exact HSS.out _ (Below.refl _ _))|fail)
    (first
     | (go_at_call 31;refine (CS.out _ Below.drew_).mono ?_;rintro e w2 ⟨rfl,hb2⟩;have D2:Hid (Below wr.heap.size wr w2):=Below.drew_.trans hb2;clear hb2)
     | fail)
   have HB2:=hid (Below.push HB.out (Nat.le_of_eq HS0.out.symm) D2.out)
   go_wp2_with fail
   go_roundw
   case rel=>exact ⟨i+1,by omega,by go_num,HB2.out⟩
   case measure=>simp [intOf];omega
  ·
   obtain rfl:i=n:=by omega
   have x17:=HX1.out _ HB.out
   have hii:decide ((i:Int)<(i:Int))=false:=decide_eq_false (by omega)
   go_wp2_with fail
   go_ret
   exact ⟨rfl,hBw.out⟩
end Go.Proofs.YtlecbblmaadpiaaGreatDoor
