import Derived.Test.YteckeagobafoiaaGreatDoorQBunS
import Derived.Stop.IfaceNil
namespace Go.Proofs.YteckeagobafoiaaGreatDoor
set_option maxRecDepth 100000
set_option maxHeartbeats 16000000
open Go.RowKit
open Go.Lib (hid)
def plc (p:Blk→Bool):List Blk→Nat→Int
 | [],_ => -1
 | x::r,i=>if p x=true then (i:Int) else plc p r (i+1)
theorem plc_ge (p:Blk→Bool):∀ (l:List Blk) (i:Nat),decide (0≤plc p l i)=l.any p
 | [],_=>by simp [plc]
 | x::r,i=>by
  rw [plc,List.any_cons]
  cases h:p x
  ·
   rw [if_neg (by decide),plc_ge p r (i+1),Bool.false_or]
  ·
   rw [if_pos rfl,Bool.true_or];simp
theorem plc_at (p:Blk→Bool) (l:List Blk) (i:Nat) (hi:i<l.length):plc p (l.drop i) i=if p (l[i]'hi)=true then (i:Int) else plc p (l.drop (i+1)) (i+1):=by
 rw [List.drop_eq_getElem_cons hi,plc]
def pNum (q:Nat) (x:Blk):Bool:=decide (x.num=q)
def pTyp (q:Nat) (x:Blk):Bool:=decide (x.typ=q)
theorem cl_num (x:Blk) (A:Option Addr) (nd cd g q:Nat) (w:World) (hg:w.cell? ⟨g,0,none⟩=some (.int .u64 (q:Int))) :
  Calls Tryz.prog 187 #[blkV x.typ x.num x.flg x.crc A nd cd,.pointer (some ⟨g,0,none⟩)] w fun e w'=>e=.returned (.bool (pNum q x))∧Below w.heap.size w w':=by
 have hlt:=World.block_lt_of_cell? w _ hg
 have hg1:(w.alloc (.cells #[.int .u64 (x.typ:Int),.int .u64 (x.num:Int),.int .u64 (x.flg:Int),.int .i64 x.crc,.slice A nd cd] 63)).cell? ⟨g,0,none⟩=some (.int .u64 (q:Int)):=(World.cell?_alloc_lt _ _ _ hlt).trans hg
 obtain ⟨R,hR⟩:∃ R,R=pNum q x:=⟨_,rfl⟩
 rw [← hR]
 have hr:((x.num:Int)==(q:Int))=R:=by
  rw [hR];unfold pNum
  rw [Bool.eq_iff_iff];simp
  omega
 unfold blkV
 clear hg hR hlt
 cases R with
 | true =>
  go_enter Tryz.func187,Tryz.ntmps187
  go_wp2_with fail
  go_ret
  exact ⟨rfl,(Below.refl _ _).alloc (Nat.le_refl _) _⟩
 | false =>
  go_enter Tryz.func187,Tryz.ntmps187
  go_wp2_with fail
  go_ret
  exact ⟨rfl,(Below.refl _ _).alloc (Nat.le_refl _) _⟩
theorem ixf_num (A:Option Addr) (n c B q g:Nat) (l:List Blk) (w:World) (h:RdL w B A n l) (hB:B≤w.heap.size) (hg:w.cell? ⟨g,0,none⟩=some (.int .u64 (q:Int))) (hlt:g<w.heap.size) :
  Calls Tryz.prog 186 #[.slice A n c,.func (.func 187) #[] #[.pointer (some ⟨g,0,none⟩)]] w fun e w'=>e=.returned (.int .i64 (plc (pNum q) l 0))∧Below w.heap.size w w':=by
 have CL:=hid (fun x A nd cd (W:World) (hb:Below w.heap.size w W)=>cl_num x A nd cd g q W ((hb.cell (p:=⟨g,0,none⟩) hlt).trans hg))
 obtain ⟨R,hR⟩:∃ R,R=plc (pNum q) l 0:=⟨_,rfl⟩
 rw [← hR]
 have HR:=hid hR
 have HH:=hid h
 have hn47:=h.2.2
 have HB0:=hid hB
 clear hR hg hlt h hB
 unfold blkV at *
 go_enter Tryz.func186,Tryz.ntmps186
 go_wp2_with fail
 go_loopw [8] (fun v wl=>∃ i:Nat,i≤n∧v=.int .i64 (i:Int)∧Hid (Below w.heap.size w wl)∧Hid (plc (pNum q) (l.drop i) i=R)) (fun v _=>n - (intOf v).toNat)
 case atStart=>exact ⟨0,Nat.zero_le _,rfl,Below.refl _ _,HR.out.symm⟩
 case round =>
  obtain ⟨i,hi,rfl,HB,HP⟩:=hrel
  by_cases hlt:i<n
  ·
   have hil:i<l.length:=by rw [HH.out.1];exact hlt
   obtain ⟨b,o,hA,hbB,hks⟩:=HH.out.2.1 (by omega)
   obtain ⟨A1,nd,cd,hk⟩:=hks.get i hil
   have hk2:=hk.below (HB.out.mono HB0.out) hbB
   have hp:=plc_at (pNum q) l i hil
   rw [HP.out] at hp
   generalize l[i]=x at *
   have g0:=hk2.k0
   have g1:=hk2.k1
   have g2:=hk2.k2
   have g3:=hk2.k3
   have g4:=hk2.k4
   have C1:=hid (CL.out x A1 nd cd wr HB.out)
   have HPP:=hid hp
   clear hp hk hk2 hks hbB
   subst hA
   cases hv:pNum q x with
   | true =>
    rw [hv] at C1
    have e:R=(i:Int):=by rw [HPP.out,hv,if_pos rfl]
    clear HPP HP HR hv
    subst e
    go_wp2_with fail
    refine C1.out.mono ?_
    rintro e w1 ⟨rfl,hb⟩
    have HB2:=hid (HB.out.trans (hb.mono HB.out.size))
    clear hb g0 g1 g2 g3 g4
    go_wp2_with fail
    go_ret
    exact ⟨rfl,HB2.out⟩
   | false =>
    rw [hv] at C1
    have HP2:Hid (plc (pNum q) (l.drop (i+1)) (i+1)=R):=by show _=_;rw [HPP.out,hv,if_neg (by decide)]
    clear HPP HP hv
    go_wp2_with fail
    refine C1.out.mono ?_
    rintro e w1 ⟨rfl,hb⟩
    have HB2:=hid (HB.out.trans (hb.mono HB.out.size))
    clear hb g0 g1 g2 g3 g4
    go_wp2_with fail
    go_roundw
    case rel=>exact ⟨i+1,by omega,by go_num,HB2.out,HP2.out⟩
    case measure=>simp [intOf];omega
  ·
   obtain rfl:i=n:=by omega
   have e:R = -1:=by
    rw [← HP.out,List.drop_eq_nil_of_le (by rw [HH.out.1];exact Nat.le_refl _)];rfl
   clear HP HR
   subst e
   have HBE:=hid HB.out
   go_wp2_with fail
   go_ret
   exact ⟨rfl,HBE.out⟩
theorem cl_typ (x:Blk) (A:Option Addr) (nd cd g q:Nat) (w:World) (hg:w.cell? ⟨g,0,none⟩=some (.int .u64 (q:Int))) :
  Calls Tryz.prog 215 #[blkV x.typ x.num x.flg x.crc A nd cd,.pointer (some ⟨g,0,none⟩)] w fun e w'=>e=.returned (.bool (pTyp q x))∧Below w.heap.size w w':=by
 have hlt:=World.block_lt_of_cell? w _ hg
 have hg1:(w.alloc (.cells #[.int .u64 (x.typ:Int),.int .u64 (x.num:Int),.int .u64 (x.flg:Int),.int .i64 x.crc,.slice A nd cd] 63)).cell? ⟨g,0,none⟩=some (.int .u64 (q:Int)):=(World.cell?_alloc_lt _ _ _ hlt).trans hg
 obtain ⟨R,hR⟩:∃ R,R=pTyp q x:=⟨_,rfl⟩
 rw [← hR]
 have hr:((x.typ:Int)==(q:Int))=R:=by
  rw [hR];unfold pTyp
  rw [Bool.eq_iff_iff];simp
  omega
 unfold blkV
 clear hg hR hlt
 cases R with
 | true =>
  go_enter Tryz.func215,Tryz.ntmps215
  go_wp2_with fail
  go_ret
  exact ⟨rfl,(Below.refl _ _).alloc (Nat.le_refl _) _⟩
 | false =>
  go_enter Tryz.func215,Tryz.ntmps215
  go_wp2_with fail
  go_ret
  exact ⟨rfl,(Below.refl _ _).alloc (Nat.le_refl _) _⟩
theorem ixf_typ (A:Option Addr) (n c B q g:Nat) (l:List Blk) (w:World) (h:RdL w B A n l) (hB:B≤w.heap.size) (hg:w.cell? ⟨g,0,none⟩=some (.int .u64 (q:Int))) (hlt:g<w.heap.size) :
  Calls Tryz.prog 186 #[.slice A n c,.func (.func 215) #[] #[.pointer (some ⟨g,0,none⟩)]] w fun e w'=>e=.returned (.int .i64 (plc (pTyp q) l 0))∧Below w.heap.size w w':=by
 have CL:=hid (fun x A nd cd (W:World) (hb:Below w.heap.size w W)=>cl_typ x A nd cd g q W ((hb.cell (p:=⟨g,0,none⟩) hlt).trans hg))
 obtain ⟨R,hR⟩:∃ R,R=plc (pTyp q) l 0:=⟨_,rfl⟩
 rw [← hR]
 have HR:=hid hR
 have HH:=hid h
 have hn47:=h.2.2
 have HB0:=hid hB
 clear hR hg hlt h hB
 unfold blkV at *
 go_enter Tryz.func186,Tryz.ntmps186
 go_wp2_with fail
 go_loopw [8] (fun v wl=>∃ i:Nat,i≤n∧v=.int .i64 (i:Int)∧Hid (Below w.heap.size w wl)∧Hid (plc (pTyp q) (l.drop i) i=R)) (fun v _=>n - (intOf v).toNat)
 case atStart=>exact ⟨0,Nat.zero_le _,rfl,Below.refl _ _,HR.out.symm⟩
 case round =>
  obtain ⟨i,hi,rfl,HB,HP⟩:=hrel
  by_cases hlt:i<n
  ·
   have hil:i<l.length:=by rw [HH.out.1];exact hlt
   obtain ⟨b,o,hA,hbB,hks⟩:=HH.out.2.1 (by omega)
   obtain ⟨A1,nd,cd,hk⟩:=hks.get i hil
   have hk2:=hk.below (HB.out.mono HB0.out) hbB
   have hp:=plc_at (pTyp q) l i hil
   rw [HP.out] at hp
   generalize l[i]=x at *
   have g0:=hk2.k0
   have g1:=hk2.k1
   have g2:=hk2.k2
   have g3:=hk2.k3
   have g4:=hk2.k4
   have C1:=hid (CL.out x A1 nd cd wr HB.out)
   have HPP:=hid hp
   clear hp hk hk2 hks hbB
   subst hA
   cases hv:pTyp q x with
   | true =>
    rw [hv] at C1
    have e:R=(i:Int):=by rw [HPP.out,hv,if_pos rfl]
    clear HPP HP HR hv
    subst e
    go_wp2_with fail
    refine C1.out.mono ?_
    rintro e w1 ⟨rfl,hb⟩
    have HB2:=hid (HB.out.trans (hb.mono HB.out.size))
    clear hb g0 g1 g2 g3 g4
    go_wp2_with fail
    go_ret
    exact ⟨rfl,HB2.out⟩
   | false =>
    rw [hv] at C1
    have HP2:Hid (plc (pTyp q) (l.drop (i+1)) (i+1)=R):=by show _=_;rw [HPP.out,hv,if_neg (by decide)]
    clear HPP HP hv
    go_wp2_with fail
    refine C1.out.mono ?_
    rintro e w1 ⟨rfl,hb⟩
    have HB2:=hid (HB.out.trans (hb.mono HB.out.size))
    clear hb g0 g1 g2 g3 g4
    go_wp2_with fail
    go_roundw
    case rel=>exact ⟨i+1,by omega,by go_num,HB2.out,HP2.out⟩
    case measure=>simp [intOf];omega
  ·
   obtain rfl:i=n:=by omega
   have e:R = -1:=by
    rw [← HP.out,List.drop_eq_nil_of_le (by rw [HH.out.1];exact Nat.le_refl _)];rfl
   clear HP HR
   subst e
   have HBE:=hid HB.out
   go_wp2_with fail
   go_ret
   exact ⟨rfl,HBE.out⟩
theorem place_any (A:Option Addr) (n c B q:Nat) (l:List Blk) (w:World) (h:RdL w B A n l) (hB:B≤w.heap.size) :
  Calls Tryz.prog 147 #[.slice A n c,.int .u64 (q:Int)] w fun e w'=>e=.returned (.int .i64 (plc (pNum q) l 0))∧Below w.heap.size w w':=by
 have C1:=hid (ixf_num A n c B q w.heap.size l (w.alloc (.cells #[.int .u64 (q:Int)] 22)) (h.below ((Below.refl _ _).alloc hB _)) (Nat.le_trans hB (le_alloc _ _)) (by rw [World.cell?_alloc_at _ _ _ _ rfl];rfl) (by simp))
 clear h hB
 go_enter Tryz.func147,Tryz.ntmps147
 go_wp2_with fail
 refine C1.out.mono ?_
 rintro e w1 ⟨rfl,hb⟩
 have HB:=hid (((Below.refl w.heap.size w).alloc (Nat.le_refl _) (.cells #[.int .u64 (q:Int)] 22)).trans (hb.mono (le_alloc _ _)))
 clear hb
 go_wp2_with fail
 go_ret
 exact ⟨rfl,HB.out⟩
theorem contains_any (A:Option Addr) (n c B q g:Nat) (l:List Blk) (w:World) (h:RdL w B A n l) (hB:B≤w.heap.size) (hg:w.cell? ⟨g,0,none⟩=some (.int .u64 (q:Int))) :
  Calls Tryz.prog 214 #[.slice A n c,.func (.func 215) #[] #[.pointer (some ⟨g,0,none⟩)]] w fun e w'=>e=.returned (.bool (l.any (pTyp q)))∧Below w.heap.size w w':=by
 have C1:=hid (ixf_typ A n c B q g l w h hB hg (World.block_lt_of_cell? w _ hg))
 have hp:=plc_ge (pTyp q) l 0
 generalize plc (pTyp q) l 0=P at *
 rw [← hp]
 clear h hB hg hp
 go_enter Tryz.func214,Tryz.ntmps214
 go_wp2_with fail
 refine C1.out.mono ?_
 rintro e w1 ⟨rfl,hb⟩
 have HB:=hid hb
 clear hb
 go_wp2_with fail
 go_ret
 exact ⟨rfl,HB.out⟩
theorem hastype_any (A:Option Addr) (n c B q:Nat) (l:List Blk) (w:World) (h:RdL w B A n l) (hB:B≤w.heap.size) :
  Calls Tryz.prog 184 #[.slice A n c,.int .u64 (q:Int)] w fun e w'=>e=.returned (.bool (l.any (pTyp q)))∧Below w.heap.size w w':=by
 have C1:=hid (contains_any A n c B q w.heap.size l (w.alloc (.cells #[.int .u64 (q:Int)] 22)) (h.below ((Below.refl _ _).alloc hB _)) (Nat.le_trans hB (le_alloc _ _)) (by rw [World.cell?_alloc_at _ _ _ _ rfl];rfl))
 clear h hB
 go_enter Tryz.func184,Tryz.ntmps184
 go_wp2_with fail
 refine C1.out.mono ?_
 rintro e w1 ⟨rfl,hb⟩
 have HB:=hid (((Below.refl w.heap.size w).alloc (Nat.le_refl _) (.cells #[.int .u64 (q:Int)] 22)).trans (hb.mono (le_alloc _ _)))
 clear hb
 go_wp2_with fail
 go_ret
 exact ⟨rfl,HB.out⟩
theorem single_any (q:Nat) (w:World):Calls Tryz.prog 183 #[.int .u64 (q:Int)] w fun e w'=>e=.returned (.bool (singB q))∧w=w':=by
 have hs:singB q=(decide ((q:Int)=10)||(decide ((q:Int)=7)||decide ((q:Int)=6))):=by
  unfold singB
  rw [Bool.eq_iff_iff]
  simp only [Bool.or_eq_true,decide_eq_true_eq]
  omega
 rw [hs]
 clear hs
 generalize (q:Int)=Q
 by_cases h1:Q=10
 ·
  subst h1
  go_enter Tryz.func183,Tryz.ntmps183
  go_wp2_with fail
  go_ret
  exact ⟨rfl,rfl⟩
 ·
  have e1:(Q==10)=false:=by simpa using h1
  have d1:decide (Q=10)=false:=by simpa using h1
  rw [d1]
  clear d1 h1
  by_cases h2:Q=7
  ·
   subst h2
   go_enter Tryz.func183,Tryz.ntmps183
   go_wp2_with fail
   go_ret
   exact ⟨rfl,rfl⟩
  ·
   have e2:(Q==7)=false:=by simpa using h2
   have d2:decide (Q=7)=false:=by simpa using h2
   rw [d2]
   clear d2 h2
   have d3:decide (Q=6)=(Q==6):=by rw [Bool.eq_iff_iff];simp
   rw [d3]
   clear d3
   go_enter Tryz.func183,Tryz.ntmps183
   go_wp2_with fail
   go_ret
   exact ⟨by simp,rfl⟩
end Go.Proofs.YteckeagobafoiaaGreatDoor
