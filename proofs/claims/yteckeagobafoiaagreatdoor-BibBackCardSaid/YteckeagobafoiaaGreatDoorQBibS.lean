import Derived.Test.YteckeagobafoiaaGreatDoorQBibC
import Derived.Test.YteckeagobafoiaaGreatDoorQBibG
import Derived.Test.YteckeagobafoiaaGreatDoorQBihN
import Derived.Test.YteckeagobafoiaaGreatDoorQIpC
import Derived.Test.YteckeagobafoiaaGreatDoorQSame
import Derived.Test.YteckeagobafoiaaGreatDoorQShaU
import Derived.Deep.AppendLies
namespace Go.Proofs.YteckeagobafoiaaGreatDoor
set_option maxRecDepth 100000
set_option maxHeartbeats 16000000
open Go.RowKit
theorem Ow.rd_n {w:World} {base n:Nat} {t:TypeId} {v:Value} {l:List (BitVec 32)} (h:Ow w base t v l) (hl:l.length=n):∃ (A:Option Addr) (c:Nat),v=.slice A n c∧n≤c∧c≤maxLen∧Rw w w.heap.size A n l:=by
 subst hl
 exact h.rd
end Go.Proofs.YteckeagobafoiaaGreatDoor
/- The contracts of layer 8's code in one place (HmK, HmK2, HmK3: turned to the landed code's operations, if they differ). -/
/- Tag and Verify of one part, or two, that a statement lays (layer 8); what must come at any rate ('heads' of layer 8's statements): true. -/
namespace Go.Proofs.YteckeagobafoiaaGreatDoor
set_option maxRecDepth 100000
set_option maxHeartbeats 16000000
open Go.RowKit
def one (W:World) (A:Option Addr) (n c:Nat):World:=W.alloc (.cells #[.slice A n c] 29)
theorem one_pts (W:World) (A:Option Addr) (n c:Nat) (l:List UInt8) (h:Rd W W.heap.size A n l) (hc:n≤c) (hc2:c≤9223372036854775807):PtsF (W.alloc (.cells #[.slice A n c] 29)) (·<(W.alloc (.cells #[.slice A n c] 29)).heap.size) (some ⟨W.heap.size,0,none⟩) 1 [⟨A,n,c,l⟩] :=
 ptsF_lit W 29 [⟨A,n,c,l⟩] #[.slice A n c] rfl 1 rfl (fun p hp=>by rw [List.mem_singleton.1 hp];exact ⟨h,hc,hc2⟩)
theorem tag1_any (A A':Option Addr) (n c n' c':Nat) (k t:List UInt8) (W:World) (h:Rd W W.heap.size A n k) (hc:n≤c) (hc2:c≤9223372036854775807) (hn:n≤274877906944) (h':Rd W W.heap.size A' n' t) (hc':n'≤c') (hc2':c'≤9223372036854775807) (hn':n'≤274877906944) :
  Calls Tryz.prog 84 #[.slice A n c,.slice (some ⟨W.heap.size,0,none⟩) 1 1] (W.alloc (.cells #[.slice A' n' c'] 29)) (GivesO 5 (tagL k t) (W.alloc (.cells #[.slice A' n' c'] 29))):=by
 have:=ctag_any A n c k _ 1 1 _ _ ((h.alloc (Nat.le_refl _) _).more (by simp)) hc hc2 hn (one_pts W A' n' c' t h' hc' hc2') (by rw [catP_one];show t.length≤_;rw [h'.1];exact hn') (by decide)
 rwa [catP_one] at this
theorem ver1_any (A A' At:Option Addr) (n c n' c' nt ct:Nat) (k t tg:List UInt8) (W:World) (h:Rd W W.heap.size A n k) (hc:n≤c) (hc2:c≤9223372036854775807) (hn:n≤274877906944) (ht:Rd W W.heap.size At nt tg) (h':Rd W W.heap.size A' n' t) (hc':n'≤c') (hc2':c'≤9223372036854775807) (hn':n'≤274877906944) :
  Calls Tryz.prog 148 #[.slice A n c,.slice At nt ct,.slice (some ⟨W.heap.size,0,none⟩) 1 1] (W.alloc (.cells #[.slice A' n' c'] 29)) fun e w'=>e=.returned (.bool (tg==tagL k t))∧Below W.heap.size W w':=by
 have:=cverify_any A n c k At nt ct tg _ 1 1 _ _ ((h.alloc (Nat.le_refl _) _).more (by simp)) hc hc2 hn ((ht.alloc (Nat.le_refl _) _).more (by simp)) (one_pts W A' n' c' t h' hc' hc2') (by rw [catP_one];show t.length≤_;rw [h'.1];exact hn') (by decide)
 rw [catP_one] at this
 exact this.mono fun e w' ⟨he,hb⟩=>⟨he,((Below.refl _ W).alloc (Nat.le_refl _) _).trans (hb.mono (by simp))⟩
theorem iplB_len6 (p:List UInt8) (sc:Nat) (t:Option Blk) (k n f:Nat) (hp:p.length≤454) (ht:∀ x,t=some x→x.dat.length≤5000):(iplB p sc t k n f).length≤6000:=by
 have h9:∀ m n:Nat,(hd m n).length≤9:=fun m n=>by rw [hd_len];have:=hsz_le n;omega
 unfold iplB
 have a1:=h9 0 sc;have a2:=h9 0 k;have a3:=h9 0 n;have a4:=h9 0 f
 cases t with
 | none =>
  simp only [List.length_append]
  split <;> split <;> simp only [List.length_append,List.length_nil] <;> omega
 | some x =>
  have hx:=ht x rfl
  have b1:=h9 0 x.typ;have b2:=h9 0 x.num;have b3:=h9 0 x.flg;have b4:=h9 2 x.dat.length
  simp only [List.length_append]
  split <;> split <;> split <;> simp only [List.length_append,List.length_nil] <;> omega
theorem iplU_len6 (b:Bun) (q:Nat) (sc:Int) (k n f:Nat) (hd':∀ x∈b.blks,x.dat.length≤5000):(iplU b q sc k n f).1.length≤6000:=by
 unfold iplU
 by_cases hz:cauU b≠0
 ·
  rw [if_pos hz];exact Nat.zero_le _
 ·
  rw [if_neg hz]
  have hwr:Wr b:=(primOk_iff.1 (cauU_0.1 (by simpa using hz)).2.1).1
  have hp:=primW_len hwr
  split
  ·
   exact Nat.zero_le _
  ·
   split
   ·
    exact iplB_len6 _ _ _ _ _ _ hp (fun x h=>by cases h)
   ·
    cases hf:b.blks.find? (pNum q) with
    | none=>exact Nat.zero_le _
    | some x =>
     have hx:=hd' x (List.mem_of_find?_eq_some hf)
     show (if x.typ=11 then (([]:List UInt8),(100:Int)) else (iplB (primW b) sc.toNat (some x) k n f,0)).1.length≤6000
     split
     ·
      exact Nat.zero_le _
     ·
      exact iplB_len6 _ _ _ _ _ _ hp (fun y h=>by injection h with h;rw [← h];exact hx)
def OwT (t:TypeId) (base:Nat) (w:World) (v:Value) (gs:List (List UInt8)):Prop :=
 ∃ ps:List Tg,w.ownsRow base t 1 v gs.length (ps.map tgV)∧∀ (j:Nat) p,ps[j]?=some p→Rd (mask (lowsOr base v) w) w.heap.size p.A p.n (gs.getD j [])
theorem OwT.nil_ {t:TypeId} {base:Nat} {w:World}:OwT t base w (.slice none 0 0) []:=⟨[],World.ownsRow_nil _ _ _ _,fun j p hp=>by simp at hp⟩
theorem OwT.go {t:TypeId} {base:Nat} {w w':World} {v:Value} {gs:List (List UInt8)} (h:OwT t base w v gs) (hb:Below w.heap.size w w'):OwT t base w' v gs:=by
 obtain ⟨ps,h1,h2⟩:=h
 exact ⟨ps,own_go h1 hb,fun j p hp=>(h2 j p hp).mask_go hb.size (fun k hk _=>hb.block k hk) (fun _ _ h=>h)⟩
theorem OwT.push {t:TypeId} {base m:Nat} {w w1 w3:World} {v:Value} {gs:List (List UInt8)} {ps:List Tg} (h1:w.ownsRow base t 1 v gs.length (ps.map tgV)) (h2:∀ (j:Nat) p,ps[j]?=some p→Rd (mask (lowsOr base v) w) w.heap.size p.A p.n (gs.getD j []))
  {A:Option Addr} {n c:Nat} {g:List UInt8} (hx:Rd (mask (lows w.heap.size) w1) w1.heap.size A n g) (hb:Below w.heap.size w w1) (hm:m=gs.length+1)
  {v3:Value} (hown:w3.ownsRow base t 1 v3 m (ps.map tgV++[.slice A n c])) (hg:w1.grownBy w3 v.ownBlock) (hor:v3.ownBlock=v.ownBlock∨∀ g,v3.ownBlock=some g→w1.heap.size≤g) (hbase:base≤w.heap.size):OwT t base w3 v3 (gs++[g]):=by
 subst hm
 have hlt:=fun q (e:v.ownBlock=some q)=>World.ownsRow.lt h1 q e
 have hnew:∀ j,j<w1.heap.size→v.ownBlock≠some j→v3.ownBlock≠some j:=fun j hj hne e=>by
  rcases hor with h|h
  ·
   exact hne (by rw [← h];exact e)
  ·
   exact absurd (h j e) (by omega)
 have hsz:=hb.size
 have hpl:ps.length=gs.length:=by have:=h1.1;simpa using this
 refine ⟨ps++[⟨A,n,c⟩],by rw [List.length_append,List.length_singleton,List.map_append];exact hown,fun j p hp=>?_⟩
 rcases Nat.lt_or_ge j ps.length with h|h
 ·
  rw [List.getElem?_append_left h] at hp
  have e:(gs++[g]).getD j []=gs.getD j []:=by simp [List.getD,List.getElem?_append_left (show j<gs.length by omega)]
  rw [e]
  refine (h2 j p hp).mask_go (Nat.le_trans hsz hg.size) (fun k hk hs=>?_) (fun k hk hs=>?_)
  ·
   have hs':=lowsOr_f.1 hs
   rw [hg.block k (by omega) (fun e=>hs'.2 e.symm)]
   exact hb.block k hk
  ·
   have hs':=lowsOr_f.1 hs
   exact lowsOr_f.2 ⟨hs'.1,hnew k (by omega) hs'.2⟩
 ·
  rw [List.getElem?_append_right h] at hp
  have hj:j - ps.length=0:=by
   rcases Nat.eq_zero_or_pos (j - ps.length) with h0|h0
   ·
    exact h0
   ·
    rw [List.getElem?_eq_none (by simp;omega)] at hp;cases hp
  rw [hj] at hp
  simp at hp
  subst hp
  have e:(gs++[g]).getD j []=g:=by
   have hjg:j=gs.length:=by omega
   simp [List.getD,hjg]
  rw [e]
  refine hx.mask_go hg.size (fun k hk hs=>?_) (fun k hk hs=>?_)
  ·
   have:=lows_f.1 hs
   exact hg.block k hk (fun e=>by have:=(hlt k e.symm).2;omega)
  ·
   have:=lows_f.1 hs
   exact lowsOr_f.2 ⟨by omega,hnew k hk (fun e=>by have:=(hlt k e).2;omega)⟩
theorem OwT.read {t:TypeId} {base n:Nat} {w:World} {v:Value} {gs:List (List UInt8)} (h:OwT t base w v gs) (hn:gs.length=n):∃ A c,v=.slice A n c∧n≤c∧RdT w w.heap.size A n gs:=by
 subst hn
 obtain ⟨ps,h1,h2⟩:=h
 exact rdT_own t h1 rfl (fun i p hp=>(h2 i p hp).sub_ (fun _ _ hc=>mask_sub hc) (Nat.le_refl _))
theorem Ob.rdM {w:World} {base n lo:Nat} {t:TypeId} {v:Value} {l:List UInt8} (h:Ob w base t v l) (hlo:lo≤base) (hl:l.length=n):∃ (A:Option Addr) (c:Nat),v=.slice A n c∧n≤c∧Rd (mask (lows lo) w) w.heap.size A n l:=by
 obtain ⟨A,c,rfl,hc,-,hr⟩:=Ob.rdn h hl
 refine ⟨A,c,rfl,hc,hr.1,fun hn=>?_⟩
 obtain ⟨b,o,e,hb,hcell⟩:=hr.2 hn
 refine ⟨b,o,e,hb,fun i hi=>?_⟩
 have hbb:base≤b:=by
  rcases h.2 with ⟨h1,h2⟩|⟨g,cap,cur,h1,h2,-⟩
  ·
   simp at h1;omega
  ·
   rw [e] at h1
   simp only [Value.slice.injEq,Option.some.injEq,Addr.mk.injEq] at h1
   omega
 rw [mask_cell (lows_f.2 (Nat.le_trans hlo hbb))]
 exact hcell i hi
/-! ### The tags of targets, on the way -/
def prepT (gs:List (List UInt8)) (r:List (List UInt8)×Int):List (List UInt8)×Int:=if r.2≠0 then ([],r.2) else (gs++r.1,0)
theorem prepT_nil (f:Nat→List UInt8×Int) (k:List UInt8):∀ l,prepT [] (tagsT f k l)=tagsT f k l:=by
 intro l
 have h:(tagsT f k l).2≠0→(tagsT f k l).1=[]:=by
  cases l with
  | nil=>intro h;exact absurd rfl h
  | cons t ts =>
   intro h
   rw [tagsT] at h ⊢
   split
   ·
    rfl
   ·
    rename_i h1
    rw [if_neg h1] at h
    split
    ·
     rfl
    ·
     rename_i h2
     rw [if_neg h2] at h
     exact absurd rfl h
 unfold prepT
 by_cases h2:(tagsT f k l).2≠0
 ·
  rw [if_pos h2,← h h2]
 ·
  rw [if_neg h2,List.nil_append]
  have:(tagsT f k l).2=0:=by simpa using h2
  rw [← this]
theorem prepT_fail (f:Nat→List UInt8×Int) (k:List UInt8) (gs:List (List UInt8)) (t:Nat) (ts:List Nat) (h:(f t).2≠0):prepT gs (tagsT f k (t::ts))=([],(f t).2):=by
 rw [tagsT,if_pos h]
 unfold prepT
 rw [if_pos h]
theorem prepT_step (f:Nat→List UInt8×Int) (k:List UInt8) (gs:List (List UInt8)) (t:Nat) (ts:List Nat) (h:(f t).2=0):prepT gs (tagsT f k (t::ts))=prepT (gs++[tagL k (f t).1]) (tagsT f k ts):=by
 rw [tagsT,if_neg (by simp [h])]
 by_cases h2:(tagsT f k ts).2≠0
 ·
  rw [if_pos h2]
  unfold prepT
  rw [if_pos h2,if_pos h2]
 ·
  rw [if_neg h2]
  unfold prepT
  rw [if_neg (by simp),if_neg h2]
  simp
theorem prepT_end (f:Nat→List UInt8×Int) (k:List UInt8) (gs:List (List UInt8)):prepT gs (tagsT f k [])=(gs,0):=by
 unfold prepT tagsT
 simp
open Go.Lib (hid)
def ChkE (T:Snb) (z:Int) (w:World) (e:Ending) (w':World):Prop:=Below w.heap.size w w' ∧
 ((z=0∧e=.returned .nilIface)∨(z≠0∧∃ s,e=.returned (iflC z s))∨(z=101∧∃ s,e=.returned (iflS T.g s)))
theorem verT_at (f:Nat→List UInt8×Int) (k:List UInt8) (tgs:List Nat) (gs:List (List UInt8)) (i:Nat) (h1:i<tgs.length) (h2:i<gs.length) :
  verT f k (tgs.drop i) (gs.drop i)=if (f tgs[i]).2≠0 then (f tgs[i]).2 else if gs[i]≠tagL k (f tgs[i]).1 then 101 else verT f k (tgs.drop (i+1)) (gs.drop (i+1)):=by
 rw [List.drop_eq_getElem_cons h1,List.drop_eq_getElem_cons h2,verT]
theorem verT_end (f:Nat→List UInt8×Int) (k:List UInt8) (gs:List (List UInt8)):verT f k [] gs=0:=by
 cases gs <;> rfl
theorem icheckT_any (S:Snt) (T:Snb) (h:BH) (l:List Blk) (A:Option Addr) (n c B:Nat) (typ num flg:Nat) (cr:Int) (Ay:Option Addr) (ny cy:Nat) (v:Value) (x:Bb) (Ak:Option Addr) (nk ck:Nat) (k:List UInt8) (w:World)
  (hS:Wd S w) (hT:Ldb T w) (hBd:h.Bd) (hr:RdL w B A n l) (hB:B≤w.heap.size) (hc:n≤c) (hy:typ<18446744073709551616∧num<18446744073709551616∧flg<18446744073709551616) (hx:RdX w B v x) (htl:x.tag.length=x.tgs.length)
  (hk:Rd w B Ak nk k) (hkc:nk≤ck∧ck≤9223372036854775807∧nk≤274877906944) (hdat:∀ x∈l,x.dat.length≤5000) :
  Calls Tryz.prog 92 #[bunV h A n c,blkV typ num flg cr Ay ny cy,v,.slice Ak nk ck] w (ChkE T (verT (fun t=>iplU (h.bun l) t x.sco typ num flg) k x.tgs x.tag) w):=by
 obtain ⟨A2,n2,c2,ec,s,nd,sv,At,nt,ct,rfl,⟨hc2,hn2⟩,⟨hct,hnt⟩,hN,hsz,hTT,-⟩:=hx
 obtain ⟨so,hso⟩:∃ so,so=x.sco:=⟨_,rfl⟩
 rw [← hso]
 have HBA:Hid (Below w.heap.size w (w.alloc (.cells #[.int .u64 (h.flg:Int),.int .i64 h.crc,.int .i64 h.dsc,.string h.dnm,.int .u64 (h.dn:Int),.int .u64 (h.dv:Int),.int .i64 h.ssc,.string h.snm,.int .u64 (h.sn:Int),.int .u64 (h.sv:Int),.int .i64 h.rsc,.string h.rnm,.int .u64 (h.rn:Int),.int .u64 (h.rv:Int),.int .u64 (h.tim:Int),.int .u64 (h.seq:Int),.int .u64 (h.lif:Int),.slice A n c] 28))):=(Below.refl _ _).alloc (Nat.le_refl _) _
 have HBB:Hid (Below w.heap.size w ((w.alloc (.cells #[.int .u64 (h.flg:Int),.int .i64 h.crc,.int .i64 h.dsc,.string h.dnm,.int .u64 (h.dn:Int),.int .u64 (h.dv:Int),.int .i64 h.ssc,.string h.snm,.int .u64 (h.sn:Int),.int .u64 (h.sv:Int),.int .i64 h.rsc,.string h.rnm,.int .u64 (h.rn:Int),.int .u64 (h.rv:Int),.int .u64 (h.tim:Int),.int .u64 (h.seq:Int),.int .u64 (h.lif:Int),.slice A n c] 28)).alloc (.cells #[.int .u64 (typ:Int),.int .u64 (num:Int),.int .u64 (flg:Int),.int .i64 cr,.slice Ay ny cy] 63))):=HBA.out.alloc (le_alloc _ _) _
 have HB0:Hid (Below w.heap.size w (((w.alloc (.cells #[.int .u64 (h.flg:Int),.int .i64 h.crc,.int .i64 h.dsc,.string h.dnm,.int .u64 (h.dn:Int),.int .u64 (h.dv:Int),.int .i64 h.ssc,.string h.snm,.int .u64 (h.sn:Int),.int .u64 (h.sv:Int),.int .i64 h.rsc,.string h.rnm,.int .u64 (h.rn:Int),.int .u64 (h.rv:Int),.int .u64 (h.tim:Int),.int .u64 (h.seq:Int),.int .u64 (h.lif:Int),.slice A n c] 28)).alloc (.cells #[.int .u64 (typ:Int),.int .u64 (num:Int),.int .u64 (flg:Int),.int .i64 cr,.slice Ay ny cy] 63)).alloc (.cells #[.slice A2 n2 c2,.int .i64 ec,.string s,.int .u64 (nd:Int),.int .u64 (sv:Int),.int .i64 so,.slice At nt ct] 39))):=HBB.out.alloc (Nat.le_trans (le_alloc _ _) (le_alloc _ _)) _
 have HSA:Hid ((w.alloc (.cells #[.int .u64 (h.flg:Int),.int .i64 h.crc,.int .i64 h.dsc,.string h.dnm,.int .u64 (h.dn:Int),.int .u64 (h.dv:Int),.int .i64 h.ssc,.string h.snm,.int .u64 (h.sn:Int),.int .u64 (h.sv:Int),.int .i64 h.rsc,.string h.rnm,.int .u64 (h.rn:Int),.int .u64 (h.rv:Int),.int .u64 (h.tim:Int),.int .u64 (h.seq:Int),.int .u64 (h.lif:Int),.slice A n c] 28)).heap.size=w.heap.size+1):=by show _=_;simp
 have HSB:Hid (((w.alloc (.cells #[.int .u64 (h.flg:Int),.int .i64 h.crc,.int .i64 h.dsc,.string h.dnm,.int .u64 (h.dn:Int),.int .u64 (h.dv:Int),.int .i64 h.ssc,.string h.snm,.int .u64 (h.sn:Int),.int .u64 (h.sv:Int),.int .i64 h.rsc,.string h.rnm,.int .u64 (h.rn:Int),.int .u64 (h.rv:Int),.int .u64 (h.tim:Int),.int .u64 (h.seq:Int),.int .u64 (h.lif:Int),.slice A n c] 28)).alloc (.cells #[.int .u64 (typ:Int),.int .u64 (num:Int),.int .u64 (flg:Int),.int .i64 cr,.slice Ay ny cy] 63)).heap.size=w.heap.size+2):=by show _=_;simp
 have HS0:Hid ((((w.alloc (.cells #[.int .u64 (h.flg:Int),.int .i64 h.crc,.int .i64 h.dsc,.string h.dnm,.int .u64 (h.dn:Int),.int .u64 (h.dv:Int),.int .i64 h.ssc,.string h.snm,.int .u64 (h.sn:Int),.int .u64 (h.sv:Int),.int .i64 h.rsc,.string h.rnm,.int .u64 (h.rn:Int),.int .u64 (h.rv:Int),.int .u64 (h.tim:Int),.int .u64 (h.seq:Int),.int .u64 (h.lif:Int),.slice A n c] 28)).alloc (.cells #[.int .u64 (typ:Int),.int .u64 (num:Int),.int .u64 (flg:Int),.int .i64 cr,.slice Ay ny cy] 63)).alloc (.cells #[.slice A2 n2 c2,.int .i64 ec,.string s,.int .u64 (nd:Int),.int .u64 (sv:Int),.int .i64 so,.slice At nt ct] 39)).heap.size=w.heap.size+3):=by show _=_;simp
 have HW0:Hid (Below (w.heap.size+3) (((w.alloc (.cells #[.int .u64 (h.flg:Int),.int .i64 h.crc,.int .i64 h.dsc,.string h.dnm,.int .u64 (h.dn:Int),.int .u64 (h.dv:Int),.int .i64 h.ssc,.string h.snm,.int .u64 (h.sn:Int),.int .u64 (h.sv:Int),.int .i64 h.rsc,.string h.rnm,.int .u64 (h.rn:Int),.int .u64 (h.rv:Int),.int .u64 (h.tim:Int),.int .u64 (h.seq:Int),.int .u64 (h.lif:Int),.slice A n c] 28)).alloc (.cells #[.int .u64 (typ:Int),.int .u64 (num:Int),.int .u64 (flg:Int),.int .i64 cr,.slice Ay ny cy] 63)).alloc (.cells #[.slice A2 n2 c2,.int .i64 ec,.string s,.int .u64 (nd:Int),.int .u64 (sv:Int),.int .i64 so,.slice At nt ct] 39)) (((w.alloc (.cells #[.int .u64 (h.flg:Int),.int .i64 h.crc,.int .i64 h.dsc,.string h.dnm,.int .u64 (h.dn:Int),.int .u64 (h.dv:Int),.int .i64 h.ssc,.string h.snm,.int .u64 (h.sn:Int),.int .u64 (h.sv:Int),.int .i64 h.rsc,.string h.rnm,.int .u64 (h.rn:Int),.int .u64 (h.rv:Int),.int .u64 (h.tim:Int),.int .u64 (h.seq:Int),.int .u64 (h.lif:Int),.slice A n c] 28)).alloc (.cells #[.int .u64 (typ:Int),.int .u64 (num:Int),.int .u64 (flg:Int),.int .i64 cr,.slice Ay ny cy] 63)).alloc (.cells #[.slice A2 n2 c2,.int .i64 ec,.string s,.int .u64 (nd:Int),.int .u64 (sv:Int),.int .i64 so,.slice At nt ct] 39))):=Below.refl _ _
 have QA:Hid ((((w.alloc (.cells #[.int .u64 (h.flg:Int),.int .i64 h.crc,.int .i64 h.dsc,.string h.dnm,.int .u64 (h.dn:Int),.int .u64 (h.dv:Int),.int .i64 h.ssc,.string h.snm,.int .u64 (h.sn:Int),.int .u64 (h.sv:Int),.int .i64 h.rsc,.string h.rnm,.int .u64 (h.rn:Int),.int .u64 (h.rv:Int),.int .u64 (h.tim:Int),.int .u64 (h.seq:Int),.int .u64 (h.lif:Int),.slice A n c] 28)).alloc (.cells #[.int .u64 (typ:Int),.int .u64 (num:Int),.int .u64 (flg:Int),.int .i64 cr,.slice Ay ny cy] 63)).alloc (.cells #[.slice A2 n2 c2,.int .i64 ec,.string s,.int .u64 (nd:Int),.int .u64 (sv:Int),.int .i64 so,.slice At nt ct] 39)).heap[w.heap.size]?=some (.cells (#[.int .u64 (h.flg:Int),.int .i64 h.crc,.int .i64 h.dsc,.string h.dnm,.int .u64 (h.dn:Int),.int .u64 (h.dv:Int),.int .i64 h.ssc,.string h.snm,.int .u64 (h.sn:Int),.int .u64 (h.sv:Int),.int .i64 h.rsc,.string h.rnm,.int .u64 (h.rn:Int),.int .u64 (h.rv:Int),.int .u64 (h.tim:Int),.int .u64 (h.seq:Int),.int .u64 (h.lif:Int),.slice A n c]) 28 (0,0))):=row_of_box (w:=w) rfl (((Below.refl _ _).alloc (Nat.le_of_eq HSA.out.symm) _).alloc (by rw [HSB.out];omega) _)
 have QK:Hid ((((w.alloc (.cells #[.int .u64 (h.flg:Int),.int .i64 h.crc,.int .i64 h.dsc,.string h.dnm,.int .u64 (h.dn:Int),.int .u64 (h.dv:Int),.int .i64 h.ssc,.string h.snm,.int .u64 (h.sn:Int),.int .u64 (h.sv:Int),.int .i64 h.rsc,.string h.rnm,.int .u64 (h.rn:Int),.int .u64 (h.rv:Int),.int .u64 (h.tim:Int),.int .u64 (h.seq:Int),.int .u64 (h.lif:Int),.slice A n c] 28)).alloc (.cells #[.int .u64 (typ:Int),.int .u64 (num:Int),.int .u64 (flg:Int),.int .i64 cr,.slice Ay ny cy] 63)).alloc (.cells #[.slice A2 n2 c2,.int .i64 ec,.string s,.int .u64 (nd:Int),.int .u64 (sv:Int),.int .i64 so,.slice At nt ct] 39)).heap[w.heap.size+1]?=some (.cells #[.int .u64 (typ:Int),.int .u64 (num:Int),.int .u64 (flg:Int),.int .i64 cr,.slice Ay ny cy] 63 (0,0))):=row_of_box (w:=(w.alloc (.cells #[.int .u64 (h.flg:Int),.int .i64 h.crc,.int .i64 h.dsc,.string h.dnm,.int .u64 (h.dn:Int),.int .u64 (h.dv:Int),.int .i64 h.ssc,.string h.snm,.int .u64 (h.sn:Int),.int .u64 (h.sv:Int),.int .i64 h.rsc,.string h.rnm,.int .u64 (h.rn:Int),.int .u64 (h.rv:Int),.int .u64 (h.tim:Int),.int .u64 (h.seq:Int),.int .u64 (h.lif:Int),.slice A n c] 28))) HSA.out.symm ((Below.refl _ _).alloc (Nat.le_of_eq HSB.out.symm) _)
 have QX:Hid ((((w.alloc (.cells #[.int .u64 (h.flg:Int),.int .i64 h.crc,.int .i64 h.dsc,.string h.dnm,.int .u64 (h.dn:Int),.int .u64 (h.dv:Int),.int .i64 h.ssc,.string h.snm,.int .u64 (h.sn:Int),.int .u64 (h.sv:Int),.int .i64 h.rsc,.string h.rnm,.int .u64 (h.rn:Int),.int .u64 (h.rv:Int),.int .u64 (h.tim:Int),.int .u64 (h.seq:Int),.int .u64 (h.lif:Int),.slice A n c] 28)).alloc (.cells #[.int .u64 (typ:Int),.int .u64 (num:Int),.int .u64 (flg:Int),.int .i64 cr,.slice Ay ny cy] 63)).alloc (.cells #[.slice A2 n2 c2,.int .i64 ec,.string s,.int .u64 (nd:Int),.int .u64 (sv:Int),.int .i64 so,.slice At nt ct] 39)).heap[w.heap.size+2]?=some (.cells #[.slice A2 n2 c2,.int .i64 ec,.string s,.int .u64 (nd:Int),.int .u64 (sv:Int),.int .i64 so,.slice At nt ct] 39 (0,0))):=row_of_box (w:=((w.alloc (.cells #[.int .u64 (h.flg:Int),.int .i64 h.crc,.int .i64 h.dsc,.string h.dnm,.int .u64 (h.dn:Int),.int .u64 (h.dv:Int),.int .i64 h.ssc,.string h.snm,.int .u64 (h.sn:Int),.int .u64 (h.sv:Int),.int .i64 h.rsc,.string h.rnm,.int .u64 (h.rn:Int),.int .u64 (h.rv:Int),.int .u64 (h.tim:Int),.int .u64 (h.seq:Int),.int .u64 (h.lif:Int),.slice A n c] 28)).alloc (.cells #[.int .u64 (typ:Int),.int .u64 (num:Int),.int .u64 (flg:Int),.int .i64 cr,.slice Ay ny cy] 63))) HSB.out.symm (Below.refl _ _)
 have HR3:=hid (fun (W:World) (hb:Below (w.heap.size+3) (((w.alloc (.cells #[.int .u64 (h.flg:Int),.int .i64 h.crc,.int .i64 h.dsc,.string h.dnm,.int .u64 (h.dn:Int),.int .u64 (h.dv:Int),.int .i64 h.ssc,.string h.snm,.int .u64 (h.sn:Int),.int .u64 (h.sv:Int),.int .i64 h.rsc,.string h.rnm,.int .u64 (h.rn:Int),.int .u64 (h.rv:Int),.int .u64 (h.tim:Int),.int .u64 (h.seq:Int),.int .u64 (h.lif:Int),.slice A n c] 28)).alloc (.cells #[.int .u64 (typ:Int),.int .u64 (num:Int),.int .u64 (flg:Int),.int .i64 cr,.slice Ay ny cy] 63)).alloc (.cells #[.slice A2 n2 c2,.int .i64 ec,.string s,.int .u64 (nd:Int),.int .u64 (sv:Int),.int .i64 so,.slice At nt ct] 39)) W)=>And.intro (row_on QA.out hb (by omega)) (And.intro (row_on QK.out hb (by omega)) (row_on QX.out hb (by omega))))
 have CP:=hid (fun (q:Nat) (W:World) (hb:Below w.heap.size w W)=>ipplain_any S h l A n c B q so typ num flg W (hS.below hb (Nat.le_refl _)) hBd (hr.below (hb.mono hB)) (Nat.le_trans hB hb.size) hc hy hdat)
 have CL:=hid (fun (q:Nat)=>iplU_len6 (h.bun l) q so typ num flg hdat)
 have HKR:=hid (fun (W:World) (hb:Below w.heap.size w W)=>(hk.below (hb.mono hB)).more (Nat.le_trans hB hb.size))
 have HTW:=hid (fun (W:World) (hb:Below w.heap.size w W)=>(hT.below hb (Nat.le_refl _)).cg)
 have HKC:=hid hkc
 have HN:=hid hN
 have HTT:=hid hTT
 have HLB:=hid hB
 have LN:=hid hN.1
 have LT:=hid hTT.len
 have LE:=hid htl
 obtain ⟨f,hf⟩:∃ f:Nat→List UInt8×Int,f=fun t=>iplU (h.bun l) t so typ num flg:=⟨_,rfl⟩
 have CP2:=hid (fun (q:Nat) (W:World) (hb:Below w.heap.size w W)=>(show Calls Tryz.prog 83 #[bunV h A n c,.int .u64 (q:Int),.int .i64 so,.int .u64 (typ:Int),.int .u64 (num:Int),.int .u64 (flg:Int)] W (GivesP (f q) W) from by rw [hf];exact CP.out q W hb))
 have CL2:Hid (∀ q,(f q).1.length≤6000):=fun q=>by rw [hf];exact CL.out q
 rw [← hf]
 obtain ⟨R,hR⟩:∃ R,R=verT f k x.tgs x.tag:=⟨_,rfl⟩
 rw [← hR]
 have HR0:Hid (R=verT f k (x.tgs.drop 0) (x.tag.drop 0)):=by show _=_;rw [List.drop_zero,List.drop_zero];exact hR
 have HG:Hid (∀ (e:Ending) (w':World),Below w.heap.size w w'→((R=0∧e=.returned .nilIface)∨(R≠0∧∃ s,e=.returned (iflC R s))∨(R=101∧∃ s,e=.returned (iflS T.g s)))→ChkE T R w e w'):=fun _ _ h1 h2=>⟨h1,h2⟩
 have y0:=cell_row QX.out 0 rfl
 clear CP CL hS hT hBd hr hB hc hy hN hTT htl hk hkc hdat hf hR hso HBA HBB HSA HSB QA QK QX hsz hc2 hct
 unfold bunV blkV bibV at *
 go_enter Tryz.func92,Tryz.ntmps92
 go_wp2_with fail
 clear y0
 go_loopw [16] (fun s16 wl=>∃ (i:Nat),i≤n2∧s16=.int .i64 (i:Int)∧Hid (R=verT f k (x.tgs.drop i) (x.tag.drop i))∧Hid (Below (w.heap.size+3) (((w.alloc (.cells #[.int .u64 (h.flg:Int),.int .i64 h.crc,.int .i64 h.dsc,.string h.dnm,.int .u64 (h.dn:Int),.int .u64 (h.dv:Int),.int .i64 h.ssc,.string h.snm,.int .u64 (h.sn:Int),.int .u64 (h.sv:Int),.int .i64 h.rsc,.string h.rnm,.int .u64 (h.rn:Int),.int .u64 (h.rv:Int),.int .u64 (h.tim:Int),.int .u64 (h.seq:Int),.int .u64 (h.lif:Int),.slice A n c] 28)).alloc (.cells #[.int .u64 (typ:Int),.int .u64 (num:Int),.int .u64 (flg:Int),.int .i64 cr,.slice Ay ny cy] 63)).alloc (.cells #[.slice A2 n2 c2,.int .i64 ec,.string s,.int .u64 (nd:Int),.int .u64 (sv:Int),.int .i64 so,.slice At nt ct] 39)) wl)) (fun s16 _=>n2 - (intOf s16).toNat)
 case atStart=>exact ⟨0,Nat.zero_le _,rfl,HR0.out,HW0.out⟩
 case round =>
  obtain ⟨i,hi,rfl,HE,HT⟩:=hrel
  have TT:Hid (Below w.heap.size w wr):=HB0.out.trans (HT.out.mono (Nat.le_add_right _ 3))
  by_cases hlt:i<n2
  ·
   obtain ⟨b,o,rfl,hb,hcell⟩:=HN.out.get i hlt
   have hil:i<x.tgs.length:=by rw [LN.out];exact hlt
   have hit:i<x.tag.length:=by rw [LE.out];exact hil
   obtain ⟨b7,o7,Ag,ng,cg,rfl,hb7,hcell7,hrd7,-,-⟩:=HTT.out.get i (by rw [← LT.out];exact hit)
   have hget:x.tgs.getD i 0=x.tgs[i]:=by simp [List.getD,hil]
   have hget7:x.tag.getD i []=x.tag[i]:=by simp [List.getD,hit]
   rw [hget] at hcell
   rw [hget7] at hrd7
   have g0:=(TT.out.cell (p:=⟨b,o+i,none⟩) (Nat.lt_of_lt_of_le hb HLB.out)).trans hcell
   have hva:=verT_at f k x.tgs x.tag i hil hit
   obtain ⟨y,hy⟩:∃ y,y=x.tgs[i]:=⟨_,rfl⟩
   obtain ⟨tg,htg⟩:∃ tg,tg=x.tag[i]:=⟨_,rfl⟩
   rw [← hy] at g0 hva
   rw [← htg] at hva hrd7
   have hi1:(i:Int)<(n2:Int):=by omega
   have hii:decide ((i:Int)<(n2:Int))=true:=decide_eq_true (by omega)
   have HVA:=hid (HE.out.trans hva)
   have C7:=hid (fun (W:World) (hb:Below w.heap.size w W)=>(hb.cell (p:=⟨b7,o7+i,none⟩) (Nat.lt_of_lt_of_le hb7 HLB.out)).trans hcell7)
   have R7:=hid (fun (W:World) (hb:Below w.heap.size w W)=>(hrd7.below (hb.mono HLB.out)).more (Nat.le_trans HLB.out hb.size))
   have hint:(i:Int)<(nt:Int):=by have:=LT.out;omega
   obtain ⟨r1,r2,r3⟩:=HR3.out _ HT.out
   have RA:=hid r1
   have k0:=cell_row r2 0 rfl
   have k1:=cell_row r2 1 rfl
   have k2:=cell_row r2 2 rfl
   have x5:=cell_row r3 5 rfl
   have C1:=hid (CP2.out y wr TT.out)
   have L1:=CL2.out y
   have hfy:∃ p z,f y=(p,z):=⟨(f y).1,(f y).2,rfl⟩
   obtain ⟨p,z,hpz⟩:=hfy
   rw [hpz] at C1 L1 HVA
   have HL1:=hid L1
   clear hb hcell hget hy hva hil hit hpz L1 hget7 hb7 hcell7 hrd7 htg r1 r2 r3 HE
   go_wp2_with (first
    | (refine wpList_ld18 rfl (.tmp 4) rfl _ rfl _ _ RA.out rfl ?_)
    | fail)
   refine C1.out.mono ?_
   rintro e w1 ⟨hb,A1,n1,c1,rfl,hc1,hr1⟩
   have Z1:=hid (Below.push HT.out (Nat.le_of_eq HS0.out.symm) hb)
   have T1:=hid (TT.out.trans (hb.mono TT.out.size))
   by_cases hz:z=0
   ·
    have t1:(z != 0)=false:=by rw [hz];rfl
    have hn1:n1≤274877906944:=by have:=HL1.out;have:=hr1.1;simp only at *;omega
    have C2:=hid (ver1_any Ak A1 Ag nk ck n1 c1 ng cg k p tg w1 (HKR.out _ T1.out) HKC.out.1 HKC.out.2.1 HKC.out.2.2 (R7.out _ T1.out) hr1 hc1.1 hc1.2 hn1)
    obtain ⟨Q,hQ⟩:∃ Q,Q=(tg==tagL k p):=⟨_,rfl⟩
    rw [← hQ] at C2
    have HV2:Hid (R=if Q=true then verT f k (x.tgs.drop (i+1)) (x.tag.drop (i+1)) else 101):=by
     show _=_
     rw [HVA.out]
     rw [if_neg (by simp [hz])]
     by_cases hq:tg=tagL k p
     ·
      have:Q=true:=by rw [hQ,hq];simp
      rw [if_neg (by simp [hq]),if_pos this]
     ·
      have:Q=false:=by rw [hQ];simpa using hq
      rw [if_pos hq,this]
      rfl
    have x6:=cell_row (HR3.out _ Z1.out).2.2 6 rfl
    have d7:=C7.out _ T1.out
    clear hb hr1 hc1 hn1 C1 hQ HVA k0 k1 k2 x5 hz
    go_wp2_with fail
    refine C2.out.mono ?_
    rintro e w2 ⟨rfl,hb⟩
    have Z2:=hid (Below.push Z1.out (Nat.le_of_eq HS0.out.symm) hb)
    have T2:=hid (T1.out.trans (hb.mono T1.out.size))
    clear hb x6 d7 C2
    cases Q with
    | true =>
     have HE2:Hid (R=verT f k (x.tgs.drop (i+1)) (x.tag.drop (i+1))):=HV2.out.trans (if_pos rfl)
     clear HV2
     go_wp2_with fail
     go_roundw
     case rel=>exact ⟨i+1,by omega,by go_num,HE2.out,Z2.out⟩
     case measure=>simp [intOf];omega
    | false =>
     have HE2:Hid (R=101):=HV2.out.trans (if_neg (by decide))
     have cg:=HTW.out _ T2.out
     unfold snt at cg
     clear HV2
     go_wp2_with fail
     (try rw [Exit.noGoto_ret])
     refine bodyPost_ret (v:=iflS T.g _) (by simp [results,Tryz.results92,go_sem,iflS];rfl) rfl (HG.out _ _ T2.out (.inr (.inr ⟨HE2.out,_,rfl⟩)))
   ·
    have t1:(z != 0)=true:=by rw [bne_iff_ne];exact hz
    have HE2:Hid (R=z):=by
     show _=_
     rw [HVA.out]
     rw [if_pos hz]
    have HZ:=hid hz
    clear hb hr1 hc1 C1 HVA k0 k1 k2 x5
    go_wp2_with fail
    (try rw [Exit.noGoto_ret])
    refine bodyPost_ret (v:=iflC z _) (by simp [results,Tryz.results92,go_sem,iflC];rfl) rfl (HG.out _ _ T1.out (.inr (.inl ⟨by rw [HE2.out];exact HZ.out,_,by rw [HE2.out]⟩)))
  ·
   obtain rfl:i=n2:=by omega
   have hii:decide ((i:Int)<(i:Int))=false:=decide_eq_false (by omega)
   have HE2:Hid (R=0):=by
    show _=_
    rw [HE.out,show x.tgs.drop i=[] from List.drop_eq_nil_of_le (by rw [LN.out];exact Nat.le_refl _),verT_end]
   have HTT2:=hid TT.out
   clear HE HT TT
   go_wp2_with fail
   refine bodyPost_ret (v:=.nilIface) (by simp [results,Tryz.results92,go_sem]) rfl (HG.out _ _ HTT2.out (.inl ⟨HE2.out,rfl⟩))
def TagE (r:List (List UInt8)×Int) (w:World) (e:Ending) (w':World):Prop:=Below w.heap.size w w' ∧
 ((r.2=0∧∃ (A:Option Addr) (n c:Nat),e=.returned (.tuple #[.slice A n c,.nilIface])∧n≤c∧RdT w' w'.heap.size A n r.1)∨(r.2≠0∧∃ s,e=.returned (.tuple #[.slice none 0 0,iflC r.2 s])))
theorem itags_any (S:Snt) (h:BH) (l:List Blk) (A:Option Addr) (n c B:Nat) (tgs:List Nat) (At:Option Addr) (nt ct num:Nat) (sc:Int) (Ak:Option Addr) (nk ck:Nat) (k:List UInt8) (w:World) (hS:Wd S w) (hBd:h.Bd) (hr:RdL w B A n l) (hB:B≤w.heap.size) (hc:n≤c)
  (hN:RdN w B At nt tgs) (h15:nt≤15) (hnum:num<18446744073709551616) (hk:Rd w B Ak nk k) (hkc:nk≤ck∧ck≤9223372036854775807∧nk≤274877906944) (hdat:∀ x∈l,x.dat.length≤5000) :
  Calls Tryz.prog 42 #[bunV h A n c,.slice At nt ct,.int .u64 (num:Int),.int .i64 sc,.slice Ak nk ck] w (TagE (tagsT (fun t=>iplU (h.bun l) t sc 11 num 0) k tgs) w):=by
 have HB0:=hid ((Below.refl w.heap.size w).alloc (Nat.le_refl _) (.cells #[.int .u64 (h.flg:Int),.int .i64 h.crc,.int .i64 h.dsc,.string h.dnm,.int .u64 (h.dn:Int),.int .u64 (h.dv:Int),.int .i64 h.ssc,.string h.snm,.int .u64 (h.sn:Int),.int .u64 (h.sv:Int),.int .i64 h.rsc,.string h.rnm,.int .u64 (h.rn:Int),.int .u64 (h.rv:Int),.int .u64 (h.tim:Int),.int .u64 (h.seq:Int),.int .u64 (h.lif:Int),.slice A n c] 28))
 have HW0:Hid (Below (w.heap.size+1) (w.alloc (.cells #[.int .u64 (h.flg:Int),.int .i64 h.crc,.int .i64 h.dsc,.string h.dnm,.int .u64 (h.dn:Int),.int .u64 (h.dv:Int),.int .i64 h.ssc,.string h.snm,.int .u64 (h.sn:Int),.int .u64 (h.sv:Int),.int .i64 h.rsc,.string h.rnm,.int .u64 (h.rn:Int),.int .u64 (h.rv:Int),.int .u64 (h.tim:Int),.int .u64 (h.seq:Int),.int .u64 (h.lif:Int),.slice A n c] 28)) (w.alloc (.cells #[.int .u64 (h.flg:Int),.int .i64 h.crc,.int .i64 h.dsc,.string h.dnm,.int .u64 (h.dn:Int),.int .u64 (h.dv:Int),.int .i64 h.ssc,.string h.snm,.int .u64 (h.sn:Int),.int .u64 (h.sv:Int),.int .i64 h.rsc,.string h.rnm,.int .u64 (h.rn:Int),.int .u64 (h.rv:Int),.int .u64 (h.tim:Int),.int .u64 (h.seq:Int),.int .u64 (h.lif:Int),.slice A n c] 28))):=Below.refl _ _
 have HS0:Hid ((w.alloc (.cells #[.int .u64 (h.flg:Int),.int .i64 h.crc,.int .i64 h.dsc,.string h.dnm,.int .u64 (h.dn:Int),.int .u64 (h.dv:Int),.int .i64 h.ssc,.string h.snm,.int .u64 (h.sn:Int),.int .u64 (h.sv:Int),.int .i64 h.rsc,.string h.rnm,.int .u64 (h.rn:Int),.int .u64 (h.rv:Int),.int .u64 (h.tim:Int),.int .u64 (h.seq:Int),.int .u64 (h.lif:Int),.slice A n c] 28)).heap.size=w.heap.size+1):=by show _=_;simp
 have HRW:=hid (fun (W:World) (hb:Below (w.heap.size+1) (w.alloc (.cells #[.int .u64 (h.flg:Int),.int .i64 h.crc,.int .i64 h.dsc,.string h.dnm,.int .u64 (h.dn:Int),.int .u64 (h.dv:Int),.int .i64 h.ssc,.string h.snm,.int .u64 (h.sn:Int),.int .u64 (h.sv:Int),.int .i64 h.rsc,.string h.rnm,.int .u64 (h.rn:Int),.int .u64 (h.rv:Int),.int .u64 (h.tim:Int),.int .u64 (h.seq:Int),.int .u64 (h.lif:Int),.slice A n c] 28)) W)=>row_of_box (w:=w) rfl hb)
 have CP:=hid (fun (q:Nat) (W:World) (hb:Below w.heap.size w W)=>ipplain_any S h l A n c B q sc 11 num 0 W (hS.below hb (Nat.le_refl _)) hBd (hr.below (hb.mono hB)) (Nat.le_trans hB hb.size) hc ⟨by decide,hnum,by decide⟩ hdat)
 have CL:=hid (fun (q:Nat)=>iplU_len6 (h.bun l) q sc 11 num 0 hdat)
 have HKR:=hid (fun (W:World) (hb:Below w.heap.size w W)=>(hk.below (hb.mono hB)).more (Nat.le_trans hB hb.size))
 have HKC:=hid hkc
 have HN:=hid hN
 have HBB:=hid hB
 have LN:=hid hN.1
 obtain ⟨f,hf⟩:∃ f:Nat→List UInt8×Int,f=fun t=>iplU (h.bun l) t sc 11 num 0:=⟨_,rfl⟩
 have CP2:=hid (fun (q:Nat) (W:World) (hb:Below w.heap.size w W)=>(show Calls Tryz.prog 83 #[bunV h A n c,.int .u64 (q:Int),.int .i64 sc,.int .u64 11,.int .u64 (num:Int),.int .u64 0] W (GivesP (f q) W) from by rw [hf];exact CP.out q W hb))
 have CL2:Hid (∀ q,(f q).1.length≤6000):=fun q=>by rw [hf];exact CL.out q
 rw [← hf]
 obtain ⟨R,hR⟩:∃ R,R=tagsT f k tgs:=⟨_,rfl⟩
 rw [← hR]
 have HR0:Hid (R=prepT [] (tagsT f k (tgs.drop 0))):=by show _=_;rw [prepT_nil,List.drop_zero];exact hR
 have HG:Hid (∀ (e:Ending) (w':World),Below w.heap.size w w'→((R.2=0∧∃ (A:Option Addr) (n c:Nat),e=.returned (.tuple #[.slice A n c,.nilIface])∧n≤c∧RdT w' w'.heap.size A n R.1)∨(R.2≠0∧∃ s,e=.returned (.tuple #[.slice none 0 0,iflC R.2 s])))→TagE R w e w'):=fun _ _ h1 h2=>⟨h1,h2⟩
 obtain ⟨i0,hi0,hz0,hz1,hz2⟩:=info_parts info_bsn
 have HI:=hid hi0
 have HI0:=hid hz0
 have HI1:=hid hz1
 have HI2:=hid hz2
 clear CP CL hS hBd hr hB hc hN hnum hk hkc hdat hf hR hi0 hz0 hz1 hz2
 unfold bunV at *
 go_enter Tryz.func42,Tryz.ntmps42
 go_wp2_with fail
 go_step3
 go_wp2_with fail
 go_step3
 go_wp2_with fail
 go_loopw [12,19] (fun s12 s19 wl=>∃ (i:Nat) (gs:List (List UInt8)),i≤nt∧s19=.int .i64 (i:Int)∧Hid (OwT 29 (w.heap.size+1) wl s12 gs∧gs.length=i)∧Hid (R=prepT gs (tagsT f k (tgs.drop i)))∧Hid (Below (w.heap.size+1) (w.alloc (.cells #[.int .u64 (h.flg:Int),.int .i64 h.crc,.int .i64 h.dsc,.string h.dnm,.int .u64 (h.dn:Int),.int .u64 (h.dv:Int),.int .i64 h.ssc,.string h.snm,.int .u64 (h.sn:Int),.int .u64 (h.sv:Int),.int .i64 h.rsc,.string h.rnm,.int .u64 (h.rn:Int),.int .u64 (h.rv:Int),.int .u64 (h.tim:Int),.int .u64 (h.seq:Int),.int .u64 (h.lif:Int),.slice A n c] 28)) wl)) (fun _ s19 _=>nt - (intOf s19).toNat)
 case atStart=>exact ⟨0,[],Nat.zero_le _,rfl,⟨OwT.nil_,rfl⟩,HR0.out,HW0.out⟩
 case round =>
  obtain ⟨i,gs,hi,rfl,HO,HE,HT⟩:=hrel
  have TT:Hid (Below w.heap.size w wr):=HB0.out.trans (HT.out.mono (Nat.le_succ _))
  have HSZ:Hid (w.heap.size+1≤wr.heap.size):=by show _≤_;have:=HT.out.size;have:=HS0.out;omega
  by_cases hlt:i<nt
  ·
   obtain ⟨b,o,rfl,hb,hcell⟩:=HN.out.get i hlt
   have hil:i<tgs.length:=by rw [LN.out];exact hlt
   have hget:tgs.getD i 0=tgs[i]:=by simp [List.getD,hil]
   rw [hget] at hcell
   have g0:=(TT.out.cell (p:=⟨b,o+i,none⟩) (Nat.lt_of_lt_of_le hb HBB.out)).trans hcell
   have hdr:tgs.drop i=tgs[i]::tgs.drop (i+1):=List.drop_eq_getElem_cons hil
   obtain ⟨y,hy⟩:∃ y,y=tgs[i]:=⟨_,rfl⟩
   rw [← hy] at g0 hdr
   have hi1:(i:Int)<(nt:Int):=by omega
   have hii:decide ((i:Int)<(nt:Int))=true:=decide_eq_true (by omega)
   have h15i:((i:Int)==15)=false:=by rw [beq_eq_false_iff_ne];omega
   have HDR:=hid hdr
   have R0:=hid (HRW.out _ HT.out)
   have C1:=hid (CP2.out y wr TT.out)
   have L1:=CL2.out y
   have hfy:∃ p z,f y=(p,z):=⟨(f y).1,(f y).2,rfl⟩
   obtain ⟨p,z,hpz⟩:=hfy
   have HPZ:=hid hpz
   rw [hpz] at C1 L1
   have HL1:=hid L1
   clear hb hcell hget hy hdr hil hpz L1
   go_wp2_with (first
    | (refine wpList_ld18 rfl (.tmp 5) rfl _ rfl _ _ R0.out rfl ?_)
    | fail)
   refine C1.out.mono ?_
   rintro e w1 ⟨hb,A1,n1,c1,rfl,hc1,hr1⟩
   have D1:=hid hb
   have T1:=hid (TT.out.trans (hb.mono TT.out.size))
   by_cases hz:z=0
   ·
    have t1:(z != 0)=false:=by rw [hz];rfl
    have hn1:n1≤274877906944:=by have:=HL1.out;have:=hr1.1;simp only at *;omega
    have C2:=hid (tag1_any Ak A1 nk ck n1 c1 k p w1 (HKR.out _ T1.out) HKC.out.1 HKC.out.2.1 HKC.out.2.2 hr1 hc1.1 hc1.2 hn1)
    have HE2:Hid (R=prepT (gs++[tagL k p]) (tagsT f k (tgs.drop (i+1)))):=by
     show _=_
     rw [HE.out,HDR.out,prepT_step f k gs y _ (by rw [HPZ.out];exact hz),HPZ.out]
    obtain ⟨TG,hTG⟩:∃ TG,TG=tagL k p:=⟨_,rfl⟩
    have HTL:Hid (TG.length=32):=by show _=_;rw [hTG];exact tagL_length k p
    rw [← hTG] at C2 HE2
    clear hb hr1 hc1 hTG HE hn1 C1
    go_wp2_with fail
    refine C2.out.mono ?_
    rintro e w2 ⟨v2,rfl,hob,hb⟩
    have D2:=hid ((D1.out.alloc D1.out.size _).trans (hb.mono (Nat.le_trans D1.out.size (le_alloc _ _))))
    have hlo:wr.heap.size≤(w1.alloc (.cells #[.slice A1 n1 c1] 29)).heap.size:=Nat.le_trans D1.out.size (le_alloc _ _)
    obtain ⟨A2,c2,rfl,hc2,hr2⟩:=Ob.rdM hob hlo HTL.out
    have DW:Hid (Below wr.heap.size wr (w2.alloc (.cells #[.slice A2 32 c2] 29))):=D2.out.alloc D2.out.size _
    have XR:Hid (Rd (mask (lows wr.heap.size) (w2.alloc (.cells #[.slice A2 32 c2] 29))) (w2.alloc (.cells #[.slice A2 32 c2] 29)).heap.size A2 32 TG):=hr2.mask_go (le_alloc _ _) (fun j hj _=>Below.heap_alloc _ _ _ hj) (fun _ _ h=>h)
    obtain ⟨ps,hown,hps⟩:=HO.out.1
    have hgl:=HO.out.2
    have hown2:=hown
    rw [hgl] at hown
    have OWN0:=hid hown
    have OWN1:=hid hown2
    have HPS:=hid hps
    have HGL:=hid hgl
    have OWN:=hid (own_go OWN0.out DW.out)
    have ROW:Hid (∀ q u,([.slice A2 32 c2]:List Value)[q]?=some u→(w2.alloc (.cells #[.slice A2 32 c2] 29)).cell? ((⟨w2.heap.size,0,none⟩:Addr).add q)=some u):=fun q u hq=>by
     match q,hq with
     | 0,hq =>
      cases hq
      rw [show (⟨w2.heap.size,0,none⟩:Addr).add 0=⟨w2.heap.size,0,none⟩ by unfold Addr.add;simp,World.cell?_alloc_at _ _ _ _ rfl]
      rfl
     | q+1,hq=>simp at hq
    have BSZ:Hid (w.heap.size+1≤(w2.alloc (.cells #[.slice A2 32 c2] 29)).heap.size):=Nat.le_trans HSZ.out DW.out.size
    clear hb hob hr2 hown hown2 hps hgl HO C2 D2 hc2 hlo
    go_wp2_with (first
     | (at_builtin;refine wpList_append_lies _ rfl (.tmp 42) (.tmp 47) 37 rfl (w.heap.size+1) 29 i0 _ 1 24 Tryz.underlying37 HI.out HI0.out HI1.out HI2.out rfl (by decide) u12 i _ rfl OWN.out ⟨_,0,none⟩ 1 1 [.slice A2 32 c2] rfl rfl ROW.out (by intro u hu;simp at hu;subst hu;rfl) (by decide) (by unfold maxLen;omega) (by omega) BSZ.out _ rfl ?_;intro g2 cap2 w3 ho3 hg3 hat hlt3;have O3:=hid ho3;have G3:=hid hg3;have AT:=hid hat;clear ho3 hg3 hat hlt3)
     | fail)
    have PUSH:=hid (OwT.push (base:=w.heap.size+1) OWN1.out HPS.out XR.out DW.out (by rw [HGL.out]) O3.out G3.out (hat_or rfl AT.out) HSZ.out)
    have BEL:=hid (HT.out.trans (igrown OWN0.out DW.out G3.out HSZ.out))
    clear OWN0 OWN1 OWN O3 G3 AT XR ROW DW HPS
    go_roundw
    case rel=>exact ⟨i+1,gs++[TG],by omega,by go_num,⟨PUSH.out,by rw [List.length_append,HGL.out];rfl⟩,HE2.out,BEL.out⟩
    case measure=>simp [intOf];omega
   ·
    have t1:(z != 0)=true:=by rw [bne_iff_ne];exact hz
    have HE2:Hid (R=([],z)):=by
     show _=_
     rw [HE.out,HDR.out,prepT_fail f k gs y _ (by rw [HPZ.out];exact hz),HPZ.out]
    have HZ:=hid hz
    clear hb hr1 hc1 HE HO C1
    go_wp2_with fail
    (try rw [Exit.noGoto_ret])
    refine bodyPost_ret (v:=.tuple #[.slice none 0 0,iflC z _]) (by simp [results,Tryz.results42,go_sem,iflC];rfl) rfl (HG.out _ _ T1.out (.inr ⟨by rw [HE2.out];exact HZ.out,_,by rw [HE2.out]⟩))
  ·
   obtain rfl:i=nt:=by omega
   have hii:decide ((i:Int)<(i:Int))=false:=decide_eq_false (by omega)
   have HE2:Hid (R=(gs,0)):=by
    show _=_
    rw [HE.out,List.drop_eq_nil_of_le (by rw [LN.out];exact Nat.le_refl _),prepT_end]
   obtain ⟨Ag,cg,rfl,hcg,hrg⟩:=HO.out.1.read HO.out.2
   have HRG:=hid (And.intro hcg hrg)
   have HTT:=hid TT.out
   clear hcg hrg HO HE HT TT
   go_wp2_with fail
   refine bodyPost_ret (v:=.tuple #[.slice Ag i cg,.nilIface]) (by simp [results,Tryz.results42,go_sem]) rfl (HG.out _ _ HTT.out (.inl ⟨by rw [HE2.out],Ag,i,cg,rfl,HRG.out.1,by rw [HE2.out];exact HRG.out.2⟩))
end Go.Proofs.YteckeagobafoiaaGreatDoor
