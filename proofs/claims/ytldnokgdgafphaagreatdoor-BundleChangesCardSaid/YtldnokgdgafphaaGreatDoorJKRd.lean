/- What Encode of layer 3's reference returns. -/
import Derived.Test.YtldnokgdgafphaaGreatDoorJCborS
import Derived.Test.YtldnokgdgafphaaGreatDoorJCborU
import Derived.Test.YtldnokgdgafphaaGreatDoorJCrcS
import Derived.Test.YtldnokgdgafphaaGreatDoorJKCheck
import Derived.Test.YtldnokgdgafphaaGreatDoorJKHead
import Derived.Test.YtldnokgdgafphaaGreatDoorJKWrite
import Derived.Test.YtldnokgdgafphaaGreatDoorJMask
import Derived.Deep.RegionHeld3
import Derived.Laws.IdiomStrings
import Derived.Deep.AppendLies
import Derived.Test.YtldnokgdgafphaaGreatDoorRows
namespace Go.Proofs.YtldnokgdgafphaaGreatDoor
open Go.RowKit
theorem box_cells {w w':World} {c0 c1 c2 c3:Value} {t:TypeId} (h:Below (w.heap.size+1) (w.alloc (.cells #[c0,c1,c2,c3] t)) w') :
    w'.cell? ⟨w.heap.size,0,none⟩=some c0∧w'.cell? ⟨w.heap.size,1,none⟩=some c1∧w'.cell? ⟨w.heap.size,2,none⟩=some c2∧w'.cell? ⟨w.heap.size,3,none⟩=some c3 :=
  ⟨(h.cell (p:=⟨w.heap.size,0,none⟩) (Nat.lt_succ_self _)).trans (by simp),(h.cell (p:=⟨w.heap.size,1,none⟩) (Nat.lt_succ_self _)).trans (by simp),(h.cell (p:=⟨w.heap.size,2,none⟩) (Nat.lt_succ_self _)).trans (by simp),(h.cell (p:=⟨w.heap.size,3,none⟩) (Nat.lt_succ_self _)).trans (by simp)⟩
theorem to_box {w w':World} {o:Obj} (h:Below (w.alloc o).heap.size (w.alloc o) w'):Below (w.heap.size+1) (w.alloc o) w':=h.mono (by simp)
end Go.Proofs.YtldnokgdgafphaaGreatDoor
/- Items as calls make them: Uint, Text, Bytes of layer 3's reference; and Same, of two equal ones. -/
namespace Go.Proofs.YtldnokgdgafphaaGreatDoor
open Go.RowKit
theorem Below.drew_ {B:Nat} {w:World}:Below B w w.drew:=(Below.refl B w).drew
def GivesI (x:Itm) (w:World) (e:Ending) (w':World):Prop:=∃ v,e=.returned v∧RdI w' w'.heap.size v x∧Below w.heap.size w w'
theorem RdI.mk_uint {w:World} {B n:Nat} (hn:n<18446744073709551616):RdI w B (.agg #[.int .i64 0,.int .u64 (n:Int),.slice none 0 0,.slice none 0 0]) (.mk 0 n [] []):=by
  rw [RdI]
  exact ⟨none,0,0,none,0,0,rfl,by decide,hn,⟨Nat.le_refl _,by decide⟩,Rd.nil_,⟨Nat.le_refl _,by decide⟩,rfl,fun h=>absurd h (Nat.lt_irrefl _)⟩
theorem RdI.mk_data {w:World} {B nd cd:Nat} {A:Option Addr} {d:List UInt8} {k:Int} (hk:(Lit.int .i64 k).wf=true) (hc:nd≤cd) (hc2:nd≤140737488355328) (h:Rd w B A nd d):RdI w B (.agg #[.int .i64 k,.int .u64 0,.slice A nd cd,.slice none 0 0]) (.mk k 0 d []):=by
  rw [RdI]
  exact ⟨A,nd,cd,none,0,0,rfl,hk,by decide,⟨hc,hc2⟩,h,⟨Nat.le_refl _,by decide⟩,rfl,fun h=>absurd h (Nat.lt_irrefl _)⟩
end Go.Proofs.YtldnokgdgafphaaGreatDoor
/- '[]byte(s)' of a string that is no constant: a new slice that reads as its bytes. -/
namespace Go.Proofs.YtldnokgdgafphaaGreatDoor
open Go.RowKit
theorem conv_bytes (W:World) (s:ByteArray):∃ (c:Nat) (W':World),(convert 9 31 (.string s)).run Tryz.prog W=.ok (.slice (some ⟨W.heap.size,0,none⟩) s.size c) W' ∧
    Rd W' (W.heap.size+1) (some ⟨W.heap.size,0,none⟩) s.size s.data.toList∧s.size≤c∧Below W.heap.size W W'∧W'.heap.size=W.heap.size+1:=by
  refine ⟨_,_,run_bytes_of_string W _ _ 5 s Tryz.underlying9 Tryz.underlying31 Tryz.underlying5,⟨by simp,fun _=>⟨_,0,rfl,Nat.lt_succ_self _,fun i hi=>?_⟩⟩,?_,?_,?_⟩
  · rw [Nat.zero_add]
    have h:=World.cell?_alloc_mark W.drew (bytesRow s (grownCap W s.size 0 5)) 5 ((bytesRow s (grownCap W s.size 0 5)).size,(bytesRow s (grownCap W s.size 0 5)).size+1) i
    refine Eq.trans h ?_
    have hi':i<s.data.size:=hi
    unfold bytesRow
    rw [Array.getElem?_append_left (by simpa using hi')]
    simp only [Array.getElem?_map,Array.getElem?_eq_getElem hi',Option.map_some,List.getD,Array.getElem?_toList,Option.getD_some]
  · exact grownCap_ge W s.size 0 _
  · exact ((Below.refl W.heap.size W).drew).alloc (Nat.le_refl _) _
  · simp
end Go.Proofs.YtldnokgdgafphaaGreatDoor
/- Items as calls make them: Text and Bytes of layer 3's reference. -/
namespace Go.Proofs.YtldnokgdgafphaaGreatDoor
open Go.RowKit
theorem zero_cells {w W':World} (h:Below (w.heap.size+1) (w.alloc (.cells #[.int .i64 0,.int .u64 0,.slice none 0 0,.slice none 0 0] 88)) W') :
    (W'.cell? ⟨w.heap.size,0,none⟩=some (.int .i64 0)∧W'.cell? ⟨w.heap.size,1,none⟩=some (.int .u64 0)∧W'.cell? ⟨w.heap.size,2,none⟩=some (.slice none 0 0)∧W'.cell? ⟨w.heap.size,3,none⟩=some (.slice none 0 0)) ∧
    (W'.frozen? ⟨w.heap.size,0,none⟩=false∧W'.frozen? ⟨w.heap.size,1,none⟩=false∧W'.frozen? ⟨w.heap.size,2,none⟩=false∧W'.frozen? ⟨w.heap.size,3,none⟩=false) :=
  ⟨box_cells h,(h.frozen (p:=⟨w.heap.size,0,none⟩) (Nat.lt_succ_self _)).trans (by simp),(h.frozen (p:=⟨w.heap.size,1,none⟩) (Nat.lt_succ_self _)).trans (by simp),(h.frozen (p:=⟨w.heap.size,2,none⟩) (Nat.lt_succ_self _)).trans (by simp),(h.frozen (p:=⟨w.heap.size,3,none⟩) (Nat.lt_succ_self _)).trans (by simp)⟩
theorem Rd.set4 {W':World} {B n:Nat} {A:Option Addr} {l:List UInt8} {g:Nat} {u0 u1 u2 u3:Value} (h:Rd W' B A n l) (hA:0<n→∀ b o,A=some ⟨b,o,none⟩→b≠g) :
    Rd ((((W'.setCell ⟨g,0,none⟩ u0).setCell ⟨g,1,none⟩ u1).setCell ⟨g,2,none⟩ u2).setCell ⟨g,3,none⟩ u3) B A n l :=
  ⟨h.1,fun hn=>by
    obtain ⟨b,o,e,hb,hc⟩:=h.2 hn
    have hne:=hA hn b o e
    refine ⟨b,o,e,hb,fun i hi=>?_⟩
    rw [World.cell?_setCell_far _ _ _ _ (fun h=>hne h.symm),World.cell?_setCell_far _ _ _ _ (fun h=>hne h.symm),World.cell?_setCell_far _ _ _ _ (fun h=>hne h.symm),World.cell?_setCell_far _ _ _ _ (fun h=>hne h.symm)]
    exact hc i hi⟩
theorem below_set4 {B g:Nat} {w W':World} {u0 u1 u2 u3:Value} (h:Below B w W') (hg:B≤g):Below B w ((((W'.setCell ⟨g,0,none⟩ u0).setCell ⟨g,1,none⟩ u1).setCell ⟨g,2,none⟩ u2).setCell ⟨g,3,none⟩ u3) :=
  (((h.setCell (p:=⟨g,0,none⟩) hg _).setCell (p:=⟨g,1,none⟩) hg _).setCell (p:=⟨g,2,none⟩) hg _).setCell (p:=⟨g,3,none⟩) hg _
end Go.Proofs.YtldnokgdgafphaaGreatDoor
/- Array of layer 3's reference: items, copied. -/
namespace Go.Proofs.YtldnokgdgafphaaGreatDoor
open Go.RowKit
theorem RdIs.news {w:World} {B b:Nat}:∀ {l:List Itm} {o:Nat},RdIs w B b o l→∃ cs:List Value,cs.length=l.length * 4∧(∀ j u,cs[j]?=some u→w.cell? ⟨b,o+j,none⟩=some u)∧(∀ u∈cs,u.oneCell'=true) ∧
    ∀ (W':World) (B' b' o':Nat),(∀ j u,cs[j]?=some u→W'.cell? ⟨b',o'+j,none⟩=some u)→(∀ p:Addr,p.block<B→W'.cell? p=w.cell? p)→B≤B'→RdIs W' B' b' o' l
  | [],o,_=>⟨[],rfl,fun j u h=>(by simp at h),fun u h=>(by cases h),fun W' B' b' o' _ _ _=>(by rw [RdIs];trivial)⟩
  | x::r,o,h=>by
    rw [RdIs] at h
    obtain ⟨⟨c0,c1,c2,c3,g0,g1,g2,g3,gx⟩,hr⟩:=h
    obtain ⟨cs,h1,h2,h3,h4⟩:=RdIs.news hr
    obtain ⟨k,n,A,nd,cd,AL,nl,cl,e⟩:=gx.form
    have hone:c0.oneCell'=true∧c1.oneCell'=true∧c2.oneCell'=true∧c3.oneCell'=true:=by
      injection e with e
      simp only [Array.mk.injEq,List.cons.injEq,and_true] at e
      obtain ⟨rfl,rfl,rfl,rfl⟩:=e
      exact ⟨rfl,rfl,rfl,rfl⟩
    refine ⟨c0::c1::c2::c3::cs,by simp [h1];omega,?_,?_,?_⟩
    · intro j u hj
      match j with
      | 0=>cases hj;exact g0
      | 1=>cases hj;exact g1
      | 2=>cases hj;exact g2
      | 3=>cases hj;exact g3
      | j+4 =>
        have:=h2 j u (by simpa using hj)
        rw [show o+(j+4)=o+4+j by omega]
        exact this
    · intro u hu
      simp only [List.mem_cons] at hu
      rcases hu with rfl | rfl | rfl | rfl | hu
      · exact hone.1
      · exact hone.2.1
      · exact hone.2.2.1
      · exact hone.2.2.2
      · exact h3 u hu
    · intro W' B' b' o' hc hk hB
      rw [RdIs]
      refine ⟨⟨c0,c1,c2,c3,hc 0 c0 rfl,hc 1 c1 rfl,hc 2 c2 rfl,hc 3 c3 rfl,(gx.keep hk).more hB⟩,h4 W' B' b' (o'+4) (fun j u hj=>?_) hk hB⟩
      have:=hc (j+4) u (by simpa using hj)
      rw [show o'+(j+4)=o'+4+j by omega] at this
      exact this
theorem RdI.mk_list {w:World} {B b o n c:Nat} {l:List Itm} {k:Int} (hk:(Lit.int .i64 k).wf=true) (hc:n≤c) (hn:n≤140737488355328) (hl:l.length=n) (hb:b<B) (h:RdIs w B b o l):RdI w B (.agg #[.int .i64 k,.int .u64 0,.slice none 0 0,.slice (some ⟨b,o,none⟩) n c]) (.mk k 0 [] l):=by
  rw [RdI]
  exact ⟨none,0,0,some ⟨b,o,none⟩,n,c,rfl,hk,by decide,⟨Nat.le_refl _,by decide⟩,Rd.nil_,⟨hc,hn⟩,hl,fun _=>⟨b,o,rfl,hb,h⟩⟩
theorem info_item:(Tryz.prog.info? 88).map (fun i=>(i.zero,i.size,i.bytes))=some (some (.agg #[.int .i64 0,.int .u64 0,.slice none 0 0,.slice none 0 0]),4,64):=by kernel_rfl
end Go.Proofs.YtldnokgdgafphaaGreatDoor
/- The plain mathematics of layer 4: endpoints, their texts and items; two endpoints are two texts, and two items. No program's number stands here. -/
namespace Go.Proofs.YtldnokgdgafphaaGreatDoor
open Go.Lib (decDigits)
structure Epd where
  scheme:Int
  name:List UInt8
  node:Nat
  service:Nat
def letterB (c:UInt8):Bool:=(decide (97≤c.toNat)&&decide (c.toNat≤122))||((decide (48≤c.toNat)&&decide (c.toNat≤57))||(c==46||(c==45||c==95)))
def lsB (c:UInt8):Bool:=c==47||letterB c
def toSlash (s:List UInt8):Nat:=(s.takeWhile fun c=>c != 47).length
def nameB (s:List UInt8):Bool :=
  decide (s.length≤64)&&(match s with
    | a::b::r=>(a==47&&b==47)&&(r.all lsB&&(decide (1≤toSlash r)&&decide (toSlash r<r.length)))
    | _=>false)
def third (s:List UInt8):Nat:=2+toSlash (s.drop 2)
def noneB (e:Epd):Bool:=e.scheme==1&&(e.name.isEmpty&&(e.node==0&&e.service==0))
def checkB (e:Epd):Bool :=
  if e.scheme=1 then (e.node==0&&e.service==0)&&(e.name.isEmpty||nameB e.name)
  else e.scheme==2&&(e.name.isEmpty&&(decide (0<e.node)&&(decide (e.node≤4294967295)&&decide (e.service≤4294967295))))
def dtnL:List UInt8:=[100,116,110,58]
def ipnL:List UInt8:=[105,112,110,58]
def noneL:List UInt8:=[110,111,110,101]
def textE (e:Epd):List UInt8 :=
  if checkB e=false then [] else if e.scheme=2 then ipnL++(decDigits e.node++(46::decDigits e.service)) else if e.name=[] then dtnL++noneL else dtnL++e.name
def itemE (e:Epd):Itm :=
  .mk 4 0 [] [.mk 0 e.scheme.toNat [] [],if e.scheme=2 then .mk 4 0 [] [.mk 0 e.node [] [],.mk 0 e.service [] []] else if e.name=[] then .mk 0 0 [] [] else .mk 3 0 e.name []]
theorem check_dtn {e:Epd} (h:checkB e=true) (h1:e.scheme=1):e.node=0∧e.service=0∧(e.name=[]∨nameB e.name=true):=by
  unfold checkB at h
  rw [if_pos h1] at h
  simp only [Bool.and_eq_true,Bool.or_eq_true,beq_iff_eq,List.isEmpty_iff] at h
  exact ⟨h.1.1,h.1.2,h.2⟩
theorem check_ipn {e:Epd} (h:checkB e=true) (h1:e.scheme≠1):e.scheme=2∧e.name=[]∧0<e.node∧e.node≤4294967295∧e.service≤4294967295:=by
  unfold checkB at h
  rw [if_neg h1] at h
  simp only [Bool.and_eq_true,beq_iff_eq,List.isEmpty_iff,decide_eq_true_eq] at h
  exact ⟨h.1,h.2.1,h.2.2.1,h.2.2.2.1,h.2.2.2.2⟩
theorem name_head {s:List UInt8} (h:nameB s=true):∃ r,s=47::47::r∧r.all lsB=true∧1≤toSlash r∧toSlash r<r.length∧s.length≤64:=by
  unfold nameB at h
  match s,h with
  | [],h=>simp at h
  | [_],h=>simp at h
  | a::b::r,h =>
    simp only [Bool.and_eq_true,beq_iff_eq,decide_eq_true_eq] at h
    obtain ⟨h1,⟨rfl,rfl⟩,h2,h3,h4⟩:=h
    exact ⟨r,rfl,h2,h3,h4,h1⟩
theorem epd_ext {a b:Epd} (h1:a.scheme=b.scheme) (h2:a.name=b.name) (h3:a.node=b.node) (h4:a.service=b.service):a=b:=by
  cases a;cases b;simp_all
theorem textE_ipn {e:Epd} (h:checkB e=true) (h2:e.scheme=2):textE e=ipnL++(decDigits e.node++(46::decDigits e.service)):=by
  unfold textE
  rw [if_neg (by rw [h];decide),if_pos h2]
theorem textE_none {e:Epd} (h:checkB e=true) (h1:e.scheme=1) (hn:e.name=[]):textE e=dtnL++noneL:=by
  unfold textE
  rw [if_neg (by rw [h];decide),if_neg (by omega),if_pos hn]
theorem textE_dtn {e:Epd} (h:checkB e=true) (h1:e.scheme=1) (hn:e.name≠[]):textE e=dtnL++e.name:=by
  unfold textE
  rw [if_neg (by rw [h];decide),if_neg (by omega),if_neg hn]
theorem item_inj {a b:Epd} (ha:checkB a=true) (hb:checkB b=true) (h:itemE a=itemE b):a=b:=by
  unfold itemE at h
  simp only [Itm.mk.injEq,List.cons.injEq,and_true,true_and] at h
  obtain ⟨h1,h2⟩:=h
  by_cases a1:a.scheme=1
  · obtain ⟨an,ac,am⟩:=check_dtn ha a1
    by_cases b1:b.scheme=1
    · obtain ⟨bn,bs,bm⟩:=check_dtn hb b1
      have na:¬ a.scheme=2:=by omega
      have nb:¬ b.scheme=2:=by omega
      rw [if_neg na,if_neg nb] at h2
      refine epd_ext (a1.trans b1.symm) ?_ (an.trans bn.symm) (ac.trans bs.symm)
      by_cases a0:a.name=[]
      · by_cases b0:b.name=[]
        · rw [a0,b0]
        · rw [if_pos a0,if_neg b0] at h2;simp at h2
      · by_cases b0:b.name=[]
        · rw [if_neg a0,if_pos b0] at h2;simp at h2
        · rw [if_neg a0,if_neg b0] at h2;simpa using h2
    · obtain ⟨b2,_⟩:=check_ipn hb b1
      rw [a1,b2] at h1;simp at h1
  · obtain ⟨a2,an,_⟩:=check_ipn ha a1
    by_cases b1:b.scheme=1
    · rw [a2,b1] at h1;simp at h1
    · obtain ⟨b2,bn,_⟩:=check_ipn hb b1
      rw [if_pos a2,if_pos b2] at h2
      simp at h2
      exact epd_ext (a2.trans b2.symm) (an.trans bn.symm) h2.1 h2.2
end Go.Proofs.YtldnokgdgafphaaGreatDoor
/- The plain mathematics of layer 4: names in pieces, nodes' texts. No program's number stands here. -/
namespace Go.Proofs.YtldnokgdgafphaaGreatDoor
open Go.Lib (decDigits)
end Go.Proofs.YtldnokgdgafphaaGreatDoor
/- What Uint, Text and Bytes of layer 3 return; and bytes.Clone. -/
namespace Go.Proofs.YtldnokgdgafphaaGreatDoor
open Go.RowKit
set_option maxRecDepth 100000 in
set_option maxHeartbeats 1000000 in
theorem bclone_any (A:Option Addr) (n c B:Nat) (l:List UInt8) (w:World) (hB:B≤w.heap.size) (h:Rd w B A n l) (hn:n≤140737488355328) :
    Calls Tryz.prog 41 #[.slice A n c] w (GivesO 5 l w):=by
  have hl:=h.1
  rcases A with _ | a
  · have h0:n=0:=by
      rcases Nat.eq_zero_or_pos n with h0 | h0
      · exact h0
      · obtain ⟨_,_,e,_⟩:=h.2 h0
        cases e
    subst h0
    have e:l=[]:=List.eq_nil_of_length_eq_zero hl
    subst e
    have q22:=fun (W:World) (a:Option Addr) (n c:Nat)=>Lib.run_eql_slice_nil (P:=Tryz.prog) W 31 5 a n c 0 0 Tryz.underlying31
    go_enter Tryz.func41,Tryz.ntmps41
    go_wp2_with fail
    go_ret
    exact ⟨_,rfl,Ob.nil_ _ _ _,Below.refl _ _⟩
  · have HR:=Lib.hid (h.alloc hB (.cells #[] 5))
    have HO:=Lib.hid (show Ob (w.alloc (.cells #[] 5)) w.heap.size 5 (.slice (some ⟨w.heap.size,0,none⟩) 0 0) [] from Ob.lit w [] #[] rfl (Nat.le_refl _) 0 rfl (by decide))
    have HN:Hid (([]:List UInt8).length+n≤140737488355328):=by show _≤_;simp;exact hn
    clear h hn hl hB
    have q22:=fun (W:World) (a:Option Addr) (n c:Nat)=>Lib.run_eql_slice_nil (P:=Tryz.prog) W 31 5 a n c 0 0 Tryz.underlying31
    go_enter Tryz.func41,Tryz.ntmps41
    go_wp2_with (first
      | (at_builtin;refine wpList_appB rfl (.tmp 5) (.tmp 6) 31 rfl w.heap.size 5 Tryz.underlying31 info_u8 _ [] rfl HO.out B (some a) n c l rfl HR.out HN.out (by simp) ?_;intro v1 w1 ho1 hb1;have O1:=Lib.hid ho1;have B1:=Lib.hid (((Below.refl w.heap.size w).alloc (Nat.le_refl _) _).trans hb1);clear ho1 hb1)
      | fail)
    go_ret
    exact ⟨_,rfl,by have:=O1.out;rwa [List.nil_append] at this,B1.out⟩
set_option maxRecDepth 100000 in
set_option maxHeartbeats 1000000 in
theorem cuint_any (n:Nat) (w:World) (h:n<18446744073709551616) :
    Calls Tryz.prog 83 #[.int .u64 (n:Int)] w (GivesI (.mk 0 n [] []) w):=by
  go_enter Tryz.func83,Tryz.ntmps83
  go_wp2_with fail
  have hr:=fun W B=>RdI.mk_uint (w:=W) (B:=B) (n:=n) h
  exact bodyPost_ret (v:=.agg #[.int .i64 0,.int .u64 (n:Int),.slice none 0 0,.slice none 0 0]) (by simp [results,Tryz.results83,go_sem]) rfl ⟨_,rfl,hr _ _,(Below.refl _ _).alloc (Nat.le_refl _) _⟩
end Go.Proofs.YtldnokgdgafphaaGreatDoor
/- Text of layer 3. -/
namespace Go.Proofs.YtldnokgdgafphaaGreatDoor
open Go.RowKit
end Go.Proofs.YtldnokgdgafphaaGreatDoor
/- In the place of EidA where the whole of layer 3 lies in the dump (imports alone). -/
/- The reader of layer 3: its state in memory, and what its small calls return. The reader of layer 3: take, and what reads items without a list. -/
namespace Go.Proofs.YtldnokgdgafphaaGreatDoor
open Go.RowKit
structure RSt (w:World) (g:Nat) (A:Option Addr) (n c:Nat) (bs:List UInt8) (i p d:Nat):Prop where
  c0:w.cell? ⟨g,0,none⟩=some (.slice A n c)
  c1:w.cell? ⟨g,1,none⟩=some (.int .i64 (i:Int))
  c2:w.cell? ⟨g,2,none⟩=some (.int .i64 (p:Int))
  c3:w.cell? ⟨g,3,none⟩=some (.int .i64 (d:Int))
  f1:w.frozen? ⟨g,1,none⟩=false
  f2:w.frozen? ⟨g,2,none⟩=false
  f3:w.frozen? ⟨g,3,none⟩=false
  rd:Rd w g A n bs
  hi:i≤n
  hn:n≤140737488355328
  hc:n≤c
section
variable {w w':World} {g n c i p d:Nat} {A:Option Addr} {bs:List UInt8}
theorem RSt.lt (h:RSt w g A n c bs i p d):g<w.heap.size:=World.block_lt_of_cell? w ⟨g,0,none⟩ h.c0
theorem RSt.below {B:Nat} (h:RSt w g A n c bs i p d) (hb:Below B w w') (hg:g<B):RSt w' g A n c bs i p d :=
  ⟨(hb.cell (p:=⟨g,0,none⟩) hg).trans h.c0,(hb.cell (p:=⟨g,1,none⟩) hg).trans h.c1,(hb.cell (p:=⟨g,2,none⟩) hg).trans h.c2,(hb.cell (p:=⟨g,3,none⟩) hg).trans h.c3,
    (hb.frozen (p:=⟨g,1,none⟩) hg).trans h.f1,(hb.frozen (p:=⟨g,2,none⟩) hg).trans h.f2,(hb.frozen (p:=⟨g,3,none⟩) hg).trans h.f3,h.rd.keep fun _ hq=>hb.cell (Nat.lt_trans hq hg),h.hi,h.hn,h.hc⟩
theorem RSt.alloc (h:RSt w g A n c bs i p d) (o:Obj):RSt (w.alloc o) g A n c bs i p d:=h.below ((Below.refl _ _).alloc (Nat.le_refl _) o) h.lt
theorem RSt.drew (h:RSt w g A n c bs i p d):RSt w.drew g A n c bs i p d:=⟨h.c0,h.c1,h.c2,h.c3,h.f1,h.f2,h.f3,h.rd,h.hi,h.hn,h.hc⟩
theorem cell_set_ne {w:World} {g j k:Nat} {v u:Value} (h:j≠k) (hc:w.cell? ⟨g,k,none⟩=some u):(w.setCell ⟨g,j,none⟩ v).cell? ⟨g,k,none⟩=some u:=by
  rw [World.cell?_setCell_other _ _ _ _ (fun e=>by injection e with _ e2;exact h e2)]
  exact hc
theorem Rd.setg {v:Value} {j:Nat} (h:Rd w g A n bs):Rd (w.setCell ⟨g,j,none⟩ v) g A n bs :=
  h.keep fun q hq=>World.cell?_setCell_far _ _ _ _ (by show g≠q.block;omega)
theorem RSt.set1 (h:RSt w g A n c bs i p d) {z:Int} (i':Nat) (hz:z=(i':Int)) (hi:i'≤n):RSt (w.setCell ⟨g,1,none⟩ (.int .i64 z)) g A n c bs i' p d:=by
  subst hz
  exact ⟨cell_set_ne (by decide) h.c0,World.cell?_setCell_same _ _ _ h.c1,cell_set_ne (by decide) h.c2,cell_set_ne (by decide) h.c3,by simpa using h.f1,by simpa using h.f2,by simpa using h.f3,h.rd.setg,hi,h.hn,h.hc⟩
theorem RSt.set2 (h:RSt w g A n c bs i p d) {z:Int} (p':Nat) (hz:z=(p':Int)):RSt (w.setCell ⟨g,2,none⟩ (.int .i64 z)) g A n c bs i p' d:=by
  subst hz
  exact ⟨cell_set_ne (by decide) h.c0,cell_set_ne (by decide) h.c1,World.cell?_setCell_same _ _ _ h.c2,cell_set_ne (by decide) h.c3,by simpa using h.f1,by simpa using h.f2,by simpa using h.f3,h.rd.setg,h.hi,h.hn,h.hc⟩
theorem RSt.set3 (h:RSt w g A n c bs i p d) {z:Int} (d':Nat) (hz:z=(d':Int)):RSt (w.setCell ⟨g,3,none⟩ (.int .i64 z)) g A n c bs i p d':=by
  subst hz
  exact ⟨cell_set_ne (by decide) h.c0,cell_set_ne (by decide) h.c1,cell_set_ne (by decide) h.c2,World.cell?_setCell_same _ _ _ h.c3,by simpa using h.f1,by simpa using h.f2,by simpa using h.f3,h.rd.setg,h.hi,h.hn,h.hc⟩
theorem RSt.byte (h:RSt w g A n c bs i p d) (hl:i<n):∃ (b o:Nat) (x:UInt8),A=some ⟨b,o,none⟩∧w.cell? ⟨b,o+i,none⟩=some (.int .u8 (x.toNat:Int))∧bs.drop i=x::bs.drop (i+1)∧b<g:=by
  obtain ⟨b,o,e,hb,hc⟩:=h.rd.2 (by omega)
  have hlen:=h.rd.1
  refine ⟨b,o,bs.getD i 0,e,hc i hl,?_,hb⟩
  rw [List.drop_eq_getElem_cons (by omega)]
  simp [List.getD,show i<bs.length by omega]
end
theorem below_drewN (B:Nat) (w:World) (k:Nat):Below B w (w.drewN k):=⟨rfl,rfl,rfl,Nat.le_refl _,fun _ _=>rfl⟩
set_option maxRecDepth 100000 in
set_option maxHeartbeats 1000000 in
theorem left_q {w:World} {g n c i p d:Nat} {A:Option Addr} {bs:List UInt8} (h:RSt w g A n c bs i p d) :
    Calls Tryz.prog 153 #[.pointer (some ⟨g,0,none⟩)] w fun e w'=>e=.returned (.int .u64 ((n - i:Nat):Int))∧∃ m,w'=w.drewN m:=by
  have g0:=h.c0
  have g1:=h.c1
  have hi:=h.hi
  have hn:=h.hn
  clear h
  have e:(n:Int) - (i:Int)=((n - i:Nat):Int):=by omega
  go_enter Tryz.func153,Tryz.ntmps153
  go_wp2_with fail
  go_quiet (fail)
  go_wp2_with fail
  go_ret
  exact ⟨rfl,nq,rfl⟩
theorem left_any {w:World} {g n c i p d:Nat} {A:Option Addr} {bs:List UInt8} (h:RSt w g A n c bs i p d) :
    Calls Tryz.prog 153 #[.pointer (some ⟨g,0,none⟩)] w fun e w'=>e=.returned (.int .u64 ((n - i:Nat):Int))∧Below w.heap.size w w' :=
  (left_q h).mono fun _ _ ⟨h1,_,h2⟩=>⟨h1,h2▸below_drewN _ _ _⟩
theorem RSt.drewN {w:World} {g n c i p d:Nat} {A:Option Addr} {bs:List UInt8} (h:RSt w g A n c bs i p d) (k:Nat):RSt (w.drewN k) g A n c bs i p d:=h.below (below_drewN _ _ _) h.lt
theorem and31 (X:Nat) (hx:X<256):bits BinOp.and IntKind.u8 (X:Int) 31=((X % 32:Nat):Int):=by
  have h:=u8_and_nat X 31 hx (by decide)
  rw [show X &&& 31=X % 32 from Nat.and_two_pow_sub_one_eq_mod X 5] at h
  exact h
set_option maxRecDepth 100000 in
set_option maxHeartbeats 1000000 in
theorem begins_any (x:UInt8) (w:World) :
    Calls Tryz.prog 138 #[.int .u8 (x.toNat:Int)] w fun e w'=>e=.returned (.bool (arrB x))∧w=w':=by
  have hx:=x.toNat_lt
  have ha:arrB x=decide (x.toNat=159∨(x.toNat / 32=4∧x.toNat % 32≤27)):=by
    unfold arrB
    have e:(x==159)=decide (x.toNat=159):=by
      by_cases h:x=159
      · subst h;rfl
      · have:x.toNat≠159:=fun e=>h (UInt8.toNat_inj.1 e)
        simp [h,this]
    rw [e]
    have e2:(x.toNat / 32==4)=decide (x.toNat / 32=4):=by by_cases h:x.toNat / 32=4 <;> simp [h]
    rw [e2]
    simp [Bool.decide_or,Bool.decide_and]
  obtain ⟨R,hR⟩:∃ q,q=arrB x:=⟨_,rfl⟩
  rw [← hR]
  rw [ha] at hR
  generalize x.toNat=X at *
  have HR:=Lib.hid hR
  clear ha hR
  have hb:=and31 X hx
  by_cases hk:X / 32=4
  · have hk2:((X:Int) / 32 != 4)=false:=by simp;omega
    by_cases hl:X % 32≤27
    · have hl2:(X:Int) % 32≤27:=by omega
      go_enter Tryz.func138,Tryz.ntmps138
      go_wp2_with fail
      go_ret
      exact ⟨by show Ending.returned (.bool true)=_;rw [HR.out];simp;omega,rfl⟩
    · have hl2:27<(X:Int) % 32:=by omega
      go_enter Tryz.func138,Tryz.ntmps138
      go_wp2_with fail
      go_ret
      refine ⟨?_,rfl⟩
      show Ending.returned (.bool ((X:Int)==159))=_
      rw [HR.out]
      by_cases h9:X=159
      · subst h9;rfl
      · rw [beq_eq_false_iff_ne.2 (by omega),decide_eq_false (by omega)]
  · have hk2:((X:Int) / 32 != 4)=true:=by simp;omega
    go_enter Tryz.func138,Tryz.ntmps138
    go_wp2_with fail
    go_ret
    exact ⟨by show Ending.returned (.bool false)=_;rw [HR.out];simp;omega,rfl⟩
def behV (x:UInt8) (g:Nat):Value :=
  if 27<x.toNat % 32 then .nilFunc else if x.toNat / 32=0 then .func (.func 154) #[.pointer (some ⟨g,0,none⟩)] #[] else if x.toNat / 32=2 then .func (.func 155) #[.pointer (some ⟨g,0,none⟩)] #[]
  else if x.toNat / 32=3 then .func (.func 156) #[.pointer (some ⟨g,0,none⟩)] #[] else if x.toNat / 32=4 then .func (.func 157) #[.pointer (some ⟨g,0,none⟩)] #[] else .nilFunc
set_option maxRecDepth 100000 in
set_option maxHeartbeats 1000000 in
theorem behind_any (x:UInt8) (g:Nat) (w:World) :
    Calls Tryz.prog 140 #[.pointer (some ⟨g,0,none⟩),.int .u8 (x.toNat:Int)] w fun e w'=>e=.returned (behV x g)∧w=w':=by
  have hx:=x.toNat_lt
  unfold behV
  generalize x.toNat=X at *
  have hb:=and31 X hx
  have hmf:∀ (fn:Fn) (first cap:Array Value) (w:World),(Instr.makeFunc fn first cap).run Tryz.prog w=.ok (.func fn first cap) w:=fun _ _ _ _=>rfl
  by_cases hl:27<X % 32
  · rw [if_pos hl]
    go_enter Tryz.func140,Tryz.ntmps140
    go_wp2_with fail
    go_ret
    exact ⟨rfl,rfl⟩
  rw [if_neg hl]
  by_cases h0:X / 32=0
  · rw [if_pos h0]
    have k0:((X:Int) / 32==0)=true:=by simp;omega
    go_enter Tryz.func140,Tryz.ntmps140
    go_wp2_with fail
    go_ret
    exact ⟨rfl,rfl⟩
  rw [if_neg h0]
  have k0:((X:Int) / 32==0)=false:=by simp;omega
  by_cases h2:X / 32=2
  · rw [if_pos h2]
    have k2:((X:Int) / 32==2)=true:=by simp;omega
    go_enter Tryz.func140,Tryz.ntmps140
    go_wp2_with fail
    go_ret
    exact ⟨rfl,rfl⟩
  rw [if_neg h2]
  have k2:((X:Int) / 32==2)=false:=by simp;omega
  by_cases h3:X / 32=3
  · rw [if_pos h3]
    have k3:((X:Int) / 32==3)=true:=by simp;omega
    go_enter Tryz.func140,Tryz.ntmps140
    go_wp2_with fail
    go_ret
    exact ⟨rfl,rfl⟩
  rw [if_neg h3]
  have k3:((X:Int) / 32==3)=false:=by simp;omega
  by_cases h4:X / 32=4
  · rw [if_pos h4]
    have k4:((X:Int) / 32==4)=true:=by simp;omega
    go_enter Tryz.func140,Tryz.ntmps140
    go_wp2_with fail
    go_ret
    exact ⟨rfl,rfl⟩
  rw [if_neg h4]
  have k4:((X:Int) / 32==4)=false:=by simp;omega
  go_enter Tryz.func140,Tryz.ntmps140
  go_wp2_with fail
  go_ret
  exact ⟨rfl,rfl⟩
theorem cut_3 {w:World} {B n i e:Nat} {A:Option Addr} {l:List UInt8} (c:Nat) (h:Rd w B A n l) (hi:i≤e) (he:e≤n) (hc:n≤c) (_hn:n≤140737488355328) :
    ∃ A',(∀ W:World,(Instr.slice 31 (.slice A n c) (some (.int .i64 (i:Int))) (some (.int .i64 (e:Int))) (some (.int .i64 (e:Int)))).run Tryz.prog W=.ok (.slice A' (e - i) (e - i)) W)∧Rd w B A' (e - i) ((l.drop i).take (e - i)):=by
  have hz:=size_u8
  have ht:=Tryz.underlying31
  have hl:=h.1
  by_cases hck:e=i
  · subst hck
    refine ⟨A,fun W=>?_,?_⟩
    · go_simp
      intro hh
      omega
    · rw [Nat.sub_self,List.take_zero];exact Rd.nil_
  · refine ⟨A.map (·.add i),fun W=>?_,h.cut.take (by omega)⟩
    go_simp
    intro hh
    omega
def noItem:Value:=.agg #[.int .i64 0,.int .u64 0,.slice none 0 0,.slice none 0 0]
def flt (z:Int):Value:=.iface 157 (.agg #[.int .i64 z])
def GivesR (g:Nat) (A:Option Addr) (n c:Nat) (bs:List UInt8) (d:Nat) (r:Except Int (Itm×Nat×List UInt8)) (w:World) (e:Ending) (w':World):Prop :=
  match r with
  | .error z=>e=.returned (.tuple #[noItem,flt z])∧Only g w w'
  | .ok (x,p',l')=>∃ v i',e=.returned (.tuple #[v,.nilIface])∧RdI (mask (lows w.heap.size) w') w'.heap.size v x∧RSt w' g A n c bs i' p' d∧bs.drop i'=l'∧Only g w w'
section
variable {w:World} {g n c i p d:Nat} {A:Option Addr} {bs:List UInt8}
set_option maxRecDepth 100000 in
set_option maxHeartbeats 1000000 in
theorem take_short (h:RSt w g A n c bs i p d) (k:Nat) (hk:n - i<k) :
    Calls Tryz.prog 158 #[.pointer (some ⟨g,0,none⟩),.int .u64 (k:Int)] w fun e w'=>e=.returned (.tuple #[.slice none 0 0,flt 30])∧Below w.heap.size w w':=by
  have C1:=Lib.hid (left_any h)
  clear h
  go_enter Tryz.func158,Tryz.ntmps158
  go_wp2_with fail
  refine C1.out.mono ?_
  rintro e w1 ⟨rfl,hb⟩
  have HB:=Lib.hid hb
  clear hb
  generalize n - i=m at *
  go_wp2_with fail
  go_ret2
  exact ⟨rfl,HB.out⟩
set_option maxRecDepth 100000 in
set_option maxHeartbeats 1000000 in
theorem take_ok (h:RSt w g A n c bs i p d) (k:Nat) (hk:k≤n - i) :
    Calls Tryz.prog 158 #[.pointer (some ⟨g,0,none⟩),.int .u64 (k:Int)] w fun e w'=>∃ A',e=.returned (.tuple #[.slice A' k k,.nilIface])∧Rd w' g A' k ((bs.drop i).take k)∧RSt w' g A n c bs (i+k) p d∧Only g w w':=by
  have C1:=Lib.hid (left_any h)
  have hi:=h.hi
  have hn:=h.hn
  obtain ⟨A',hrun,hrd⟩:=cut_3 c h.rd (Nat.le_add_right i k) (by omega) h.hc h.hn
  rw [Nat.add_sub_cancel_left] at hrun hrd
  have HRUN:=Lib.hid hrun
  have HRD:=Lib.hid hrd
  have HR:=Lib.hid h
  clear hrun hrd h
  go_enter Tryz.func158,Tryz.ntmps158
  go_wp2_with fail
  refine C1.out.mono ?_
  rintro e w1 ⟨rfl,hb⟩
  have HS:=Lib.hid (HR.out.below hb HR.out.lt)
  have HB:=Lib.hid hb
  have g0:=HS.out.c0
  have g1:=HS.out.c1
  have f1:=HS.out.f1
  have hrun:=HRUN.out
  have e1:((i:Int)+(k:Int))=((i+k:Nat):Int):=by omega
  have hki:(k:Int)≤((n - i:Nat):Int):=by omega
  clear hb
  rw [← e1] at hrun
  clear e1
  go_wp2_with fail
  go_quiet (fail)
  have g1':(w1.drewN nq).cell? ⟨g,1,none⟩=some (.int .i64 (i:Int)):=g1
  have f1':(w1.drewN nq).frozen? ⟨g,1,none⟩=false:=f1
  go_wp2_with fail
  go_ret2
  have hs:RSt (w1.drewN nq) g A n c bs i p d:=HS.out.below (below_drewN _ _ _) HS.out.lt
  exact ⟨A',rfl,(HRD.out.keep fun q hq=>(HB.out.mono (Nat.le_of_lt HR.out.lt)).cell hq).keep fun q hq=>by rw [World.cell?_setCell_far _ _ _ _ (by show g≠q.block;omega)];rfl,
    hs.set1 (i+k) (by omega) (by omega),((Only.of_below HB.out).trans (Only.of_below (below_drewN _ _ _))).setCell (by rfl) _⟩
def set4 (w:World) (b:Nat) (u0 u1 u2 u3:Value):World:=(((w.setCell ⟨b,0,none⟩ u0).setCell ⟨b,1,none⟩ u1).setCell ⟨b,2,none⟩ u2).setCell ⟨b,3,none⟩ u3
theorem set4_heap {b k:Nat} {u0 u1 u2 u3:Value} (h:k≠b):(set4 w b u0 u1 u2 u3).heap[k]?=w.heap[k]?:=by
  unfold set4
  rw [Below.heap_setCell _ _ _ _ h,Below.heap_setCell _ _ _ _ h,Below.heap_setCell _ _ _ _ h,Below.heap_setCell _ _ _ _ h]
theorem set4_size {b:Nat} {u0 u1 u2 u3:Value}:(set4 w b u0 u1 u2 u3).heap.size=w.heap.size:=by simp [set4,World.setCell]
theorem set4_below {w0:World} {B b:Nat} {u0 u1 u2 u3:Value} (h:Below B w0 w) (hb:B≤b):Below B w0 (set4 w b u0 u1 u2 u3):=below_set4 h hb
theorem set4_only {w0:World} {b:Nat} {u0 u1 u2 u3:Value} (h:Only g w0 w) (hb:w0.heap.size≤b):Only g w0 (set4 w b u0 u1 u2 u3) :=
  ⟨h.os,h.tape,h.output,by rw [set4_size];exact h.size,fun k hk hg=>(set4_heap (by omega)).trans (h.block k hk hg)⟩
theorem RSt.set4 {b:Nat} {u0 u1 u2 u3:Value} (h:RSt w g A n c bs i p d) (hb:g<b):RSt (set4 w b u0 u1 u2 u3) g A n c bs i p d :=
  h.below (B:=b) (set4_below (Below.refl _ _) (Nat.le_refl _)) hb
theorem RdI.fin {b lo lo':Nat} {u0 u1 u2 u3 v:Value} {x:Itm} {B:Nat} (h:RdI (mask (lows lo) w) B v x) (hB:B≤w.heap.size) (hb:b<lo) (hl:lo'≤lo):RdI (mask (lows lo') (Go.Proofs.YtldnokgdgafphaaGreatDoor.set4 w b u0 u1 u2 u3)) (Go.Proofs.YtldnokgdgafphaaGreatDoor.set4 w b u0 u1 u2 u3).heap.size v x :=
  h.mask_go (by rw [set4_size];exact hB) (fun k _ hk=>set4_heap (by have:=lows_f.1 hk;omega)) (fun k _ hk=>lows_f.2 (Nat.le_trans hl (lows_f.1 hk)))
theorem Ob.news {base m cp:Nat} {t:TypeId} {A:Option Addr} {l:List UInt8} (h:Ob w base t (.slice A m cp) l):Rd (mask (lows base) w) w.heap.size A m l:=by
  obtain ⟨hl,hr,hc,hm⟩:=h.rd_
  refine ⟨hl,fun h0=>?_⟩
  obtain ⟨gg,cap,hv,hb,hlt,_⟩:=h.form (by omega)
  injection hv with h1 h2 h3
  subst h1
  obtain ⟨b,o,e,hbb,hcell⟩:=hr.2 h0
  injection e with e
  injection e with e1 e2
  subst e1 e2
  exact ⟨gg,0,rfl,hlt,fun j hj=>(mask_cell (lows_f.2 hb)).trans (hcell j hj)⟩
theorem RdI.bare {w':World} {B B' m:Nat} {k:Int} {v:Value} (h:RdI w B v (.mk k m [] [])):RdI w' B' v (.mk k m [] []):=by
  rw [RdI] at h ⊢
  obtain ⟨A,nd,cd,AL,nl,cl,e,h1,h2,h3,h4,h5,h6,_⟩:=h
  have hd:nd=0:=h4.1.symm
  have hl:nl=0:=h6.symm
  subst hd hl
  exact ⟨A,0,cd,AL,0,cl,e,h1,h2,h3,Rd.nil_,h5,rfl,fun h=>absurd h (Nat.lt_irrefl _)⟩
theorem zero_only {W':World} (h:Only g (w.alloc (.cells #[.int .i64 0,.int .u64 0,.slice none 0 0,.slice none 0 0] 88)) W') (hg:g<w.heap.size) :
    (W'.cell? ⟨w.heap.size,0,none⟩=some (.int .i64 0)∧W'.cell? ⟨w.heap.size,1,none⟩=some (.int .u64 0)∧W'.cell? ⟨w.heap.size,2,none⟩=some (.slice none 0 0)∧W'.cell? ⟨w.heap.size,3,none⟩=some (.slice none 0 0)) ∧
    (W'.frozen? ⟨w.heap.size,0,none⟩=false∧W'.frozen? ⟨w.heap.size,1,none⟩=false∧W'.frozen? ⟨w.heap.size,2,none⟩=false∧W'.frozen? ⟨w.heap.size,3,none⟩=false):=by
  have hb:=h.block w.heap.size (by simp) (by omega)
  refine ⟨⟨?_,?_,?_,?_⟩,?_,?_,?_,?_⟩
  · exact (World.cell?_of_block (w:=w.alloc (.cells #[.int .i64 0,.int .u64 0,.slice none 0 0,.slice none 0 0] 88)) (a:=⟨w.heap.size,0,none⟩) hb).trans (by simp)
  · exact (World.cell?_of_block (w:=w.alloc (.cells #[.int .i64 0,.int .u64 0,.slice none 0 0,.slice none 0 0] 88)) (a:=⟨w.heap.size,1,none⟩) hb).trans (by simp)
  · exact (World.cell?_of_block (w:=w.alloc (.cells #[.int .i64 0,.int .u64 0,.slice none 0 0,.slice none 0 0] 88)) (a:=⟨w.heap.size,2,none⟩) hb).trans (by simp)
  · exact (World.cell?_of_block (w:=w.alloc (.cells #[.int .i64 0,.int .u64 0,.slice none 0 0,.slice none 0 0] 88)) (a:=⟨w.heap.size,3,none⟩) hb).trans (by simp)
  · exact (World.frozen?_of_block (w:=w.alloc (.cells #[.int .i64 0,.int .u64 0,.slice none 0 0,.slice none 0 0] 88)) (a:=⟨w.heap.size,0,none⟩) hb).trans (by simp)
  · exact (World.frozen?_of_block (w:=w.alloc (.cells #[.int .i64 0,.int .u64 0,.slice none 0 0,.slice none 0 0] 88)) (a:=⟨w.heap.size,1,none⟩) hb).trans (by simp)
  · exact (World.frozen?_of_block (w:=w.alloc (.cells #[.int .i64 0,.int .u64 0,.slice none 0 0,.slice none 0 0] 88)) (a:=⟨w.heap.size,2,none⟩) hb).trans (by simp)
  · exact (World.frozen?_of_block (w:=w.alloc (.cells #[.int .i64 0,.int .u64 0,.slice none 0 0,.slice none 0 0] 88)) (a:=⟨w.heap.size,3,none⟩) hb).trans (by simp)
set_option maxRecDepth 100000 in
set_option maxHeartbeats 1000000 in
theorem uint_any (h:RSt w g A n c bs i p d) (m:Nat) (hm:m<18446744073709551616) :
    Calls Tryz.prog 154 #[.pointer (some ⟨g,0,none⟩),.int .u64 (m:Int)] w (GivesR g A n c bs d (.ok (.mk 0 m [] [],p,bs.drop i)) w):=by
  have C1:=Lib.hid (fun W=>cuint_any m W hm)
  have HR:=Lib.hid h
  clear h
  go_enter Tryz.func154,Tryz.ntmps154
  go_wp2_with fail
  refine (C1.out _).mono ?_
  rintro e w1 ⟨v,rfl,hv,hb⟩
  obtain ⟨k1,n1,A1,nd1,cd1,AL1,nl1,cl1,rfl⟩:=hv.form
  have HV:=Lib.hid hv
  have hb':=to_box hb
  obtain ⟨⟨z0,z1,z2,z3⟩,f0,f1,f2,f3⟩:=zero_cells hb'
  have HB:=Lib.hid (((Below.refl w.heap.size w).alloc (Nat.le_refl _) _).trans (hb'.mono (Nat.le_succ _)))
  clear hv hb hb'
  go_wp2_with fail
  refine bodyPost_ret (v:=.tuple #[.agg #[.int .i64 k1,.int .u64 (n1:Int),.slice A1 nd1 cd1,.slice AL1 nl1 cl1],.nilIface]) (by simp [results,Tryz.results154,go_sem,z0,z1,z2,z3]) rfl ?_
  exact ⟨_,i,rfl,HV.out.bare,(HR.out.below HB.out HR.out.lt).set4 HR.out.lt,rfl,set4_only (Only.of_below HB.out) (Nat.le_refl _)⟩
end
end Go.Proofs.YtldnokgdgafphaaGreatDoor
/- What Encode of layer 3 returns. -/
namespace Go.Proofs.YtldnokgdgafphaaGreatDoor
open Go.RowKit
end Go.Proofs.YtldnokgdgafphaaGreatDoor
/- What Uint and Text of layer 3 return, with nothing in it that is read below a block lo; an item stored into cells of one's own. -/
namespace Go.Proofs.YtldnokgdgafphaaGreatDoor
open Go.RowKit
def GivesL (lo:Nat) (x:Itm) (w:World) (e:Ending) (w':World):Prop:=∃ v,e=.returned v∧RdI (mask (lows lo) w') w'.heap.size v x∧Below w.heap.size w w'
theorem Rd.mask_one {w:World} {lo B n b o:Nat} {l:List UInt8} (h:Rd w B (some ⟨b,o,none⟩) n l) (hb:lo≤b):Rd (mask (lows lo) w) B (some ⟨b,o,none⟩) n l :=
  ⟨h.1,fun hn=>by
    obtain ⟨b',o',e,hB,hc⟩:=h.2 hn
    injection e with e
    injection e with e1 e2
    subst e1 e2
    exact ⟨b,o,rfl,hB,fun i hi=>(mask_cell (lows_f.2 hb)).trans (hc i hi)⟩⟩
theorem RdI.put4 {W:World} {B B' g lo lo':Nat} {v:Value} {x:Itm} {u0 u1 u2 u3:Value} (h:RdI (mask (lows lo) W) B v x) (hl:lo'≤lo) (hg:g<lo) (hB:B≤B') :
    RdI (mask (lows lo') ((((W.setCell ⟨g,0,none⟩ u0).setCell ⟨g,1,none⟩ u1).setCell ⟨g,2,none⟩ u2).setCell ⟨g,3,none⟩ u3)) B' v x :=
  h.sub hB fun q u _ hc=>by
    have h1:=lows_f.1 (mask_out hc)
    have hq:¬ g=q.block:=by omega
    rw [mask_cell (lows_f.2 (by omega)),World.cell?_setCell_far _ _ _ _ hq,World.cell?_setCell_far _ _ _ _ hq,World.cell?_setCell_far _ _ _ _ hq,World.cell?_setCell_far _ _ _ _ hq]
    exact mask_sub hc
theorem RdI.grow {W W':World} {lo lo':Nat} {v:Value} {x:Itm} (h:RdI (mask (lows lo) W) W.heap.size v x) (hb:Below W.heap.size W W') (hl:lo'≤lo):RdI (mask (lows lo') W') W'.heap.size v x :=
  h.sub hb.size fun q u hp hc=>by
    have h1:=lows_f.1 (mask_out hc)
    rw [mask_cell (lows_f.2 (by omega)),hb.cell hp]
    exact mask_sub hc
theorem size_put4 {W:World} {g:Nat} {u0 u1 u2 u3:Value}:((((W.setCell ⟨g,0,none⟩ u0).setCell ⟨g,1,none⟩ u1).setCell ⟨g,2,none⟩ u2).setCell ⟨g,3,none⟩ u3).heap.size=W.heap.size:=by simp [World.setCell]
theorem zero4 {w W':World} {g:Nat} (hg:g=w.heap.size) (h:Below (g+1) (w.alloc (.cells #[.int .i64 0,.int .u64 0,.slice none 0 0,.slice none 0 0] 88)) W') :
    (W'.cell? ⟨g,0,none⟩=some (.int .i64 0)∧W'.cell? ⟨g,1,none⟩=some (.int .u64 0)∧W'.cell? ⟨g,2,none⟩=some (.slice none 0 0)∧W'.cell? ⟨g,3,none⟩=some (.slice none 0 0)) ∧
    (W'.frozen? ⟨g,0,none⟩=false∧W'.frozen? ⟨g,1,none⟩=false∧W'.frozen? ⟨g,2,none⟩=false∧W'.frozen? ⟨g,3,none⟩=false):=by
  subst hg
  exact zero_cells h
set_option maxRecDepth 100000 in
set_option maxHeartbeats 1000000 in
theorem cuintL_any (lo n:Nat) (w:World) (h:n<18446744073709551616) :
    Calls Tryz.prog 83 #[.int .u64 (n:Int)] w (GivesL lo (.mk 0 n [] []) w):=by
  go_enter Tryz.func83,Tryz.ntmps83
  go_wp2_with fail
  have hr:=fun W B=>RdI.mk_uint (w:=W) (B:=B) (n:=n) h
  exact bodyPost_ret (v:=.agg #[.int .i64 0,.int .u64 (n:Int),.slice none 0 0,.slice none 0 0]) (by simp [results,Tryz.results83,go_sem]) rfl ⟨_,rfl,hr _ _,(Below.refl _ _).alloc (Nat.le_refl _) _⟩
set_option maxRecDepth 100000 in
set_option maxHeartbeats 1000000 in
theorem ctextL_any (lo:Nat) (s:ByteArray) (w:World) (hlo:lo≤w.heap.size) (hs:s.size≤140737488355328) :
    Calls Tryz.prog 162 #[.string s] w (GivesL lo (.mk 3 0 s.data.toList []) w):=by
  obtain ⟨c,W',hrun,hrd,hc,hb,hz⟩:=conv_bytes (w.alloc (.cells #[.int .i64 0,.int .u64 0,.slice none 0 0,.slice none 0 0] 88)) s
  have hz1:(w.alloc (.cells #[.int .i64 0,.int .u64 0,.slice none 0 0,.slice none 0 0] 88)).heap.size=w.heap.size+1:=by simp
  rw [hz1] at hrun hrd hb hz
  obtain ⟨⟨z0,z1,z2,z3⟩,f0,f1,f2,f3⟩:=zero_cells hb
  have HRD:=Lib.hid hrd
  have HB:=Lib.hid hb
  have HZ:=Lib.hid hz
  have HS:=Lib.hid hs
  have HLO:=Lib.hid hlo
  clear hrd hb hz hz1 hs hlo
  go_enter Tryz.func162,Tryz.ntmps162
  go_wp2_with fail
  have hsz4:((((W'.setCell ⟨w.heap.size,0,none⟩ (.int .i64 3)).setCell ⟨w.heap.size,1,none⟩ (.int .u64 0)).setCell ⟨w.heap.size,2,none⟩ (.slice (some ⟨w.heap.size+1,0,none⟩) s.size c)).setCell ⟨w.heap.size,3,none⟩ (.slice none 0 0)).heap.size=W'.heap.size:=by simp [World.setCell]
  refine bodyPost_ret (v:=.agg #[.int .i64 3,.int .u64 0,.slice (some ⟨w.heap.size+1,0,none⟩) s.size c,.slice none 0 0]) (by simp [results,Tryz.results162,go_sem,z0,z1,z2,z3]) rfl ⟨_,rfl,RdI.mk_data (by decide) hc HS.out (Rd.mask_one ?_ (Nat.le_trans HLO.out (Nat.le_succ _))),?_⟩
  · rw [hsz4,HZ.out]
    exact HRD.out.set4 (fun _ b o h=>(by cases h;omega))
  · exact below_set4 (((Below.refl _ _).alloc (Nat.le_refl _) _).trans (HB.out.mono (Nat.le_succ _))) (Nat.le_refl _)
end Go.Proofs.YtldnokgdgafphaaGreatDoor
/- The plain mathematics of layer 6: bundles, the bytes that they are. No program's number stands here but the sums' (CrcR). -/
namespace Go.Proofs.YtldnokgdgafphaaGreatDoor
/-! ### Endpoints' items -/
theorem letter_plain {c:UInt8} (h:lsB c=true):(decide (32≤c.toNat)&&decide (c.toNat≤126))=true:=by
  have h0:∀ v:Fin 256,lsB (UInt8.ofNat v.val)=true→(decide (32≤(UInt8.ofNat v.val).toNat)&&decide ((UInt8.ofNat v.val).toNat≤126))=true:=by decide +kernel
  have:=h0 ⟨c.toNat,c.toNat_lt⟩
  simp only [UInt8.ofNat_toNat] at this
  exact this h
theorem name_plain {s:List UInt8} (h:nameB s=true):plain s=true:=by
  obtain ⟨r,rfl,h2,-⟩:=name_head h
  have hr:(r.all fun c=>decide (32≤c.toNat)&&decide (c.toNat≤126))=true:=List.all_eq_true.2 fun c hc=>letter_plain (List.all_eq_true.1 h2 c hc)
  unfold plain
  rw [List.all_cons,List.all_cons,hr]
  decide
theorem itemE_good {e:Epd} (h:checkB e=true):right (itemE e)=true∧dep (itemE e)≤2∧par (itemE e)≤5:=by
  by_cases h1:e.scheme=1
  · obtain ⟨hn,hs,hm⟩:=check_dtn h h1
    unfold itemE
    rw [if_neg (by omega)]
    by_cases h0:e.name=[]
    · rw [if_pos h0]
      exact ⟨by simp [right,rights,own],by simp [dep,deps],by simp [par,pars]⟩
    · rw [if_neg h0]
      have hp:=name_plain (hm.resolve_left h0)
      exact ⟨by simp [right,rights,own,hp],by simp [dep,deps],by simp [par,pars]⟩
  · obtain ⟨h2,hm,-⟩:=check_ipn h h1
    unfold itemE
    rw [if_pos h2]
    exact ⟨by simp [right,rights,own],by simp [dep,deps],by simp [par,pars]⟩
theorem itemE_siz {e:Epd} (h:checkB e=true):Siz (itemE e):=by
  by_cases h1:e.scheme=1
  · obtain ⟨hn,hs,hm⟩:=check_dtn h h1
    unfold itemE
    rw [if_neg (by omega)]
    by_cases h0:e.name=[]
    · rw [if_pos h0]
      exact ⟨by decide,by simp,by simp,⟨by rw [h1];decide,by simp,by simp,trivial⟩,⟨by decide,by simp,by simp,trivial⟩,trivial⟩
    · rw [if_neg h0]
      obtain ⟨r,hr,-,-,-,hl⟩:=name_head (hm.resolve_left h0)
      exact ⟨by decide,by simp,by simp,⟨by rw [h1];decide,by simp,by simp,trivial⟩,⟨by decide,by omega,by simp,trivial⟩,trivial⟩
  · obtain ⟨h2,hm,-,h3,h4⟩:=check_ipn h h1
    unfold itemE
    rw [if_pos h2]
    exact ⟨by decide,by simp,by simp,⟨by rw [h2];decide,by simp,by simp,trivial⟩,⟨by decide,by simp,by simp,⟨by omega,by simp,by simp,trivial⟩,⟨by omega,by simp,by simp,trivial⟩,trivial⟩,trivial⟩
theorem wri_4 (l:List Itm):wri (.mk 4 0 [] l)=hd 4 l.length++wrs l:=by rw [wri,if_neg (by decide),if_neg (by decide),if_pos rfl]
theorem wri_t (d:List UInt8):wri (.mk 3 0 d [])=hd 3 d.length++d:=by rw [wri,if_neg (by decide),if_pos (by decide)];rfl
theorem wri_itemE_len {e:Epd} (h:checkB e=true):(wri (itemE e)).length≤110:=by
  have hl:∀ m n,(hd m n).length≤9:=fun m n=>by rw [hd_len];have:=hsz_le n;omega
  have a0:=hl 4 2
  have a1:=hl 0 e.scheme.toNat
  by_cases h1:e.scheme=1
  · obtain ⟨hn,hs,hm⟩:=check_dtn h h1
    unfold itemE
    rw [if_neg (by omega),wri_4]
    by_cases h0:e.name=[]
    · rw [if_pos h0]
      have a3:=hl 0 0
      simp only [wrs,wri_u,List.length_append,List.length_cons,List.length_nil,Nat.zero_add,Nat.reduceAdd,List.append_nil]
      omega
    · rw [if_neg h0]
      obtain ⟨r,hr,-,-,-,hl2⟩:=name_head (hm.resolve_left h0)
      have a3:=hl 3 e.name.length
      simp only [wrs,wri_u,wri_t,List.length_append,List.length_cons,List.length_nil,Nat.zero_add,Nat.reduceAdd,List.append_nil]
      omega
  · obtain ⟨h2,hm,-⟩:=check_ipn h h1
    unfold itemE
    rw [if_pos h2,wri_4]
    have a3:=hl 0 e.node
    have a4:=hl 0 e.service
    simp only [wrs,wri_u,wri_4,List.length_append,List.length_cons,List.length_nil,Nat.zero_add,Nat.reduceAdd,List.append_nil]
    omega
/-! ### Bundles -/
structure Bun where
  flg:Nat
  crc:Int
  dst:Epd
  src:Epd
  rep:Epd
  tim:Nat
  seq:Nat
  lif:Nat
  blks:List Blk
def fragB (f:Nat):Bool:=Go.bits BinOp.and IntKind.u64 (f:Int) 1 != 0
def wholeB (f:Nat):Bool:=Go.bits BinOp.and IntKind.u64 (f:Int) 475140==4
def singB (t:Nat):Bool:=decide (t=10)||(decide (t=7)||decide (t=6))
def frm (a:List Blk):List Blk→Bool
  | []=>true
  | x::r=>blkOk x&&((decide (x.typ=1)==r.isEmpty)&&((!(a.any fun y=>decide (y.num=x.num)))&&((!(singB x.typ&&a.any fun y=>decide (y.typ=x.typ)))&&frm (a++[x]) r)))
def blksOk (l:List Blk):Bool:=decide (1≤l.length∧l.length≤16)&&frm [] l
def primOk (b:Bun):Bool:=decide (0≤b.crc∧b.crc≤2)&&((checkB b.dst&&(checkB b.src&&checkB b.rep))&&((!(noneB b.dst))&&(!(noneB b.src && !(wholeB b.flg)))))
def cauU (b:Bun):Int:=if fragB b.flg=true then 62 else if primOk b=true∧blksOk b.blks=true then 0 else 60
def BdP (b:Bun):Prop:=b.flg<18446744073709551616∧b.tim<18446744073709551616∧b.seq<18446744073709551616∧b.lif<18446744073709551616
def Wr (b:Bun):Prop:=(0≤b.crc∧b.crc≤2)∧checkB b.dst=true∧checkB b.src=true∧checkB b.rep=true
def partsP (b:Bun):List Itm:=[.mk 0 7 [] [],.mk 0 b.flg [] [],.mk 0 b.crc.toNat [] [],itemE b.dst,itemE b.src,itemE b.rep,.mk 4 0 [] [.mk 0 b.tim [] [],.mk 0 b.seq [] []],.mk 0 b.lif [] []]
def itmP (b:Bun) (s:List UInt8):Itm:=.mk 4 0 [] (partsP b++if b.crc=0 then [] else [.mk 2 0 s []])
def bodyP (b:Bun):List UInt8:=hd 4 (if b.crc=0 then 8 else 9)++(wrs (partsP b)++if b.crc=0 then [] else hd 2 (sumN b.crc))
def nullsP (b:Bun):List UInt8:=List.replicate (sumN b.crc) 0
theorem nullsP_len (b:Bun):(nullsP b).length=sumN b.crc:=by simp [nullsP]
def sumP (b:Bun):List UInt8:=crcBytes b.crc (bodyP b++nullsP b)
def primW (b:Bun):List UInt8:=bodyP b++sumP b
theorem sumP_len (b:Bun):(sumP b).length=sumN b.crc:=crcBytes_len _ _
theorem wri_itmP (b:Bun) (s:List UInt8) (hs:s.length=sumN b.crc):wri (itmP b s)=bodyP b++s:=by
  unfold itmP
  rw [wri,if_neg (by decide),if_neg (by decide),if_pos rfl]
  unfold bodyP
  by_cases h0:b.crc=0
  · have:s=[]:=List.eq_nil_of_length_eq_zero (by rw [hs,h0];rfl)
    subst this
    simp only [if_pos h0,List.append_nil]
    rw [show (partsP b).length=8 from rfl]
  · simp only [if_neg h0]
    rw [wrs_ap,show (partsP b++[Itm.mk 2 0 s []]).length=9 from rfl,wrs,wri_b,wrs,hs]
    simp [List.append_assoc]
theorem itmP_fits {b:Bun} (s:List UInt8) (h:Wr b):Fits (itmP b s):=by
  obtain ⟨-,hd,hs,hr⟩:=h
  obtain ⟨d1,d2,d3⟩:=itemE_good hd
  obtain ⟨s1,s2,s3⟩:=itemE_good hs
  obtain ⟨r1,r2,r3⟩:=itemE_good hr
  unfold itmP partsP
  by_cases h0:b.crc=0
  · simp only [if_pos h0]
    exact ⟨by simp [right,rights,own,d1,s1,r1],by simp [dep,deps];omega,by simp [par,pars];omega⟩
  · simp only [if_neg h0]
    exact ⟨by simp [right,rights,own,d1,s1,r1],by simp [dep,deps];omega,by simp [par,pars];omega⟩
theorem itmP_siz {b:Bun} (s:List UInt8) (h:Wr b) (hb:BdP b) (hs:s.length<18446744073709551616):Siz (itmP b s):=by
  obtain ⟨hc,hd,hsr,hr⟩:=h
  obtain ⟨h1,h2,h3,h4⟩:=hb
  have h5:b.crc.toNat<18446744073709551616:=by omega
  have d1:=itemE_siz hd
  have s1:=itemE_siz hsr
  have r1:=itemE_siz hr
  unfold itmP partsP
  have hrow:∀ t:List Itm,Sizs t→Sizs ([.mk 0 7 [] [],.mk 0 b.flg [] [],.mk 0 b.crc.toNat [] [],itemE b.dst,itemE b.src,itemE b.rep,.mk 4 0 [] [.mk 0 b.tim [] [],.mk 0 b.seq [] []],.mk 0 b.lif [] []]++t):=fun t ht =>
    ⟨⟨by decide,by simp,by simp,trivial⟩,⟨h1,by simp,by simp,trivial⟩,⟨h5,by simp,by simp,trivial⟩,d1,s1,r1,⟨by decide,by simp,by simp,⟨h2,by simp,by simp,trivial⟩,⟨h3,by simp,by simp,trivial⟩,trivial⟩,⟨h4,by simp,by simp,trivial⟩,ht⟩
  by_cases h0:b.crc=0
  · simp only [if_pos h0]
    exact ⟨by decide,by simp,by simp,hrow [] trivial⟩
  · simp only [if_neg h0]
    exact ⟨by decide,by simp,by simp,hrow _ ⟨⟨by decide,hs,by simp,trivial⟩,trivial⟩⟩
theorem bodyP_len {b:Bun} (h:Wr b):(bodyP b).length≤450:=by
  obtain ⟨-,d0,s0,r0⟩:=h
  have d1:=wri_itemE_len d0
  have s1:=wri_itemE_len s0
  have r1:=wri_itemE_len r0
  have hl:∀ m n,(hd m n).length≤9:=fun m n=>by rw [hd_len];have:=hsz_le n;omega
  unfold bodyP partsP
  have h1:=hl 4 (if b.crc=0 then 8 else 9)
  have h2:=hl 0 7
  have h3:=hl 0 b.flg
  have h4:=hl 0 b.crc.toNat
  have h5:=hl 0 b.tim
  have h6:=hl 0 b.seq
  have h7:=hl 0 b.lif
  have h8:=hl 4 2
  have h9:=hl 2 (sumN b.crc)
  simp only [wrs,wri_u,wri_4,List.length_append,List.length_cons,List.length_nil,Nat.zero_add,Nat.reduceAdd,List.append_nil]
  generalize (hd 4 (if b.crc=0 then 8 else 9)).length=q at *
  by_cases h0:b.crc=0
  · rw [if_pos h0,List.length_nil];omega
  · rw [if_neg h0];omega
theorem bodyP_pos (b:Bun):1≤(bodyP b).length:=by unfold bodyP;simp only [List.length_append,hd_len];omega
theorem primW_len {b:Bun} (h:Wr b):(primW b).length≤454:=by
  unfold primW
  rw [List.length_append,sumP_len]
  have:=bodyP_len h
  have:=sumN_le b.crc
  omega
theorem primW_lenE (b:Bun):(primW b).length=(bodyP b).length+sumN b.crc:=by unfold primW;rw [List.length_append,sumP_len]
theorem prim_dec {b:Bun} (h:Wr b) (hb:BdP b) (m:List UInt8):decode (primW b++m)=(itmP b (sumP b),((primW b).length:Int),0):=by
  have hw:=wri_itmP b (sumP b) (sumP_len b)
  have:=decode_wr (itmP_fits (sumP b) h) (itmP_siz (sumP b) h hb (by rw [sumP_len];have:=sumN_le b.crc;omega)) m
  rw [hw] at this
  exact this
def blkWs:List Blk→List UInt8 | []=>[] | x::r=>blkW x++blkWs r
theorem blkWs_app:∀ a b:List Blk,blkWs (a++b)=blkWs a++blkWs b
  | [],b=>rfl
  | x::r,b=>by rw [List.cons_append,blkWs,blkWs,blkWs_app r b,List.append_assoc]
def bunW (b:Bun):List UInt8:=0x9f::(primW b++(blkWs b.blks++[0xff]))
theorem primOk_iff {b:Bun}:primOk b=true↔Wr b∧noneB b.dst=false∧(noneB b.src=true→wholeB b.flg=true):=by
  unfold primOk Wr
  simp only [Bool.and_eq_true,decide_eq_true_eq,Bool.not_eq_true',Bool.and_eq_false_iff,Bool.not_eq_false']
  constructor
  · rintro ⟨h1,⟨h2,h3,h4⟩,h5,h6⟩
    exact ⟨⟨h1,h2,h3,h4⟩,h5,fun h=>h6.resolve_left (by rw [h];decide)⟩
  · rintro ⟨⟨h1,h2,h3,h4⟩,h5,h6⟩
    refine ⟨h1,⟨h2,h3,h4⟩,h5,?_⟩
    cases hn:noneB b.src
    · exact .inl rfl
    · exact .inr (h6 hn)
theorem cauU_0 {b:Bun}:cauU b=0↔fragB b.flg=false∧primOk b=true∧blksOk b.blks=true:=by
  unfold cauU
  cases fragB b.flg <;> by_cases h:primOk b=true∧blksOk b.blks=true <;> simp [h] <;> simp_all
def PrimAt (l:List UInt8) (b:Bun):Prop:=Wr b∧BdP b∧∃ m,l=primW b++m
theorem PrimAt.dec {l:List UInt8} {b:Bun} (h:PrimAt l b):decode l=(itmP b (sumP b),((primW b).length:Int),0):=by
  obtain ⟨h1,h2,m,rfl⟩:=h
  exact prim_dec h1 h2 m
end Go.Proofs.YtldnokgdgafphaaGreatDoor
