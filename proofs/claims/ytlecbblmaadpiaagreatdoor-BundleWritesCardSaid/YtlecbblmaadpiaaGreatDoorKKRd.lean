import Derived.Test.YtlecbblmaadpiaaGreatDoorKCborR
import Derived.Test.YtlecbblmaadpiaaGreatDoorKCborS
import Derived.Test.YtlecbblmaadpiaaGreatDoorKCborU
import Derived.Test.YtlecbblmaadpiaaGreatDoorKKCheck
import Derived.Test.YtlecbblmaadpiaaGreatDoorKKWrite
import Derived.Test.YtlecbblmaadpiaaGreatDoorKMask
import Derived.Test.YtlecbblmaadpiaaGreatDoorKNumE
import Derived.Deep.RegionHeld3
import Derived.Test.YtlecbblmaadpiaaGreatDoorRows
import Derived.Below
import Derived.BigCall
import Derived.BigGuard
import Derived.BigGuardPart
import Derived.BigQuiet
import Derived.Deep.DeepCutAuto
import Derived.Deep.DeepFit
import Derived.Deep.Draws
import Derived.Deep.OwnRows
import Derived.Deep.QuietTactic
import Derived.Laws.AppendOwn
import Derived.Laws.BitsAllLaws
import Derived.Laws.BytesArg
import Derived.Laws.IdiomStrings
import Derived.Laws.NewBlocks
import Derived.Laws.Strings3
import Derived.Lib.EndianBits
import Derived.Lib.HexFns
import Derived.Lib.Hide
import Derived.Lib.ItoaNum
import Derived.Lib.SlBytesConst
import Derived.Lib.Strings
import Derived.Lib.Walk
import Derived.Outline
import Derived.WalkKit
import Derived.WalkLawsBesides
namespace Go.Proofs.YtlecbblmaadpiaaGreatDoor
set_option maxRecDepth 100000
set_option maxHeartbeats 16000000
open Go.RowKit
open Go.Lib (hid)
def GivesE (t:TypeId) (l:List UInt8) (c:Int) (w:World) (e:Ending) (w':World):Prop:=∃ v,e=.returned (.tuple #[v,.int .i64 c])∧Ob w' w.heap.size t v l∧Below w.heap.size w w'
theorem box_cells {w w':World} {c0 c1 c2 c3:Value} {t:TypeId} (h:Below (w.heap.size+1) (w.alloc (.cells #[c0,c1,c2,c3] t)) w') :
  w'.cell? ⟨w.heap.size,0,none⟩=some c0∧w'.cell? ⟨w.heap.size,1,none⟩=some c1∧w'.cell? ⟨w.heap.size,2,none⟩=some c2∧w'.cell? ⟨w.heap.size,3,none⟩=some c3 :=
 ⟨(h.cell (p:=⟨w.heap.size,0,none⟩) (Nat.lt_succ_self _)).trans (by simp),(h.cell (p:=⟨w.heap.size,1,none⟩) (Nat.lt_succ_self _)).trans (by simp),(h.cell (p:=⟨w.heap.size,2,none⟩) (Nat.lt_succ_self _)).trans (by simp),(h.cell (p:=⟨w.heap.size,3,none⟩) (Nat.lt_succ_self _)).trans (by simp)⟩
theorem to_box {w w':World} {o:Obj} (h:Below (w.alloc o).heap.size (w.alloc o) w'):Below (w.heap.size+1) (w.alloc o) w':=h.mono (by simp)
theorem rencode_any (x:Itm) (v:Value) (w:World) (B:Nat) (hp:par x≤1000000) (hg:hgt x≤1001) (hlen:Fits x→(wri x).length≤140737488355328) (hB:B≤w.heap.size) (h:RdI w B v x) :
  Calls Tryz.prog 89 #[v] w (GivesE 5 (enc x).1 (enc x).2 w):=by
 obtain ⟨k,n,d,l⟩:=x
 have HX:=hid h
 obtain ⟨A,nd,cd,AL,cl,rfl,h1,h2,h3,h4,h5,h7⟩:=h.open
 generalize hX:Itm.mk k n d l=x at *
 clear hX
 have C1:=hid (fun W (hb:Below w.heap.size w W)=>rright_n (par x+1) x 1000 _ W B (Nat.lt_succ_self _) hg (by omega) (Nat.le_trans hB hb.size) (HX.out.below (hb.mono hB)))
 have C2:=hid (fun W (hb:Below w.heap.size w W)=>rdepth_n (par x+1) x _ W B (Nat.lt_succ_self _) hp (Nat.le_trans hB hb.size) (HX.out.below (hb.mono hB)))
 have C3:=hid (fun W (hb:Below w.heap.size w W)=>rparts_n (par x+1) x _ W B (Nat.lt_succ_self _) hp (Nat.le_trans hB hb.size) (HX.out.below (hb.mono hB)))
 have C4:=hid (fun W (hb:Below w.heap.size w W) (hr:right x=true) (hl:(wri x).length≤140737488355328)=>rwrite_n (par x+1) x _ W B (Nat.lt_succ_self _) hr hl (Nat.le_trans hB hb.size) (HX.out.below (hb.mono hB)))
 have HLEN:=hid hlen
 have hdp:=dep_le x
 have B0:=hid ((Below.refl w.heap.size w).alloc nlr (.cells #[.int .i64 k,.int .u64 (n:Int),.slice A nd cd,.slice AL l.length cl] 30))
 generalize l.length=N at *
 clear h1 h4 h7 h hlen
 rcases hr:right x with _|_
 ·
  rw [show enc x=([],2) by unfold enc;rw [if_pos hr]]
  rw [hr] at C1
  clear hr
  go_enter Tryz.func89,Tryz.ntmps89
  go_wp2_with fail
  refine (C1.out _ B0.out).mono ?_
  rintro e w1 ⟨rfl,hb1⟩
  have HB1:=hid (B0.out.trans (hb1.mono B0.out.size))
  clear hb1
  go_wp2_with fail
  go_ret2
  exact ⟨_,rfl,Ob.nil_ _ _ _,HB1.out⟩
 ·
  rw [hr] at C1
  have HR:=hid hr
  clear hr
  obtain ⟨E1,hE1⟩:∃ q,q=(enc x).1:=⟨_,rfl⟩
  obtain ⟨E2,hE2⟩:∃ q,q=(enc x).2:=⟨_,rfl⟩
  rw [← hE1,← hE2]
  have HE1:=hid hE1
  have HE2:=hid hE2
  clear hE1 hE2
  go_enter Tryz.func89,Tryz.ntmps89
  go_wp2_with fail
  refine (C1.out _ B0.out).mono ?_
  rintro e w1 ⟨rfl,hb1⟩
  have HB1:=hid (B0.out.trans (hb1.mono B0.out.size))
  have HC1:=hid (to_box hb1)
  obtain ⟨q0,q1,q2,q3⟩:=box_cells HC1.out
  clear hb1
  go_wp2_with fail
  refine (C2.out _ HB1.out).mono ?_
  rintro e w2 ⟨rfl,hb2⟩
  have HB2:=hid (HB1.out.trans (hb2.mono HB1.out.size))
  have HZ1:Hid (w.heap.size+1≤w1.heap.size):=by show _≤_;have:=HC1.out.size;simpa using this
  have HC2:=hid (HC1.out.trans (hb2.mono HZ1.out))
  clear q0 q1 q2 q3 hb2
  obtain ⟨q0,q1,q2,q3⟩:=box_cells HC2.out
  by_cases hd8:8<dep x
  ·
   have hd8':decide (8<dep x)=true:=decide_eq_true hd8
   have hd8i:decide ((8:Int)<(dep x:Int))=true:=decide_eq_true (by omega)
   have he:enc x=([],32):=by unfold enc;rw [if_neg (by rw [HR.out];decide),if_pos (.inl hd8)]
   have h1:=HE1.out
   have h2:=HE2.out
   rw [he] at h1 h2
   subst h1 h2
   clear he
   go_wp2_with fail
   go_ret2
   exact ⟨_,rfl,Ob.nil_ _ _ _,HB2.out⟩
  ·
   have hd8':decide (8<dep x)=false:=decide_eq_false hd8
   have hd8i:decide ((8:Int)<(dep x:Int))=false:=decide_eq_false (by omega)
   go_wp2_with fail
   refine (C3.out _ HB2.out).mono ?_
   rintro e w3 ⟨rfl,hb3⟩
   have HB3:=hid (HB2.out.trans (hb3.mono HB2.out.size))
   have HZ2:Hid (w.heap.size+1≤w2.heap.size):=by show _≤_;have:=HC2.out.size;simpa using this
   have HC3:=hid (HC2.out.trans (hb3.mono HZ2.out))
   clear q0 q1 q2 q3 hb3
   obtain ⟨q0,q1,q2,q3⟩:=box_cells HC3.out
   by_cases hp4:4096<par x
   ·
    have he:enc x=([],32):=by unfold enc;rw [if_neg (by rw [HR.out];decide),if_pos (.inr hp4)]
    have h1:=HE1.out
    have h2:=HE2.out
    rw [he] at h1 h2
    subst h1 h2
    clear he
    go_wp2_with fail
    go_ret2
    exact ⟨_,rfl,Ob.nil_ _ _ _,HB3.out⟩
   ·
    have hf:Fits x:=⟨HR.out,by omega,by omega⟩
    have he:=enc_ok hf
    have h1:=HE1.out
    have h2:=HE2.out
    rw [he] at h1 h2
    have HL:=hid (HLEN.out hf)
    have H1:=hid h1
    subst h2
    clear he hf h1
    go_wp2_with fail
    refine (C4.out _ HB3.out HR.out HL.out).mono ?_
    rintro e w4 ⟨v,rfl,ho,hb4⟩
    rw [← H1.out] at ho
    have HO:=hid (ho.weak HB3.out.size)
    have HB4:=hid (HB3.out.trans (hb4.mono HB3.out.size))
    clear ho hb4 q0 q1 q2 q3
    go_wp2_with fail
    go_ret2
    exact ⟨_,rfl,HO.out,HB4.out⟩
theorem Below.drew_ {B:Nat} {w:World}:Below B w w.drew:=(Below.refl B w).drew
def GivesI (x:Itm) (w:World) (e:Ending) (w':World):Prop:=∃ v,e=.returned v∧RdI w' w'.heap.size v x∧Below w.heap.size w w'
theorem RdI.mk_uint {w:World} {B n:Nat} (hn:n<18446744073709551616):RdI w B (.agg #[.int .i64 0,.int .u64 (n:Int),.slice none 0 0,.slice none 0 0]) (.mk 0 n [] []):=by
 rw [RdI]
 exact ⟨none,0,0,none,0,0,rfl,by decide,hn,⟨Nat.le_refl _,by decide⟩,Rd.nil_,⟨Nat.le_refl _,by decide⟩,rfl,fun h=>absurd h (Nat.lt_irrefl _)⟩
theorem RdI.mk_data {w:World} {B nd cd:Nat} {A:Option Addr} {d:List UInt8} {k:Int} (hk:(Lit.int .i64 k).wf=true) (hc:nd≤cd) (hc2:nd≤140737488355328) (h:Rd w B A nd d):RdI w B (.agg #[.int .i64 k,.int .u64 0,.slice A nd cd,.slice none 0 0]) (.mk k 0 d []):=by
 rw [RdI]
 exact ⟨A,nd,cd,none,0,0,rfl,hk,by decide,⟨hc,hc2⟩,h,⟨Nat.le_refl _,by decide⟩,rfl,fun h=>absurd h (Nat.lt_irrefl _)⟩
theorem zero_cells {w W':World} (h:Below (w.heap.size+1) (w.alloc (.cells #[.int .i64 0,.int .u64 0,.slice none 0 0,.slice none 0 0] 30)) W') :
  (W'.cell? ⟨w.heap.size,0,none⟩=some (.int .i64 0)∧W'.cell? ⟨w.heap.size,1,none⟩=some (.int .u64 0)∧W'.cell? ⟨w.heap.size,2,none⟩=some (.slice none 0 0)∧W'.cell? ⟨w.heap.size,3,none⟩=some (.slice none 0 0)) ∧
  (W'.frozen? ⟨w.heap.size,0,none⟩=false∧W'.frozen? ⟨w.heap.size,1,none⟩=false∧W'.frozen? ⟨w.heap.size,2,none⟩=false∧W'.frozen? ⟨w.heap.size,3,none⟩=false) :=
 ⟨box_cells h,(h.frozen (p:=⟨w.heap.size,0,none⟩) (Nat.lt_succ_self _)).trans (by simp),(h.frozen (p:=⟨w.heap.size,1,none⟩) (Nat.lt_succ_self _)).trans (by simp),(h.frozen (p:=⟨w.heap.size,2,none⟩) (Nat.lt_succ_self _)).trans (by simp),(h.frozen (p:=⟨w.heap.size,3,none⟩) (Nat.lt_succ_self _)).trans (by simp)⟩
theorem Rd.set4 {W':World} {B n:Nat} {A:Option Addr} {l:List UInt8} {g:Nat} {u0 u1 u2 u3:Value} (h:Rd W' B A n l) (hA:0<n→∀ b o,A=some ⟨b,o,none⟩→b≠g) :
  Rd ((((W'.setCell ⟨g,0,none⟩ u0).setCell ⟨g,1,none⟩ u1).setCell ⟨g,2,none⟩ u2).setCell ⟨g,3,none⟩ u3) B A n l :=
 ⟨h.1,fun hn=>by
  obtain ⟨b,o,e,hb,hc⟩:=h.2 hn
  have hne:=hA hn b o e
  refine ⟨b,o,e,hb,fun i hi=>?_⟩
  rw [World.cell?_setCell_far _ _ _ _ (fun h=>hne h.symm),World.cell?_setCell_far _ _ _ _ (fun h=>hne h.symm),World.cell?_setCell_far _ _ _ _ (fun h=>hne h.symm),World.cell?_setCell_far _ _ _ _ (fun h=>hne h.symm)]
  exact hc i hi⟩
theorem below_set4 {B g:Nat} {w W':World} {u0 u1 u2 u3:Value} (h:Below B w W') (hg:B≤g):Below B w ((((W'.setCell ⟨g,0,none⟩ u0).setCell ⟨g,1,none⟩ u1).setCell ⟨g,2,none⟩ u2).setCell ⟨g,3,none⟩ u3) :=
 (((h.setCell (p:=⟨g,0,none⟩) hg _).setCell (p:=⟨g,1,none⟩) hg _).setCell (p:=⟨g,2,none⟩) hg _).setCell (p:=⟨g,3,none⟩) hg _
theorem rbytes_any (A:Option Addr) (n c B:Nat) (l:List UInt8) (w:World) (hB:B≤w.heap.size) (h:Rd w B A n l) (hn:n≤140737488355328) :
  Calls Tryz.prog 80 #[.slice A n c] w (GivesI (.mk 2 0 l []) w):=by
 have HR:=hid ((h.alloc hB (.cells #[.int .i64 0,.int .u64 0,.slice none 0 0,.slice none 0 0] 30)).alloc (Nat.le_trans hB (le_alloc _ _)) (.cells #[] 5))
 have HO:=hid (show Ob ((w.alloc (.cells #[.int .i64 0,.int .u64 0,.slice none 0 0,.slice none 0 0] 30)).alloc (.cells #[] 5)) (w.heap.size+1) 5 (.slice (some ⟨w.heap.size+1,0,none⟩) 0 0) [] by
  have h:=Ob.lit (base:=w.heap.size+1) (t:=5) (w.alloc (.cells #[.int .i64 0,.int .u64 0,.slice none 0 0,.slice none 0 0] 30)) [] #[] rfl (by simp) 0 rfl (by decide)
  simpa using h)
 have HN:Hid (([]:List UInt8).length+n≤140737488355328):=by show _≤_;simp;exact hn
 have hl:=h.1
 have HLN:=hid hl
 clear h hn hl hB
 go_enter Tryz.func80,Tryz.ntmps80
 go_wp2_with (first
  | (at_builtin;refine wpList_appB rfl (.tmp 3) (.tmp 4) 27 rfl (w.heap.size+1) 5 Tryz.underlying27 info_u8 _ [] rfl HO.out B A n c l rfl HR.out HN.out (by simp) ?_;intro v1 w1 ho1 hb1;have O1:=hid ho1;have B1:=hid (((Below.refl (w.heap.size+1) (w.alloc (.cells #[.int .i64 0,.int .u64 0,.slice none 0 0,.slice none 0 0] 30))).alloc (by simp) _).trans hb1);obtain ⟨⟨z0,z1,z2,z3⟩,f0,f1,f2,f3⟩:=zero_cells B1.out;have ho2:=O1.out;rw [List.nil_append] at ho2;obtain ⟨A2,c2,rfl,hc2,hm2,hr2⟩:=ho2.rdn HLN.out;have HR2:=hid hr2;have HO2:=hid ho2;clear ho1 hb1 hr2 ho2)
  | fail)
 refine bodyPost_ret (v:=.agg #[.int .i64 2,.int .u64 0,.slice A2 n c2,.slice none 0 0]) (by simp [results,Tryz.results80,go_sem,z0,z1,z2,z3]) rfl ⟨_,rfl,RdI.mk_data (by decide) hc2 (by have:=HN.out;simpa using this) ?_,?_⟩
 ·
  refine Rd.set4 (HR2.out.more (by simp [World.setCell])) (fun hn b o h=>?_)
  obtain ⟨g,cap,hv,hg,_,_⟩:=HO2.out.form (by rw [HLN.out];exact hn)
  subst h
  cases hv
  omega
 ·
  exact below_set4 (((Below.refl _ _).alloc nlr _).trans (B1.out.mono (Nat.le_succ _))) nlr
open Go.Lib (decDigits)
structure Epd where
 scheme:Int
 name:List UInt8
 node:Nat
 service:Nat
def letterB (c:UInt8):Bool:=(decide (97≤c.toNat)&&decide (c.toNat≤122))||((decide (48≤c.toNat)&&decide (c.toNat≤57))||(c==46||(c==45||c==95)))
def lsB (c:UInt8):Bool:=c==47||letterB c
def toSlash (s:List UInt8):Nat:=(s.takeWhile fun c=>c != 47).length
def nameB (s:List UInt8):Bool :=
 decide (s.length≤64)&&(match s with
  | a::b::r=>(a==47&&b==47)&&(r.all lsB&&(decide (1≤toSlash r)&&decide (toSlash r<r.length)))
  | _=>false)
def third (s:List UInt8):Nat:=2+toSlash (s.drop 2)
def noneB (e:Epd):Bool:=e.scheme==1&&(e.name.isEmpty&&(e.node==0&&e.service==0))
def checkB (e:Epd):Bool :=
 if e.scheme=1 then (e.node==0&&e.service==0)&&(e.name.isEmpty||nameB e.name)
 else e.scheme==2&&(e.name.isEmpty&&(decide (0<e.node)&&(decide (e.node≤4294967295)&&decide (e.service≤4294967295))))
def dtnL:List UInt8:=[100,116,110,58]
def ipnL:List UInt8:=[105,112,110,58]
def noneL:List UInt8:=[110,111,110,101]
def textE (e:Epd):List UInt8 :=
 if checkB e=false then [] else if e.scheme=2 then ipnL++(decDigits e.node++(46::decDigits e.service)) else if e.name=[] then dtnL++noneL else dtnL++e.name
def itemE (e:Epd):Itm :=
 .mk 4 0 [] [.mk 0 e.scheme.toNat [] [],if e.scheme=2 then .mk 4 0 [] [.mk 0 e.node [] [],.mk 0 e.service [] []] else if e.name=[] then .mk 0 0 [] [] else .mk 3 0 e.name []]
theorem check_dtn {e:Epd} (h:checkB e=true) (h1:e.scheme=1):e.node=0∧e.service=0∧(e.name=[]∨nameB e.name=true):=by
 unfold checkB at h
 rw [if_pos h1] at h
 simp only [Bool.and_eq_true,Bool.or_eq_true,beq_iff_eq,List.isEmpty_iff] at h
 exact ⟨h.1.1,h.1.2,h.2⟩
theorem check_ipn {e:Epd} (h:checkB e=true) (h1:e.scheme≠1):e.scheme=2∧e.name=[]∧0<e.node∧e.node≤4294967295∧e.service≤4294967295:=by
 unfold checkB at h
 rw [if_neg h1] at h
 simp only [Bool.and_eq_true,beq_iff_eq,List.isEmpty_iff,decide_eq_true_eq] at h
 exact ⟨h.1,h.2.1,h.2.2.1,h.2.2.2.1,h.2.2.2.2⟩
theorem name_head {s:List UInt8} (h:nameB s=true):∃ r,s=47::47::r∧r.all lsB=true∧1≤toSlash r∧toSlash r<r.length∧s.length≤64:=by
 unfold nameB at h
 match s,h with
 | [],h=>simp at h
 | [_],h=>simp at h
 | a::b::r,h =>
  simp only [Bool.and_eq_true,beq_iff_eq,decide_eq_true_eq] at h
  obtain ⟨h1,⟨rfl,rfl⟩,h2,h3,h4⟩:=h
  exact ⟨r,rfl,h2,h3,h4,h1⟩
theorem epd_ext {a b:Epd} (h1:a.scheme=b.scheme) (h2:a.name=b.name) (h3:a.node=b.node) (h4:a.service=b.service):a=b:=by
 cases a;cases b;simp_all
theorem textE_ipn {e:Epd} (h:checkB e=true) (h2:e.scheme=2):textE e=ipnL++(decDigits e.node++(46::decDigits e.service)):=by
 unfold textE
 rw [if_neg (by rw [h];decide),if_pos h2]
theorem textE_none {e:Epd} (h:checkB e=true) (h1:e.scheme=1) (hn:e.name=[]):textE e=dtnL++noneL:=by
 unfold textE
 rw [if_neg (by rw [h];decide),if_neg (by omega),if_pos hn]
theorem textE_dtn {e:Epd} (h:checkB e=true) (h1:e.scheme=1) (hn:e.name≠[]):textE e=dtnL++e.name:=by
 unfold textE
 rw [if_neg (by rw [h];decide),if_neg (by omega),if_neg hn]
theorem item_inj {a b:Epd} (ha:checkB a=true) (hb:checkB b=true) (h:itemE a=itemE b):a=b:=by
 unfold itemE at h
 simp only [Itm.mk.injEq,List.cons.injEq,and_true,true_and] at h
 obtain ⟨h1,h2⟩:=h
 by_cases a1:a.scheme=1
 ·
  obtain ⟨an,ac,am⟩:=check_dtn ha a1
  by_cases b1:b.scheme=1
  ·
   obtain ⟨bn,bs,bm⟩:=check_dtn hb b1
   have na:¬ a.scheme=2:=by omega
   have nb:¬ b.scheme=2:=by omega
   rw [if_neg na,if_neg nb] at h2
   refine epd_ext (a1.trans b1.symm) ?_ (an.trans bn.symm) (ac.trans bs.symm)
   by_cases a0:a.name=[]
   ·
    by_cases b0:b.name=[]
    ·
     rw [a0,b0]
    ·
     rw [if_pos a0,if_neg b0] at h2;simp at h2
   ·
    by_cases b0:b.name=[]
    ·
     rw [if_neg a0,if_pos b0] at h2;simp at h2
    ·
     rw [if_neg a0,if_neg b0] at h2;simpa using h2
  ·
   obtain ⟨b2,_⟩:=check_ipn hb b1
   rw [a1,b2] at h1;simp at h1
 ·
  obtain ⟨a2,an,_⟩:=check_ipn ha a1
  by_cases b1:b.scheme=1
  ·
   rw [a2,b1] at h1;simp at h1
  ·
   obtain ⟨b2,bn,_⟩:=check_ipn hb b1
   rw [if_pos a2,if_pos b2] at h2
   simp at h2
   exact epd_ext (a2.trans b2.symm) (an.trans bn.symm) h2.1 h2.2
open Go.Lib (decDigits)
theorem bclone_any (A:Option Addr) (n c B:Nat) (l:List UInt8) (w:World) (hB:B≤w.heap.size) (h:Rd w B A n l) (hn:n≤140737488355328) :
  Calls Tryz.prog 104 #[.slice A n c] w (GivesO 5 l w):=by
 have hl:=h.1
 rcases A with _|a
 ·
  have h0:n=0:=by
   rcases Nat.eq_zero_or_pos n with h0|h0
   ·
    exact h0
   ·
    obtain ⟨_,_,e,_⟩:=h.2 h0
    cases e
  subst h0
  have e:l=[]:=List.eq_nil_of_length_eq_zero hl
  subst e
  have q22:=fun (W:World) (a:Option Addr) (n c:Nat)=>Lib.run_eql_slice_nil (P:=Tryz.prog) W 27 5 a n c 0 0 Tryz.underlying27
  go_enter Tryz.func104,Tryz.ntmps104
  go_wp2_with fail
  go_ret
  exact ⟨_,rfl,Ob.nil_ _ _ _,Below.refl _ _⟩
 ·
  have HR:=hid (h.alloc hB (.cells #[] 5))
  have HO:=hid (show Ob (w.alloc (.cells #[] 5)) w.heap.size 5 (.slice (some ⟨w.heap.size,0,none⟩) 0 0) [] from Ob.lit w [] #[] rfl nlr 0 rfl (by decide))
  have HN:Hid (([]:List UInt8).length+n≤140737488355328):=by show _≤_;simp;exact hn
  clear h hn hl hB
  have q22:=fun (W:World) (a:Option Addr) (n c:Nat)=>Lib.run_eql_slice_nil (P:=Tryz.prog) W 27 5 a n c 0 0 Tryz.underlying27
  go_enter Tryz.func104,Tryz.ntmps104
  go_wp2_with (first
   | (at_builtin;refine wpList_appB rfl (.tmp 5) (.tmp 6) 27 rfl w.heap.size 5 Tryz.underlying27 info_u8 _ [] rfl HO.out B (some a) n c l rfl HR.out HN.out (by simp) ?_;intro v1 w1 ho1 hb1;have O1:=hid ho1;have B1:=hid (((Below.refl w.heap.size w).alloc nlr _).trans hb1);clear ho1 hb1)
   | fail)
  go_ret
  exact ⟨_,rfl,by have:=O1.out;rwa [List.nil_append] at this,B1.out⟩
theorem cuint_any (n:Nat) (w:World) (h:n<18446744073709551616) :
  Calls Tryz.prog 115 #[.int .u64 (n:Int)] w (GivesI (.mk 0 n [] []) w):=by
 go_enter Tryz.func115,Tryz.ntmps115
 go_wp2_with fail
 have hr:=fun W B=>RdI.mk_uint (w:=W) (B:=B) (n:=n) h
 exact bodyPost_ret (v:=.agg #[.int .i64 0,.int .u64 (n:Int),.slice none 0 0,.slice none 0 0]) (by simp [results,Tryz.results115,go_sem]) rfl ⟨_,rfl,hr _ _,(Below.refl _ _).alloc nlr _⟩
end Go.Proofs.YtlecbblmaadpiaaGreatDoor
/- In the place of EidA where the whole of layer 3 lies in the dump (imports alone). -/
/- The reader of layer 3: its state in memory, and what its small calls return. The reader of layer 3: take, and what reads items without a list. -/
namespace Go.Proofs.YtlecbblmaadpiaaGreatDoor
set_option maxRecDepth 100000
set_option maxHeartbeats 16000000
open Go.RowKit
open Go.Lib (hid)
structure RSt (w:World) (g:Nat) (A:Option Addr) (n c:Nat) (bs:List UInt8) (i p d:Nat):Prop where
 c0:w.cell? ⟨g,0,none⟩=some (.slice A n c)
 c1:w.cell? ⟨g,1,none⟩=some (.int .i64 (i:Int))
 c2:w.cell? ⟨g,2,none⟩=some (.int .i64 (p:Int))
 c3:w.cell? ⟨g,3,none⟩=some (.int .i64 (d:Int))
 f1:w.frozen? ⟨g,1,none⟩=false
 f2:w.frozen? ⟨g,2,none⟩=false
 f3:w.frozen? ⟨g,3,none⟩=false
 rd:Rd w g A n bs
 hi:i≤n
 hn:n≤140737488355328
 hc:n≤c
section
variable {w w':World} {g n c i p d:Nat} {A:Option Addr} {bs:List UInt8}
theorem RSt.lt (h:RSt w g A n c bs i p d):g<w.heap.size:=World.block_lt_of_cell? w ⟨g,0,none⟩ h.c0
theorem RSt.below {B:Nat} (h:RSt w g A n c bs i p d) (hb:Below B w w') (hg:g<B):RSt w' g A n c bs i p d :=
 ⟨(hb.cell (p:=⟨g,0,none⟩) hg).trans h.c0,(hb.cell (p:=⟨g,1,none⟩) hg).trans h.c1,(hb.cell (p:=⟨g,2,none⟩) hg).trans h.c2,(hb.cell (p:=⟨g,3,none⟩) hg).trans h.c3,
  (hb.frozen (p:=⟨g,1,none⟩) hg).trans h.f1,(hb.frozen (p:=⟨g,2,none⟩) hg).trans h.f2,(hb.frozen (p:=⟨g,3,none⟩) hg).trans h.f3,h.rd.keep fun _ hq=>hb.cell (Nat.lt_trans hq hg),h.hi,h.hn,h.hc⟩
theorem RSt.alloc (h:RSt w g A n c bs i p d) (o:Obj):RSt (w.alloc o) g A n c bs i p d:=h.below ((Below.refl _ _).alloc nlr o) h.lt
theorem RSt.drew (h:RSt w g A n c bs i p d):RSt w.drew g A n c bs i p d:=⟨h.c0,h.c1,h.c2,h.c3,h.f1,h.f2,h.f3,h.rd,h.hi,h.hn,h.hc⟩
theorem cell_set_ne {w:World} {g j k:Nat} {v u:Value} (h:j≠k) (hc:w.cell? ⟨g,k,none⟩=some u):(w.setCell ⟨g,j,none⟩ v).cell? ⟨g,k,none⟩=some u:=by
 rw [World.cell?_setCell_other _ _ _ _ (fun e=>by injection e with _ e2;exact h e2)]
 exact hc
theorem Rd.setg {v:Value} {j:Nat} (h:Rd w g A n bs):Rd (w.setCell ⟨g,j,none⟩ v) g A n bs :=
 h.keep fun q hq=>World.cell?_setCell_far _ _ _ _ (by show g≠q.block;omega)
theorem RSt.set1 (h:RSt w g A n c bs i p d) {z:Int} (i':Nat) (hz:z=(i':Int)) (hi:i'≤n):RSt (w.setCell ⟨g,1,none⟩ (.int .i64 z)) g A n c bs i' p d:=by
 subst hz
 exact ⟨cell_set_ne (by decide) h.c0,World.cell?_setCell_same _ _ _ h.c1,cell_set_ne (by decide) h.c2,cell_set_ne (by decide) h.c3,by simpa using h.f1,by simpa using h.f2,by simpa using h.f3,h.rd.setg,hi,h.hn,h.hc⟩
theorem RSt.set2 (h:RSt w g A n c bs i p d) {z:Int} (p':Nat) (hz:z=(p':Int)):RSt (w.setCell ⟨g,2,none⟩ (.int .i64 z)) g A n c bs i p' d:=by
 subst hz
 exact ⟨cell_set_ne (by decide) h.c0,cell_set_ne (by decide) h.c1,World.cell?_setCell_same _ _ _ h.c2,cell_set_ne (by decide) h.c3,by simpa using h.f1,by simpa using h.f2,by simpa using h.f3,h.rd.setg,h.hi,h.hn,h.hc⟩
theorem RSt.set3 (h:RSt w g A n c bs i p d) {z:Int} (d':Nat) (hz:z=(d':Int)):RSt (w.setCell ⟨g,3,none⟩ (.int .i64 z)) g A n c bs i p d':=by
 subst hz
 exact ⟨cell_set_ne (by decide) h.c0,cell_set_ne (by decide) h.c1,cell_set_ne (by decide) h.c2,World.cell?_setCell_same _ _ _ h.c3,by simpa using h.f1,by simpa using h.f2,by simpa using h.f3,h.rd.setg,h.hi,h.hn,h.hc⟩
theorem RSt.byte (h:RSt w g A n c bs i p d) (hl:i<n):∃ (b o:Nat) (x:UInt8),A=some ⟨b,o,none⟩∧w.cell? ⟨b,o+i,none⟩=some (.int .u8 (x.toNat:Int))∧bs.drop i=x::bs.drop (i+1)∧b<g:=by
 obtain ⟨b,o,e,hb,hc⟩:=h.rd.2 (by omega)
 have hlen:=h.rd.1
 refine ⟨b,o,bs.getD i 0,e,hc i hl,?_,hb⟩
 rw [List.drop_eq_getElem_cons (by omega)]
 simp [List.getD,show i<bs.length by omega]
end
theorem below_drewN (B:Nat) (w:World) (k:Nat):Below B w (w.drewN k):=⟨rfl,rfl,rfl,Nat.le_refl _,fun _ _=>rfl⟩
theorem left_q {w:World} {g n c i p d:Nat} {A:Option Addr} {bs:List UInt8} (h:RSt w g A n c bs i p d) :
  Calls Tryz.prog 222 #[.pointer (some ⟨g,0,none⟩)] w fun e w'=>e=.returned (.int .u64 ((n - i:Nat):Int))∧∃ m,w'=w.drewN m:=by
 have g0:=h.c0
 have g1:=h.c1
 have hi:=h.hi
 have hn:=h.hn
 clear h
 have e:(n:Int) - (i:Int)=((n - i:Nat):Int):=by omega
 go_enter Tryz.func222,Tryz.ntmps222
 go_wp2_with fail
 go_quiet (fail)
 go_wp2_with fail
 go_ret
 exact ⟨rfl,nq,rfl⟩
theorem left_any {w:World} {g n c i p d:Nat} {A:Option Addr} {bs:List UInt8} (h:RSt w g A n c bs i p d) :
  Calls Tryz.prog 222 #[.pointer (some ⟨g,0,none⟩)] w fun e w'=>e=.returned (.int .u64 ((n - i:Nat):Int))∧Below w.heap.size w w' :=
 (left_q h).mono fun _ _ ⟨h1,_,h2⟩=>⟨h1,h2▸below_drewN _ _ _⟩
theorem RSt.drewN {w:World} {g n c i p d:Nat} {A:Option Addr} {bs:List UInt8} (h:RSt w g A n c bs i p d) (k:Nat):RSt (w.drewN k) g A n c bs i p d:=h.below (below_drewN _ _ _) h.lt
theorem and31 (X:Nat) (hx:X<256):bits BinOp.and IntKind.u8 (X:Int) 31=((X % 32:Nat):Int):=by
 have h:=u8_and_nat X 31 hx (by decide)
 rw [show X &&& 31=X % 32 from Nat.and_two_pow_sub_one_eq_mod X 5] at h
 exact h
theorem begins_any (x:UInt8) (w:World) :
  Calls Tryz.prog 199 #[.int .u8 (x.toNat:Int)] w fun e w'=>e=.returned (.bool (arrB x))∧w=w':=by
 have hx:=x.toNat_lt
 have ha:arrB x=decide (x.toNat=159∨(x.toNat / 32=4∧x.toNat % 32≤27)):=by
  unfold arrB
  have e:(x==159)=decide (x.toNat=159):=by
   by_cases h:x=159
   ·
    subst h;rfl
   ·
    have:x.toNat≠159:=fun e=>h (UInt8.toNat_inj.1 e)
    simp [h,this]
  rw [e]
  have e2:(x.toNat / 32==4)=decide (x.toNat / 32=4):=by by_cases h:x.toNat / 32=4 <;> simp [h]
  rw [e2]
  simp [Bool.decide_or,Bool.decide_and]
 obtain ⟨R,hR⟩:∃ q,q=arrB x:=⟨_,rfl⟩
 rw [← hR]
 rw [ha] at hR
 generalize x.toNat=X at *
 have HR:=hid hR
 clear ha hR
 have hb:=and31 X hx
 by_cases hk:X / 32=4
 ·
  have hk2:((X:Int) / 32 != 4)=false:=by simp;omega
  by_cases hl:X % 32≤27
  ·
   have hl2:(X:Int) % 32≤27:=by omega
   go_enter Tryz.func199,Tryz.ntmps199
   go_wp2_with fail
   go_ret
   exact ⟨by show Ending.returned (.bool true)=_;rw [HR.out];simp;omega,rfl⟩
  ·
   have hl2:27<(X:Int) % 32:=by omega
   go_enter Tryz.func199,Tryz.ntmps199
   go_wp2_with fail
   go_ret
   refine ⟨?_,rfl⟩
   show Ending.returned (.bool ((X:Int)==159))=_
   rw [HR.out]
   by_cases h9:X=159
   ·
    subst h9;rfl
   ·
    rw [beq_eq_false_iff_ne.2 (by omega),decide_eq_false (by omega)]
 ·
  have hk2:((X:Int) / 32 != 4)=true:=by simp;omega
  go_enter Tryz.func199,Tryz.ntmps199
  go_wp2_with fail
  go_ret
  exact ⟨by show Ending.returned (.bool false)=_;rw [HR.out];simp;omega,rfl⟩
def behV (x:UInt8) (g:Nat):Value :=
 if 27<x.toNat % 32 then .nilFunc else if x.toNat / 32=0 then .func (.func 223) #[.pointer (some ⟨g,0,none⟩)] #[] else if x.toNat / 32=2 then .func (.func 224) #[.pointer (some ⟨g,0,none⟩)] #[]
 else if x.toNat / 32=3 then .func (.func 225) #[.pointer (some ⟨g,0,none⟩)] #[] else if x.toNat / 32=4 then .func (.func 226) #[.pointer (some ⟨g,0,none⟩)] #[] else .nilFunc
theorem behind_any (x:UInt8) (g:Nat) (w:World) :
  Calls Tryz.prog 201 #[.pointer (some ⟨g,0,none⟩),.int .u8 (x.toNat:Int)] w fun e w'=>e=.returned (behV x g)∧w=w':=by
 have hx:=x.toNat_lt
 unfold behV
 generalize x.toNat=X at *
 have hb:=and31 X hx
 have hmf:∀ (fn:Fn) (first cap:Array Value) (w:World),(Instr.makeFunc fn first cap).run Tryz.prog w=.ok (.func fn first cap) w:=fun _ _ _ _=>rfl
 by_cases hl:27<X % 32
 ·
  rw [if_pos hl]
  go_enter Tryz.func201,Tryz.ntmps201
  go_wp2_with fail
  go_ret
  exact ⟨rfl,rfl⟩
 rw [if_neg hl]
 by_cases h0:X / 32=0
 ·
  rw [if_pos h0]
  have k0:((X:Int) / 32==0)=true:=by simp;omega
  go_enter Tryz.func201,Tryz.ntmps201
  go_wp2_with fail
  go_ret
  exact ⟨rfl,rfl⟩
 rw [if_neg h0]
 have k0:((X:Int) / 32==0)=false:=by simp;omega
 by_cases h2:X / 32=2
 ·
  rw [if_pos h2]
  have k2:((X:Int) / 32==2)=true:=by simp;omega
  go_enter Tryz.func201,Tryz.ntmps201
  go_wp2_with fail
  go_ret
  exact ⟨rfl,rfl⟩
 rw [if_neg h2]
 have k2:((X:Int) / 32==2)=false:=by simp;omega
 by_cases h3:X / 32=3
 ·
  rw [if_pos h3]
  have k3:((X:Int) / 32==3)=true:=by simp;omega
  go_enter Tryz.func201,Tryz.ntmps201
  go_wp2_with fail
  go_ret
  exact ⟨rfl,rfl⟩
 rw [if_neg h3]
 have k3:((X:Int) / 32==3)=false:=by simp;omega
 by_cases h4:X / 32=4
 ·
  rw [if_pos h4]
  have k4:((X:Int) / 32==4)=true:=by simp;omega
  go_enter Tryz.func201,Tryz.ntmps201
  go_wp2_with fail
  go_ret
  exact ⟨rfl,rfl⟩
 rw [if_neg h4]
 have k4:((X:Int) / 32==4)=false:=by simp;omega
 go_enter Tryz.func201,Tryz.ntmps201
 go_wp2_with fail
 go_ret
 exact ⟨rfl,rfl⟩
theorem cut_3 {w:World} {B n i e:Nat} {A:Option Addr} {l:List UInt8} (c:Nat) (h:Rd w B A n l) (hi:i≤e) (he:e≤n) (hc:n≤c) (_hn:n≤140737488355328) :
  ∃ A',(∀ W:World,(Instr.slice 27 (.slice A n c) (some (.int .i64 (i:Int))) (some (.int .i64 (e:Int))) (some (.int .i64 (e:Int)))).run Tryz.prog W=.ok (.slice A' (e - i) (e - i)) W)∧Rd w B A' (e - i) ((l.drop i).take (e - i)):=by
 have hz:=size_u8
 have ht:=Tryz.underlying27
 have hl:=h.1
 by_cases hck:e=i
 ·
  subst hck
  refine ⟨A,fun W=>?_,?_⟩
  ·
   go_simp
   intro hh
   omega
  ·
   rw [Nat.sub_self,List.take_zero];exact Rd.nil_
 ·
  refine ⟨A.map (·.add i),fun W=>?_,h.cut.take (by omega)⟩
  go_simp
  intro hh
  omega
def noItem:Value:=.agg #[.int .i64 0,.int .u64 0,.slice none 0 0,.slice none 0 0]
def flt (z:Int):Value:=.iface 219 (.agg #[.int .i64 z])
def GivesR (g:Nat) (A:Option Addr) (n c:Nat) (bs:List UInt8) (d:Nat) (r:Except Int (Itm×Nat×List UInt8)) (w:World) (e:Ending) (w':World):Prop :=
 match r with
 | .error z=>e=.returned (.tuple #[noItem,flt z])∧Only g w w'
 | .ok (x,p',l')=>∃ v i',e=.returned (.tuple #[v,.nilIface])∧RdI (mask (lows w.heap.size) w') w'.heap.size v x∧RSt w' g A n c bs i' p' d∧bs.drop i'=l'∧Only g w w'
section
variable {w:World} {g n c i p d:Nat} {A:Option Addr} {bs:List UInt8}
theorem take_short (h:RSt w g A n c bs i p d) (k:Nat) (hk:n - i<k) :
  Calls Tryz.prog 227 #[.pointer (some ⟨g,0,none⟩),.int .u64 (k:Int)] w fun e w'=>e=.returned (.tuple #[.slice none 0 0,flt 30])∧Below w.heap.size w w':=by
 have C1:=hid (left_any h)
 clear h
 go_enter Tryz.func227,Tryz.ntmps227
 go_wp2_with fail
 refine C1.out.mono ?_
 rintro e w1 ⟨rfl,hb⟩
 have HB:=hid hb
 clear hb
 generalize n - i=m at *
 go_wp2_with fail
 go_ret2
 exact ⟨rfl,HB.out⟩
theorem take_ok (h:RSt w g A n c bs i p d) (k:Nat) (hk:k≤n - i) :
  Calls Tryz.prog 227 #[.pointer (some ⟨g,0,none⟩),.int .u64 (k:Int)] w fun e w'=>∃ A',e=.returned (.tuple #[.slice A' k k,.nilIface])∧Rd w' g A' k ((bs.drop i).take k)∧RSt w' g A n c bs (i+k) p d∧Only g w w':=by
 have C1:=hid (left_any h)
 have hi:=h.hi
 have hn:=h.hn
 obtain ⟨A',hrun,hrd⟩:=cut_3 c h.rd (Nat.le_add_right i k) (by omega) h.hc h.hn
 rw [Nat.add_sub_cancel_left] at hrun hrd
 have HRUN:=hid hrun
 have HRD:=hid hrd
 have HR:=hid h
 clear hrun hrd h
 go_enter Tryz.func227,Tryz.ntmps227
 go_wp2_with fail
 refine C1.out.mono ?_
 rintro e w1 ⟨rfl,hb⟩
 have HS:=hid (HR.out.below hb HR.out.lt)
 have HB:=hid hb
 have g0:=HS.out.c0
 have g1:=HS.out.c1
 have f1:=HS.out.f1
 have hrun:=HRUN.out
 have e1:((i:Int)+(k:Int))=((i+k:Nat):Int):=by omega
 have hki:(k:Int)≤((n - i:Nat):Int):=by omega
 clear hb
 rw [← e1] at hrun
 clear e1
 go_wp2_with fail
 go_quiet (fail)
 have g1':(w1.drewN nq).cell? ⟨g,1,none⟩=some (.int .i64 (i:Int)):=g1
 have f1':(w1.drewN nq).frozen? ⟨g,1,none⟩=false:=f1
 go_wp2_with fail
 go_ret2
 have hs:RSt (w1.drewN nq) g A n c bs i p d:=HS.out.below (below_drewN _ _ _) HS.out.lt
 exact ⟨A',rfl,(HRD.out.keep fun q hq=>(HB.out.mono (Nat.le_of_lt HR.out.lt)).cell hq).keep fun q hq=>by rw [World.cell?_setCell_far _ _ _ _ (by show g≠q.block;omega)];rfl,
  hs.set1 (i+k) (by omega) (by omega),((Only.of_below HB.out).trans (Only.of_below (below_drewN _ _ _))).setCell (by rfl) _⟩
def set4 (w:World) (b:Nat) (u0 u1 u2 u3:Value):World:=(((w.setCell ⟨b,0,none⟩ u0).setCell ⟨b,1,none⟩ u1).setCell ⟨b,2,none⟩ u2).setCell ⟨b,3,none⟩ u3
theorem set4_heap {b k:Nat} {u0 u1 u2 u3:Value} (h:k≠b):(set4 w b u0 u1 u2 u3).heap[k]?=w.heap[k]?:=by
 unfold set4
 rw [Below.heap_setCell _ _ _ _ h,Below.heap_setCell _ _ _ _ h,Below.heap_setCell _ _ _ _ h,Below.heap_setCell _ _ _ _ h]
theorem set4_size {b:Nat} {u0 u1 u2 u3:Value}:(set4 w b u0 u1 u2 u3).heap.size=w.heap.size:=by simp [set4,World.setCell]
theorem set4_below {w0:World} {B b:Nat} {u0 u1 u2 u3:Value} (h:Below B w0 w) (hb:B≤b):Below B w0 (set4 w b u0 u1 u2 u3):=below_set4 h hb
theorem set4_only {w0:World} {b:Nat} {u0 u1 u2 u3:Value} (h:Only g w0 w) (hb:w0.heap.size≤b):Only g w0 (set4 w b u0 u1 u2 u3) :=
 ⟨h.os,h.tape,h.output,by rw [set4_size];exact h.size,fun k hk hg=>(set4_heap (by omega)).trans (h.block k hk hg)⟩
theorem RSt.set4 {b:Nat} {u0 u1 u2 u3:Value} (h:RSt w g A n c bs i p d) (hb:g<b):RSt (set4 w b u0 u1 u2 u3) g A n c bs i p d :=
 h.below (B:=b) (set4_below (Below.refl _ _) nlr) hb
theorem RdI.fin {b lo lo':Nat} {u0 u1 u2 u3 v:Value} {x:Itm} {B:Nat} (h:RdI (mask (lows lo) w) B v x) (hB:B≤w.heap.size) (hb:b<lo) (hl:lo'≤lo):RdI (mask (lows lo') (Go.Proofs.YtlecbblmaadpiaaGreatDoor.set4 w b u0 u1 u2 u3)) (Go.Proofs.YtlecbblmaadpiaaGreatDoor.set4 w b u0 u1 u2 u3).heap.size v x :=
 h.mask_go (by rw [set4_size];exact hB) (fun k _ hk=>set4_heap (by have:=lows_f.1 hk;omega)) (fun k _ hk=>lows_f.2 (Nat.le_trans hl (lows_f.1 hk)))
theorem Ob.news {base m cp:Nat} {t:TypeId} {A:Option Addr} {l:List UInt8} (h:Ob w base t (.slice A m cp) l):Rd (mask (lows base) w) w.heap.size A m l:=by
 obtain ⟨hl,hr,hc,hm⟩:=h.rd_
 refine ⟨hl,fun h0=>?_⟩
 obtain ⟨gg,cap,hv,hb,hlt,_⟩:=h.form (by omega)
 injection hv with h1 h2 h3
 subst h1
 obtain ⟨b,o,e,hbb,hcell⟩:=hr.2 h0
 injection e with e
 injection e with e1 e2
 subst e1 e2
 exact ⟨gg,0,rfl,hlt,fun j hj=>(mask_cell (lows_f.2 hb)).trans (hcell j hj)⟩
theorem RdI.bare {w':World} {B B' m:Nat} {k:Int} {v:Value} (h:RdI w B v (.mk k m [] [])):RdI w' B' v (.mk k m [] []):=by
 rw [RdI] at h ⊢
 obtain ⟨A,nd,cd,AL,nl,cl,e,h1,h2,h3,h4,h5,h6,_⟩:=h
 have hd:nd=0:=h4.1.symm
 have hl:nl=0:=h6.symm
 subst hd hl
 exact ⟨A,0,cd,AL,0,cl,e,h1,h2,h3,Rd.nil_,h5,rfl,fun h=>absurd h (Nat.lt_irrefl _)⟩
theorem zero_only {W':World} (h:Only g (w.alloc (.cells #[.int .i64 0,.int .u64 0,.slice none 0 0,.slice none 0 0] 30)) W') (hg:g<w.heap.size) :
  (W'.cell? ⟨w.heap.size,0,none⟩=some (.int .i64 0)∧W'.cell? ⟨w.heap.size,1,none⟩=some (.int .u64 0)∧W'.cell? ⟨w.heap.size,2,none⟩=some (.slice none 0 0)∧W'.cell? ⟨w.heap.size,3,none⟩=some (.slice none 0 0)) ∧
  (W'.frozen? ⟨w.heap.size,0,none⟩=false∧W'.frozen? ⟨w.heap.size,1,none⟩=false∧W'.frozen? ⟨w.heap.size,2,none⟩=false∧W'.frozen? ⟨w.heap.size,3,none⟩=false):=by
 have hb:=h.block w.heap.size (by simp) (by omega)
 refine ⟨⟨?_,?_,?_,?_⟩,?_,?_,?_,?_⟩
 ·
  exact (World.cell?_of_block (w:=w.alloc (.cells #[.int .i64 0,.int .u64 0,.slice none 0 0,.slice none 0 0] 30)) (a:=⟨w.heap.size,0,none⟩) hb).trans (by simp)
 ·
  exact (World.cell?_of_block (w:=w.alloc (.cells #[.int .i64 0,.int .u64 0,.slice none 0 0,.slice none 0 0] 30)) (a:=⟨w.heap.size,1,none⟩) hb).trans (by simp)
 ·
  exact (World.cell?_of_block (w:=w.alloc (.cells #[.int .i64 0,.int .u64 0,.slice none 0 0,.slice none 0 0] 30)) (a:=⟨w.heap.size,2,none⟩) hb).trans (by simp)
 ·
  exact (World.cell?_of_block (w:=w.alloc (.cells #[.int .i64 0,.int .u64 0,.slice none 0 0,.slice none 0 0] 30)) (a:=⟨w.heap.size,3,none⟩) hb).trans (by simp)
 ·
  exact (World.frozen?_of_block (w:=w.alloc (.cells #[.int .i64 0,.int .u64 0,.slice none 0 0,.slice none 0 0] 30)) (a:=⟨w.heap.size,0,none⟩) hb).trans (by simp)
 ·
  exact (World.frozen?_of_block (w:=w.alloc (.cells #[.int .i64 0,.int .u64 0,.slice none 0 0,.slice none 0 0] 30)) (a:=⟨w.heap.size,1,none⟩) hb).trans (by simp)
 ·
  exact (World.frozen?_of_block (w:=w.alloc (.cells #[.int .i64 0,.int .u64 0,.slice none 0 0,.slice none 0 0] 30)) (a:=⟨w.heap.size,2,none⟩) hb).trans (by simp)
 ·
  exact (World.frozen?_of_block (w:=w.alloc (.cells #[.int .i64 0,.int .u64 0,.slice none 0 0,.slice none 0 0] 30)) (a:=⟨w.heap.size,3,none⟩) hb).trans (by simp)
theorem uint_any (h:RSt w g A n c bs i p d) (m:Nat) (hm:m<18446744073709551616) :
  Calls Tryz.prog 223 #[.pointer (some ⟨g,0,none⟩),.int .u64 (m:Int)] w (GivesR g A n c bs d (.ok (.mk 0 m [] [],p,bs.drop i)) w):=by
 have C1:=hid (fun W=>cuint_any m W hm)
 have HR:=hid h
 clear h
 go_enter Tryz.func223,Tryz.ntmps223
 go_wp2_with fail
 refine (C1.out _).mono ?_
 rintro e w1 ⟨v,rfl,hv,hb⟩
 obtain ⟨k1,n1,A1,nd1,cd1,AL1,nl1,cl1,rfl⟩:=hv.form
 have HV:=hid hv
 have hb':=to_box hb
 obtain ⟨⟨z0,z1,z2,z3⟩,f0,f1,f2,f3⟩:=zero_cells hb'
 have HB:=hid (((Below.refl w.heap.size w).alloc nlr _).trans (hb'.mono (Nat.le_succ _)))
 clear hv hb hb'
 go_wp2_with fail
 refine bodyPost_ret (v:=.tuple #[.agg #[.int .i64 k1,.int .u64 (n1:Int),.slice A1 nd1 cd1,.slice AL1 nl1 cl1],.nilIface]) (by simp [results,Tryz.results223,go_sem,z0,z1,z2,z3]) rfl ?_
 exact ⟨_,i,rfl,HV.out.bare,(HR.out.below HB.out HR.out.lt).set4 HR.out.lt,rfl,set4_only (Only.of_below HB.out) nlr⟩
end
def GivesL (lo:Nat) (x:Itm) (w:World) (e:Ending) (w':World):Prop:=∃ v,e=.returned v∧RdI (mask (lows lo) w') w'.heap.size v x∧Below w.heap.size w w'
theorem Rd.mask_one {w:World} {lo B n b o:Nat} {l:List UInt8} (h:Rd w B (some ⟨b,o,none⟩) n l) (hb:lo≤b):Rd (mask (lows lo) w) B (some ⟨b,o,none⟩) n l :=
 ⟨h.1,fun hn=>by
  obtain ⟨b',o',e,hB,hc⟩:=h.2 hn
  injection e with e
  injection e with e1 e2
  subst e1 e2
  exact ⟨b,o,rfl,hB,fun i hi=>(mask_cell (lows_f.2 hb)).trans (hc i hi)⟩⟩
theorem RdI.put4 {W:World} {B B' g lo lo':Nat} {v:Value} {x:Itm} {u0 u1 u2 u3:Value} (h:RdI (mask (lows lo) W) B v x) (hl:lo'≤lo) (hg:g<lo) (hB:B≤B') :
  RdI (mask (lows lo') ((((W.setCell ⟨g,0,none⟩ u0).setCell ⟨g,1,none⟩ u1).setCell ⟨g,2,none⟩ u2).setCell ⟨g,3,none⟩ u3)) B' v x :=
 h.sub hB fun q u _ hc=>by
  have h1:=lows_f.1 (mask_out hc)
  have hq:¬ g=q.block:=by omega
  rw [mask_cell (lows_f.2 (by omega)),World.cell?_setCell_far _ _ _ _ hq,World.cell?_setCell_far _ _ _ _ hq,World.cell?_setCell_far _ _ _ _ hq,World.cell?_setCell_far _ _ _ _ hq]
  exact mask_sub hc
theorem RdI.grow {W W':World} {lo lo':Nat} {v:Value} {x:Itm} (h:RdI (mask (lows lo) W) W.heap.size v x) (hb:Below W.heap.size W W') (hl:lo'≤lo):RdI (mask (lows lo') W') W'.heap.size v x :=
 h.sub hb.size fun q u hp hc=>by
  have h1:=lows_f.1 (mask_out hc)
  rw [mask_cell (lows_f.2 (by omega)),hb.cell hp]
  exact mask_sub hc
theorem size_put4 {W:World} {g:Nat} {u0 u1 u2 u3:Value}:((((W.setCell ⟨g,0,none⟩ u0).setCell ⟨g,1,none⟩ u1).setCell ⟨g,2,none⟩ u2).setCell ⟨g,3,none⟩ u3).heap.size=W.heap.size:=by simp [World.setCell]
theorem zero4 {w W':World} {g:Nat} (hg:g=w.heap.size) (h:Below (g+1) (w.alloc (.cells #[.int .i64 0,.int .u64 0,.slice none 0 0,.slice none 0 0] 30)) W') :
  (W'.cell? ⟨g,0,none⟩=some (.int .i64 0)∧W'.cell? ⟨g,1,none⟩=some (.int .u64 0)∧W'.cell? ⟨g,2,none⟩=some (.slice none 0 0)∧W'.cell? ⟨g,3,none⟩=some (.slice none 0 0)) ∧
  (W'.frozen? ⟨g,0,none⟩=false∧W'.frozen? ⟨g,1,none⟩=false∧W'.frozen? ⟨g,2,none⟩=false∧W'.frozen? ⟨g,3,none⟩=false):=by
 subst hg
 exact zero_cells h
theorem cuintL_any (lo n:Nat) (w:World) (h:n<18446744073709551616) :
  Calls Tryz.prog 115 #[.int .u64 (n:Int)] w (GivesL lo (.mk 0 n [] []) w):=by
 go_enter Tryz.func115,Tryz.ntmps115
 go_wp2_with fail
 have hr:=fun W B=>RdI.mk_uint (w:=W) (B:=B) (n:=n) h
 exact bodyPost_ret (v:=.agg #[.int .i64 0,.int .u64 (n:Int),.slice none 0 0,.slice none 0 0]) (by simp [results,Tryz.results115,go_sem]) rfl ⟨_,rfl,hr _ _,(Below.refl _ _).alloc nlr _⟩
theorem ctextL_any (lo:Nat) (s:ByteArray) (w:World) (hlo:lo≤w.heap.size) (hs:s.size≤140737488355328) :
  Calls Tryz.prog 150 #[.string s] w (GivesL lo (.mk 3 0 s.data.toList []) w):=by
 obtain ⟨c,W',hrun,hrd,hc,hb,hz⟩:=conv_bytes (w.alloc (.cells #[.int .i64 0,.int .u64 0,.slice none 0 0,.slice none 0 0] 30)) s
 have hz1:(w.alloc (.cells #[.int .i64 0,.int .u64 0,.slice none 0 0,.slice none 0 0] 30)).heap.size=w.heap.size+1:=by simp
 rw [hz1] at hrun hrd hb hz
 obtain ⟨⟨z0,z1,z2,z3⟩,f0,f1,f2,f3⟩:=zero_cells hb
 have HRD:=hid hrd
 have HB:=hid hb
 have HZ:=hid hz
 have HS:=hid hs
 have HLO:=hid hlo
 clear hrd hb hz hz1 hs hlo
 go_enter Tryz.func150,Tryz.ntmps150
 go_wp2_with fail
 have hsz4:((((W'.setCell ⟨w.heap.size,0,none⟩ (.int .i64 3)).setCell ⟨w.heap.size,1,none⟩ (.int .u64 0)).setCell ⟨w.heap.size,2,none⟩ (.slice (some ⟨w.heap.size+1,0,none⟩) s.size c)).setCell ⟨w.heap.size,3,none⟩ (.slice none 0 0)).heap.size=W'.heap.size:=by simp [World.setCell]
 refine bodyPost_ret (v:=.agg #[.int .i64 3,.int .u64 0,.slice (some ⟨w.heap.size+1,0,none⟩) s.size c,.slice none 0 0]) (by simp [results,Tryz.results150,go_sem,z0,z1,z2,z3]) rfl ⟨_,rfl,RdI.mk_data (by decide) hc HS.out (Rd.mask_one ?_ (Nat.le_trans HLO.out (Nat.le_succ _))),?_⟩
 ·
  rw [hsz4,HZ.out]
  exact HRD.out.set4 (fun _ b o h=>(by cases h;omega))
 ·
  exact below_set4 (((Below.refl _ _).alloc nlr _).trans (HB.out.mono (Nat.le_succ _))) nlr
end Go.Proofs.YtlecbblmaadpiaaGreatDoor
/- Chosen by shake.py of the texts of the layers below: what dec_any need. -/
section
namespace Go.Proofs.YtlecbblmaadpiaaGreatDoor
set_option maxRecDepth 100000
set_option maxHeartbeats 16000000
open Go.RowKit
open Go.Lib (hid)
def decRow (f:Nat) (suf:List UInt8):Nat→Value:=fun j=>if f≤j then .int .u8 ((suf.getD (j - f) 0).toNat:Int) else .int .u8 0
theorem dig10 (d:Nat) (h:d<16) (h10:d<10):Value.int .u8 (((⟨#[48,49,50,51,52,53,54,55,56,57,97,98,99,100,101,102]⟩:ByteArray)[d]'h).toNat:Int)=.int .u8 ((UInt8.ofNat (48+d)).toNat:Int):=by
 have:∀ d:Fin 10,(⟨#[48,49,50,51,52,53,54,55,56,57,97,98,99,100,101,102]⟩:ByteArray)[d.val]'(Nat.lt_of_lt_of_le d.isLt (by decide))=UInt8.ofNat (48+d.val):=by decide +kernel
 rw [this ⟨d,h10⟩]
theorem decRow_step (a f:Nat) (suf:List UInt8) (j:Nat) (hf:1≤f) (_hs:f≤20) (_hj:j<20) {h:a % 10<16} :
  (if j=f - 1 then Value.int .u8 (((⟨#[48,49,50,51,52,53,54,55,56,57,97,98,99,100,101,102]⟩:ByteArray)[a % 10]'h).toNat:Int) else decRow f suf j)=decRow (f - 1) (UInt8.ofNat (48+a % 10)::suf) j:=by
 rw [dig10 _ h (by omega)]
 unfold decRow
 by_cases e:j=f - 1
 ·
  subst e
  rw [if_pos rfl,if_pos nlr,Nat.sub_self]
  rfl
 ·
  rw [if_neg e]
  by_cases h2:f≤j
  ·
   rw [if_pos h2,if_pos (by omega),show j - (f - 1)=(j - f)+1 by omega]
   simp [List.getD]
  ·
   rw [if_neg h2,if_neg (by omega)]
theorem decRow_set {w:World} {b f:Nat} {t:TypeId} {suf:List UInt8} (hrow:w.rowIs b t 20 (decRow f suf)) (a:Nat) (hf:1≤f) (hf20:f≤20) (h:a % 10<16) :
  (w.setCell ⟨b,f - 1,none⟩ (Value.int .u8 (((⟨#[48,49,50,51,52,53,54,55,56,57,97,98,99,100,101,102]⟩:ByteArray)[a % 10]'h).toNat:Int))).rowIs b t 20 (decRow (f - 1) (UInt8.ofNat (48+a % 10)::suf)) :=
 (World.rowIs.set hrow (f - 1) _).congr fun j hj=>decRow_step a f suf j hf hf20 hj
theorem dec_any (x:Int) (w:World) (h0:0≤x) (h1:x<18446744073709551616) :
  Calls Tryz.prog 103 #[.int .u64 x] w fun e w'=>e=.returned (.string ⟨(Lib.decDigits x.toNat).toArray⟩)∧Below w.heap.size w w':=by
 go_enter Tryz.func103,Tryz.ntmps103
 go_wp2
 go_loopw [0,4] (fun v i wr=>∃ (a f:Nat) (suf:List UInt8),v=.int .u64 (a:Int)∧i=.int .i64 (f:Int)∧1≤f∧f≤20∧a<18446744073709551616∧Hid (a<10 ^ f)∧Hid (suf.length=20 - f) ∧
   Hid (Lib.decDigits x.toNat=Lib.decDigits a++suf)∧Hid (wr.rowIs w.heap.size 185 20 (decRow f suf))∧Hid (Below w.heap.size w wr))
  (fun _ i _=>(intOf i).toNat)
 case atStart =>
  refine ⟨x.toNat,20,[],by go_num,rfl,by omega,by omega,by omega,(by omega:x.toNat<100000000000000000000),rfl,by simp [Hid],?_,(Below.refl _ _).alloc nlr _⟩
  exact World.rowIs_alloc w _ _ _ (fun i hi=>by
   have hi':i<20:=hi
   have:∀ i,i<20→(#[Value.int IntKind.u8 0,Value.int IntKind.u8 0,Value.int IntKind.u8 0,Value.int IntKind.u8 0,Value.int IntKind.u8 0,Value.int IntKind.u8 0,Value.int IntKind.u8 0,Value.int IntKind.u8 0,Value.int IntKind.u8 0,Value.int IntKind.u8 0,Value.int IntKind.u8 0,Value.int IntKind.u8 0,Value.int IntKind.u8 0,Value.int IntKind.u8 0,Value.int IntKind.u8 0,Value.int IntKind.u8 0,Value.int IntKind.u8 0,Value.int IntKind.u8 0,Value.int IntKind.u8 0,Value.int IntKind.u8 0]:Array Value)[i]?=some (.int .u8 0) :=
    fun i hi=>by
     have h:(Array.replicate 20 (Value.int IntKind.u8 0))[i]?=some (.int .u8 0):=by simp [hi]
     exact h
   rw [this i hi']
   simp [decRow])
 case round =>
  obtain ⟨a,f,suf,rfl,rfl,hf,hf20,ha,hpow,hsuf,hdig,hrow,hbel⟩:=hrel
  have hf1:wr.frozen? ⟨w.heap.size,f - 1,none⟩=false:=World.rowIs.frozen hrow.out _
  have hc1:wr.cell? ⟨w.heap.size,f - 1,none⟩=some _:=World.rowIs.cell hrow.out (by omega)
  have hsl:=sliceAt_l (P:=Tryz.prog) 185 5 20 rfl rfl rfl size_u8 w.heap.size (f - 1) ((f:Int) - 1) (by omega) (by omega)
  by_cases hz:a<10
  ·
   have ht:((a:Int) / 10==0)=true:=by simp;omega
   have hd:∀ W:World,W.rowIs w.heap.size 185 20 (decRow (f - 1) (UInt8.ofNat (48+a % 10)::suf)) →
     (convert 27 9 (.slice (some ⟨w.heap.size,f - 1,none⟩) (20 - (f - 1)) (20 - (f - 1)))).run Tryz.prog W=.ok (.string ⟨(UInt8.ofNat (48+a % 10)::suf).toArray⟩) W:=fun W h =>
    run_str (rowIs_rd (B:=w.heap.size+1) h (by have:=hsuf.out;simp;omega) (by omega) (by omega) (fun i hi=>by unfold decRow;rw [if_pos (by omega),Nat.add_sub_cancel_left])) 27 5 9 rfl rfl rfl
   have hfin:(UInt8.ofNat (48+a % 10)::suf)=Lib.decDigits x.toNat:=by rw [hdig.out,Lib.decDigits,dif_pos hz,Nat.mod_eq_of_lt hz];rfl
   have HD:=Lib.hid hd
   have HF:=Lib.hid hfin
   clear hd hfin
   have hd:=HD.out _ (decRow_set hrow.out a hf hf20 (by omega))
   go_wp2_with fail
   go_ret
   exact ⟨by rw [← HF.out];simp,hbel.out.setCell (by simp) _⟩
  ·
   have ht:((a:Int) / 10==0)=false:=by simp;omega
   go_wp2_with fail
   go_roundw
   case rel =>
    have hp:=hpow.out
    have hs:=hsuf.out
    have hf2:2≤f:=by
     rcases Nat.lt_or_ge f 2 with h|h
     ·
      have:f=1:=by omega
      subst this
      simp at hp
      omega
     ·
      exact h
    refine ⟨a / 10,f - 1,UInt8.ofNat (48+a % 10)::suf,by go_num,by go_num,by omega,by omega,by omega,?_,by simp [Hid];omega,?_,decRow_set hrow.out a hf hf20 (by omega),hbel.out.setCell (by simp) _⟩
    ·
     have e:10 ^ f=10 ^ (f - 1)*10:=by rw [← Nat.pow_succ];congr 1;omega
     rw [e] at hp
     exact Nat.div_lt_of_lt_mul (by rw [Nat.mul_comm];exact hp)
    ·
     show Lib.decDigits x.toNat=_
     rw [hdig.out,Lib.decDigits,dif_neg hz]
     simp
   case measure=>simp [intOf];omega
end Go.Proofs.YtlecbblmaadpiaaGreatDoor
end
/- Text of the reference of layer 3. -/
namespace Go.Proofs.YtlecbblmaadpiaaGreatDoor
end Go.Proofs.YtlecbblmaadpiaaGreatDoor
