import Derived.Test.YtbnfkjkoinbkgaaGreatDoorVAbb
import Derived.Test.YtbnfkjkoinbkgaaGreatDoorVKHead
import Derived.Test.YtbnfkjkoinbkgaaGreatDoorVNumG
import Derived.Test.YtbnfkjkoinbkgaaGreatDoorVShaP
import Derived.Shelf.RegionOpenPlain
import Derived.Deep.DeepFit
import Derived.LaidEql
import Derived.Stop.Asserts
import Derived.Stop.IfaceNil
import Derived.RowKitTokens
import Derived.Deep.RegionHeld3
import Derived.Lib.IfaceEq
namespace Go.Proofs.YtbnfkjkoinbkgaaGreatDoor
set_option maxRecDepth 100000
set_option maxHeartbeats 16000000
open Go.RowKit
open Go.Lib (hid)
def Qbj(lo:Nat)(x:Itm)(w:World)(e:Ending)(w':World):Prop:=∃ v,e=.returned v∧RdI (Qap (Qax lo) w') w'.heap.size v x∧Below w.heap.size w w'
theorem Rd.mask_one{w:World}{lo B n b o:Nat}{l:LB}(h:Rd w B (some ⟨b,o,none⟩) n l)(hb:lo≤b):Rd (Qap (Qax lo) w) B (some ⟨b,o,none⟩) n l :=
 ⟨h.1,fun hn=>by
  obtain⟨b',o',e,hB,hc⟩:=h.2 hn;injection e with e
  injection e with e1 e2
  subst e1 e2;exact⟨b,o,rfl,hB,fun i hi=>(Qaq (Qaz.2 hb)).trans (hc i hi)⟩⟩
theorem RdI.put4{W:World}{B B' g lo lo':Nat}{v:Value}{x:Itm}{u0 u1 u2 u3:Value}(h:RdI (Qap (Qax lo) W) B v x)(hl:lo'≤lo)(hg:g<lo)(hB:B≤B') :
  RdI (Qap (Qax lo') ((((W.setCell ⟨g,0,none⟩ u0).setCell ⟨g,1,none⟩ u1).setCell ⟨g,2,none⟩ u2).setCell ⟨g,3,none⟩ u3)) B' v x :=
 h.sub hB fun q u _ hc=>by
  have h1:=Qaz.1 (Qb6 hc);have hq:¬ g=q.block:=by omega
  rw[Qaq (Qaz.2 (by omega)),World.cell?_setCell_far _ _ _ _ hq,World.cell?_setCell_far _ _ _ _ hq,World.cell?_setCell_far _ _ _ _ hq,World.cell?_setCell_far _ _ _ _ hq]
  exact Qaj hc
theorem RdI.grow{W W':World}{lo lo':Nat}{v:Value}{x:Itm}(h:RdI (Qap (Qax lo) W) W.heap.size v x)(hb:Below W.heap.size W W')(hl:lo'≤lo):RdI (Qap (Qax lo') W') W'.heap.size v x :=
 h.sub hb.size fun q u hp hc=>by
  have h1:=Qaz.1 (Qb6 hc);rw[Qaq (Qaz.2 (by omega)),hb.cell hp]
  exact Qaj hc
theorem size_put4{W:World}{g:Nat}{u0 u1 u2 u3:Value}:((((W.setCell ⟨g,0,none⟩ u0).setCell ⟨g,1,none⟩ u1).setCell ⟨g,2,none⟩ u2).setCell ⟨g,3,none⟩ u3).heap.size=W.heap.size:=by simp[World.setCell]
theorem Qgc{w W':World}{g:Nat}(hg:g=w.heap.size)(h:Below (g+1) (w.alloc zk0) W') :
  (W'.cell? ⟨g,0,none⟩=some (.int .i64 0)∧W'.cell? ⟨g,1,none⟩=some (.int .u64 0)∧W'.cell? ⟨g,2,none⟩=some (.slice none 0 0)∧W'.cell? ⟨g,3,none⟩=some (.slice none 0 0)) ∧
  (W'.frozen? ⟨g,0,none⟩=false∧W'.frozen? ⟨g,1,none⟩=false∧W'.frozen? ⟨g,2,none⟩=false∧W'.frozen? ⟨g,3,none⟩=false):=by
 subst hg;exact Qa4 h
theorem Qe0(lo n:Nat)(w:World)(h:n<18446744073709551616) :
  Calls Tryz.prog 111 #[.int .u64 (n:Int)] w (Qbj lo (.mk 0 n [] []) w):=by
 go_enter Tryz.func111,Tryz.ntmps111;go_wp2_with fail;have hr:=fun W B=>RdI.mk_uint (w:=W) (B:=B) (n:=n) h
 exact bodyPost_ret (v:=.agg #[.int .i64 0,.int .u64 (n:Int),.slice none 0 0,.slice none 0 0]) (by simp[results,Tryz.results111,go_sem]) rfl ⟨_,rfl,hr _ _,zb⟩
theorem Qsk(lo:Nat)(s:ByteArray)(w:World)(hlo:lo≤w.heap.size)(hs:s.size≤140737488355328) :
  Calls Tryz.prog 178 #[.string s] w (Qbj lo (.mk 3 0 s.data.toList []) w):=by
 obtain⟨c,W',hrun,hrd,hc,hb,hz⟩:=Qkf (w.alloc zk0) s;have hz1:(w.alloc zk0).heap.size=w.heap.size+1:=by simp
 rw[hz1] at hrun hrd hb hz
 obtain⟨⟨z0,z1,z2,z3⟩,f0,f1,f2,f3⟩:=Qa4 hb;have HRD:=hid hrd;have HB:=hid hb;have HZ:=hid hz;have HS:=hid hs;have HLO:=hid hlo;clear hrd hb hz hz1 hs hlo;go_enter Tryz.func178,Tryz.ntmps178;go_wp2_with fail;have hsz4:((((W'.setCell ⟨w.heap.size,0,none⟩ (.int .i64 3)).setCell ⟨w.heap.size,1,none⟩ (.int .u64 0)).setCell ⟨w.heap.size,2,none⟩ (.slice (some ⟨w.heap.size+1,0,none⟩) s.size c)).setCell ⟨w.heap.size,3,none⟩ (.slice none 0 0)).heap.size=W'.heap.size:=by simp[World.setCell]
 refine bodyPost_ret (v:=.agg #[.int .i64 3,.int .u64 0,.slice (some ⟨w.heap.size+1,0,none⟩) s.size c,.slice none 0 0]) (by simp[results,Tryz.results178,go_sem,z0,z1,z2,z3]) rfl ⟨_,rfl,RdI.mk_data (by decide) hc HS.out (Rd.mask_one ?_ (Nat.le_trans HLO.out (Nat.le_succ _))),?_⟩
 ·
  rw[hsz4,HZ.out]
  exact HRD.out.set4 (fun _ b o h=>(by cases h;omega))
 ·
  exact Qas (zb.trans (HB.out.mono (Nat.le_succ _))) zr
theorem Qj6(x:UInt8):Qbk x=((decide (97≤x.toNat)&&decide (x.toNat≤122))||((decide (48≤x.toNat)&&decide (x.toNat≤57))||(decide (x.toNat=46)||(decide (x.toNat=45)||decide (x.toNat=95))))):=by
 have e:∀ k:UInt8,(x==k)=decide (x.toNat=k.toNat):=fun k=>by
  by_cases h:x=k
  ·
   subst h;simp
  ·
   rw[beq_eq_false_iff_ne.2 h,decide_eq_false]
   intro h2;exact h (UInt8.toNat_inj.1 h2)
 unfold Qbk;rw[e 46,e 45,e 95]
 rfl
theorem Qr7(X:Nat)(w:World) :
  Calls Tryz.prog 176 #[.int .u8 (X:Int)] w fun e w'=>e=.returned (.bool ((decide (97≤X)&&decide (X≤122))||((decide (48≤X)&&decide (X≤57))||(decide (X=46)||(decide (X=45)||decide (X=95))))))∧w=w':=by
 obtain⟨R,hR⟩:∃ R,R=((decide (97≤X)&&decide (X≤122))||((decide (48≤X)&&decide (X≤57))||(decide (X=46)||(decide (X=45)||decide (X=95))))):=⟨_,rfl⟩
 rw[← hR]
 have HR:=hid hR;clear hR;go_enter Tryz.func176,Tryz.ntmps176;go_wp2
 all_goals go_ret
 all_goals
  refine⟨congrArg (fun b=>Ending.returned (Value.bool b)) ((?_:_=_).trans HR.out.symm),rfl⟩;rw[Bool.eq_iff_iff]
  simp;try omega
theorem Qg6(x:UInt8)(w:World) :
  Calls Tryz.prog 176 #[.int .u8 (x.toNat:Int)] w fun e w'=>e=.returned (.bool (Qbk x))∧w=w':=by
 rw[Qj6]
 exact Qr7 x.toNat w
def Q1g(b1 b2:Nat):Value:=.func (.func 190) #[] #[.pointer (some ⟨b1,0,none⟩),.pointer (some ⟨b2,0,none⟩)]
structure LsAt2 (b1 b2:Nat) (w:World):Prop where
 f:w.cell? ⟨b1,0,none⟩=some (.func (.func 176) #[] #[])
 s:w.cell? ⟨b2,0,none⟩=some (.string ⟨#[47]⟩)
theorem Q2a(x:UInt8)(b1 b2:Nat)(w:World)(h:LsAt2 b1 b2 w) :
  Calls Tryz.prog 190 #[.int .u8 (x.toNat:Int),.pointer (some ⟨b1,0,none⟩),.pointer (some ⟨b2,0,none⟩)] w fun e w'=>e=.returned (.bool (lsB x))∧w=w':=by
 have h1:=h.f;have h2:=h.s;have C1:=hid (Qg6 x w);have C2:=hid (Tryz.strings_IndexByte ⟨#[47]⟩ (x.toNat:Int) w);have e2:Lib.indexByte (⟨#[47]⟩:ByteArray).data.toList (x.toNat:Int).toNat.toUInt8=if x=47 then 0 else -1:=by
  have ex:(x.toNat:Int).toNat.toUInt8=x:=by simp
  rw[ex]
  show Lib.indexByte [47] x=_;simp only[Lib.indexByte];by_cases hx:x=47
  ·
   subst hx;rfl
  ·
   have:((47:UInt8)==x)=false:=beq_eq_false_iff_ne.2 (fun e=>hx e.symm)
   rw[this,if_neg hx];rfl
 have E2:=hid e2;have hl:lsB x=(Qbk x||decide (x=47)):=by
  unfold lsB;rw[Bool.or_comm]
  congr 1
 obtain⟨R,hR⟩:∃ R,R=lsB x:=⟨_,rfl⟩
 rw[← hR]
 rw[← hR] at hl
 have HL:=hid hl;clear hl hR e2 h;generalize Lib.indexByte (⟨#[47]⟩:ByteArray).data.toList (x.toNat:Int).toNat.toUInt8=I at *;generalize Qbk x=L at *;generalize x.toNat=X at *;go_enter Tryz.func190,Tryz.ntmps190;go_wp2_with (first
  | (go_at_call 176;refine C1.out.mono ?_;rintro e w' ⟨rfl,rfl⟩;cases L)
  | (go_at_call 191;refine C2.out.mono ?_;rintro e w' ⟨rfl,rfl⟩)
  | fail)
 all_goals go_ret
 all_goals
  refine⟨congrArg (fun b=>Ending.returned (Value.bool b)) ((?_:_=_).trans HL.out.symm),rfl⟩
 all_goals (try rw[E2.out])
 all_goals (by_cases hx:x=47 <;> simp[hx])
theorem Qol(s:ByteArray)(w:World)(hs:s.size≤140737488355328) :
  Calls Tryz.prog 175 #[.string s,.func (.func 176) #[] #[]] w fun e w'=>e=.returned (.bool (s.data.toList.all Qbk))∧w=w':=by
 have hsz:s.size=s.data.toList.length:=Lib.size_eq s;obtain⟨R,hR⟩:∃ R,R=s.data.toList.all Qbk:=⟨_,rfl⟩
 rw[← hR]
 have HR:=hid hR;have HS:=hid hsz;clear hR hsz;go_enter Tryz.func175,Tryz.ntmps175;go_wp2_with fail;go_loop [8] (fun i=>∃ k:Nat,k≤s.size∧i=.int .i64 k∧Hid ((s.data.toList.take k).all Qbk=true)) (fun i=>s.size - (intOf i).toNat)
 case atStart=>exact⟨0,Nat.zero_le _,rfl,by show _=_;simp⟩
 case round =>
  obtain⟨k,hk,rfl,hp⟩:=hrel;by_cases hlt:k<s.size
  ·
   have hkl:k<s.data.toList.length:=by rw[← HS.out];exact hlt
   obtain⟨x,hx⟩:∃ x,x=s.data.toList[k]'hkl:=⟨_,rfl⟩
   have hix:∀ W,(Instr.index 9 (.string s) (.int .i64 (k:Int))).run Tryz.prog W=.ok (.int .u8 x.toNat) W:=by
    intro W;rw[hx]
    go_simp
    rfl
   have hstep:(s.data.toList.take (k+1)).all Qbk=Qbk x:=by
    rw[List.take_succ_eq_append_getElem hkl,List.all_append,hp.out,Bool.true_and,← hx]
    simp
   have HST:=hid hstep;have C1:=hid (Qg6 x w);clear hx hstep;have hkk:decide ((k:Int)<(s.size:Int))=true:=by simp;omega
   cases hlx:Qbk x with
   | true =>
    rw[hlx] at C1 HST
    go_wp2_with (first
     | (go_at_call 176;refine C1.out.mono ?_;rintro e w' ⟨rfl,rfl⟩)
     | fail)
    go_round
    case rel=>exact⟨k+1,by omega,by go_num,HST.out⟩
    case measure=>simp[intOf];omega
   | false =>
    rw[hlx] at C1 HST
    have hf:R=false:=by
     rw[HR.out,← List.take_append_drop (k+1) s.data.toList,List.all_append,HST.out,Bool.false_and]
    subst hf;go_wp2_with (first
     | (go_at_call 176;refine C1.out.mono ?_;rintro e w' ⟨rfl,rfl⟩)
     | fail)
    go_ret;exact⟨rfl,rfl⟩
  ·
   obtain rfl:k=s.size:=by omega
   have e:R=true:=by
    have h:=hp.out;rw[HS.out,List.take_length] at h
    rw[HR.out,h]
   subst e;have hkk:decide ((s.size:Int)<(s.size:Int))=false:=by simp
   go_wp2_with fail;go_ret;exact⟨rfl,rfl⟩
theorem Q0e(s:ByteArray)(b1 b2:Nat)(w:World)(hat:LsAt2 b1 b2 w)(hs:s.size≤140737488355328) :
  Calls Tryz.prog 175 #[.string s,Q1g b1 b2] w fun e w'=>e=.returned (.bool (s.data.toList.all lsB))∧w=w':=by
 unfold Q1g;have hsz:s.size=s.data.toList.length:=Lib.size_eq s;obtain⟨R,hR⟩:∃ R,R=s.data.toList.all lsB:=⟨_,rfl⟩
 rw[← hR]
 have HR:=hid hR;have HS:=hid hsz;clear hR hsz;go_enter Tryz.func175,Tryz.ntmps175;go_wp2_with fail;go_loop [8] (fun i=>∃ k:Nat,k≤s.size∧i=.int .i64 k∧Hid ((s.data.toList.take k).all lsB=true)) (fun i=>s.size - (intOf i).toNat)
 case atStart=>exact⟨0,Nat.zero_le _,rfl,by show _=_;simp⟩
 case round =>
  obtain⟨k,hk,rfl,hp⟩:=hrel;by_cases hlt:k<s.size
  ·
   have hkl:k<s.data.toList.length:=by rw[← HS.out];exact hlt
   obtain⟨x,hx⟩:∃ x,x=s.data.toList[k]'hkl:=⟨_,rfl⟩
   have hix:∀ W,(Instr.index 9 (.string s) (.int .i64 (k:Int))).run Tryz.prog W=.ok (.int .u8 x.toNat) W:=by
    intro W;rw[hx]
    go_simp
    rfl
   have hstep:(s.data.toList.take (k+1)).all lsB=lsB x:=by
    rw[List.take_succ_eq_append_getElem hkl,List.all_append,hp.out,Bool.true_and,← hx]
    simp
   have HST:=hid hstep;have C1:=hid (Q2a x b1 b2 w hat);clear hx hstep;have hkk:decide ((k:Int)<(s.size:Int))=true:=by simp;omega
   cases hlx:lsB x with
   | true =>
    rw[hlx] at C1 HST
    go_wp2_with (first
     | (go_at_call 190;refine C1.out.mono ?_;rintro e w' ⟨rfl,rfl⟩)
     | fail)
    go_round
    case rel=>exact⟨k+1,by omega,by go_num,HST.out⟩
    case measure=>simp[intOf];omega
   | false =>
    rw[hlx] at C1 HST
    have hf:R=false:=by
     rw[HR.out,← List.take_append_drop (k+1) s.data.toList,List.all_append,HST.out,Bool.false_and]
    subst hf;go_wp2_with (first
     | (go_at_call 190;refine C1.out.mono ?_;rintro e w' ⟨rfl,rfl⟩)
     | fail)
    go_ret;exact⟨rfl,rfl⟩
  ·
   obtain rfl:k=s.size:=by omega
   have e:R=true:=by
    have h:=hp.out;rw[HS.out,List.take_length] at h
    rw[HR.out,h]
   subst e;have hkk:decide ((s.size:Int)<(s.size:Int))=false:=by simp
   go_wp2_with fail;go_ret;exact⟨rfl,rfl⟩
def Q1i(c:UInt8)(s:ByteArray):Value:=.tuple #[.string ⟨(Qb2 c s.data.toList).toArray⟩,.string ⟨(Qdo c s.data.toList).toArray⟩,.bool (Qiw c s.data.toList)]
theorem Qvd(s:ByteArray)(c:UInt8)(w:World) :
  Calls Tryz.prog 194 #[.string s,.string ⟨#[c]⟩] w fun e w'=>e=.returned (.int .i64 (if Qiw c s.data.toList=true then ((Qb2 c s.data.toList).length:Int) else -1))∧w=w':=by
 have C1:=hid (Tryz.stringslite_IndexByte s (c.toNat:Int) w);have hi:=Qir c s.data.toList;have ec:(c.toNat:Int).toNat.toUInt8=c:=by simp
 obtain⟨R,hR⟩:∃ R,R=(if Qiw c s.data.toList=true then ((Qb2 c s.data.toList).length:Int) else -1):=⟨_,rfl⟩
 rw[← hR]
 rw[← hR] at hi
 have HI:=hid hi;have HE:=hid ec;have HC:Hid (s=⟨#[c]⟩→R=0):=fun e=>by rw[← HI.out,e];simp[Lib.indexByte]
 clear hi ec hR;go_enter Tryz.func194,Tryz.ntmps194;go_wp2_with (first
  | (go_at_call 195;refine C1.out.mono ?_;rintro e w' ⟨rfl,rfl⟩;rw[HE.out,HI.out])
  | fail)
 ·
  have h:([c]==s.toList)=true:=by assumption
  go_ret;refine⟨?_,rfl⟩;have e:s=⟨#[c]⟩:=by
   have e1:s.data.toList=[c]:=by rw[← Lib.toList_data];exact(beq_iff_eq.1 h).symm
   rw[← Lib.mk_data s,e1]
  rw[HC.out e]
  rfl
 ·
  go_ret;exact⟨rfl,rfl⟩
theorem Qx8(s:ByteArray)(c:UInt8)(w:World)(hs:s.size≤140737488355328) :
  Calls Tryz.prog 189 #[.string s,.string ⟨#[c]⟩] w fun e w'=>e=.returned (Q1i c s)∧∃ m,w'=w.drewN m:=by
 have hsz:s.size=s.data.toList.length:=Lib.size_eq s;have hle:=Qhr c s.data.toList;have C1:=hid (Qvd s c w);unfold Q1i;by_cases hh:Qiw c s.data.toList=true
 ·
  have hlt:(Qb2 c s.data.toList).length<s.data.toList.length:=by unfold Qiw at hh;simpa using hh
  rw[if_pos hh] at C1
  have e1:s.extract 0 (Qb2 c s.data.toList).length=⟨(Qb2 c s.data.toList).toArray⟩:=by
   rw[Lib.extract_eq,List.drop_zero,Nat.sub_zero,← Qgt]
  have e2:s.extract ((Qb2 c s.data.toList).length+1) s.size=⟨(Qdo c s.data.toList).toArray⟩:=by
   rw[Lib.extract_eq,hsz,List.take_of_length_le (by rw[List.length_drop];exact Nat.le_refl _)]
   rfl
  rw[hh,← e1,← e2]
  generalize (Qb2 c s.data.toList).length=n at *;have c1:(0:Int) ≤ ↑n:=by omega
  have c2:(↑n:Int) ≤ ↑s.size:=by omega
  have c3:(0:Int) ≤ ↑n+1:=by omega
  have c4:(↑n+1:Int) ≤ ↑s.size:=by omega
  have c5:(↑n+1:Int)≤140737488355328:=by omega
  have hwr:IntKind.i64.wrap ((n:Int)+1)=(n:Int)+1:=by rw[IntKind.wrap_i64];omega
  have htn:((n:Int)+1).toNat=n+1:=by omega
  clear hh e1 e2 hle hlt hsz;go_enter Tryz.func189,Tryz.ntmps189;go_wp2_with (go_at_call 194;refine C1.out.mono ?_;rintro e w' ⟨rfl,rfl⟩)
  go_region
  go_wp2
  go_ret3
  exact⟨rfl,1,rfl⟩
 ·
  rw[Bool.not_eq_true] at hh
  have e1:=Qnl hh;have e2:=Qsr hh;rw[hh] at C1
  simp only[Bool.false_eq_true,if_false] at C1;rw[hh,e1,e2,Lib.mk_data]
  clear hh e1 e2 hle hsz;go_enter Tryz.func189,Tryz.ntmps189;go_wp2_with (go_at_call 194;refine C1.out.mono ?_;rintro e w' ⟨rfl,rfl⟩)
  go_ret3
  exact⟨rfl,0,rfl⟩
theorem Qv4(s:ByteArray)(c:UInt8)(w:World)(hs:s.size≤140737488355328) :
  Calls Tryz.prog 174 #[.string s,.string ⟨#[c]⟩] w fun e w'=>e=.returned (Q1i c s)∧∃ m,w'=w.drewN m:=by
 have C1:=hid (Qx8 s c w hs);unfold Q1i at *;go_enter Tryz.func174,Tryz.ntmps174;go_wp2_with (go_at_call 189;refine C1.out.mono ?_;rintro e w' ⟨rfl,n,rfl⟩)
 go_ret3
 exact⟨rfl,n,rfl⟩
structure Snt where
 s:Addr
 n:Addr
 u:Addr
 f:Addr
def Qlk(A:Snt)(a:Addr):Prop:=a=A.s∨a=A.n∨a=A.u∨a=A.f
def snt(a:Addr):Value:=.iface 261 (.pointer (some a))
structure Lds (A:Snt) (w:World):Prop where
 cs:w.cell? ⟨3,0,none⟩=some (snt A.s)
 cn:w.cell? ⟨5,0,none⟩=some (snt A.n)
 cu:w.cell? ⟨4,0,none⟩=some (snt A.u)
 cf:w.cell? ⟨6,0,none⟩=some (snt A.f)
 row:∀ a,Qlk A a→∃ c t,w.heap[a.block]?=some (.cells c t (0,0))
 ne:A.s≠A.n∧A.s≠A.u∧A.s≠A.f∧A.n≠A.u∧A.n≠A.f∧A.u≠A.f
theorem Lds.below{A:Snt}{w w':World}{B:Nat}(h:Lds A w)(hb:Below B w w')(hB:w.heap.size≤B):Lds A w':=by
 have k:∀ {p:Addr} {v:Value},w.cell? p=some v→w'.cell? p=some v:=fun hc=>(hb.cell (Nat.lt_of_lt_of_le (World.block_lt_of_cell? w _ hc) hB)).trans hc
 refine⟨k h.cs,k h.cn,k h.cu,k h.cf,?_,h.ne⟩
 ·
  intro a ha;obtain⟨c,t,hc⟩:=h.row a ha;have hl:a.block<w.heap.size:=by
   rcases Nat.lt_or_ge a.block w.heap.size with h1|h1
   ·
    exact h1
   ·
    rw[Array.getElem?_eq_none h1] at hc;cases hc
  exact⟨c,t,(hb.block a.block (Nat.lt_of_lt_of_le hl hB)).trans hc⟩
theorem Lds.alloc{A:Snt}{w:World}(h:Lds A w)(o:Obj):Lds A (w.alloc o):=h.below ((Below.refl _ _).alloc zr o) zr
theorem Qay{B:Nat}{w:World}(m:Nat):Below B w (w.drewN m):=⟨rfl,rfl,rfl,Nat.le_refl _,fun _ _=>rfl⟩
theorem Q17(w:World) :
  Calls Tryz.prog 177 #[.func (.func 176) #[] #[],.string ⟨#[47]⟩] w fun e w'=>∃ b1 b2,e=.returned (Q1g b1 b2)∧LsAt2 b1 b2 w'∧Below w.heap.size w w':=by
 go_enter Tryz.func177,Tryz.ntmps177;go_wp2_with fail;refine bodyPost_ret (v:=Q1g w.heap.size (w.heap.size+1)) (by simp[results,Tryz.results177,go_sem,Q1g]) rfl ⟨w.heap.size,w.heap.size+1,rfl,⟨?_,?_⟩,?_⟩
 ·
  rw[World.cell?_alloc_lt _ _ _ (by simp)];rw[World.cell?_alloc_at _ _ _ _ rfl];rfl
 ·
  rw[World.cell?_alloc_at _ _ _ _ (by simp)];rfl
 ·
  exact zb.alloc (by simp) _
theorem Qr6(s:ByteArray)(w:World)(hs:s.size≤140737488355328) :
  Calls Tryz.prog 158 #[.string s] w fun e w'=>e=.returned (.bool (Qc1 s.data.toList))∧Below w.heap.size w w':=by
 have hsz:s.size=s.data.toList.length:=Lib.size_eq s;rw[← Qxz]
 obtain⟨R,hR⟩:∃ R,R=Qx0 s.data.toList:=⟨_,rfl⟩
 rw[← hR]
 unfold Qx0 at hR;by_cases h64:64<s.size
 ·
  have hr:R=false:=by rw[hR,decide_eq_false (by omega)];rfl
  subst hr;clear hR hsz;have h64i:decide ((64:Int)<(s.size:Int))=true:=by simp;omega
  go_enter Tryz.func158,Tryz.ntmps158;go_wp2_with fail;go_ret;exact⟨rfl,Below.refl _ _⟩
 have h65:s.size≤64:=by omega
 rw[decide_eq_true (by omega),Bool.true_and] at hR
 have C1:=hid (Tryz.strings_CutPrefix s ⟨#[47,47]⟩ w);have e47:(⟨#[47,47]⟩:ByteArray).data.toList=[47,47]:=rfl;rw[e47] at C1
 by_cases hp:Lib.hasPrefix s.data.toList [47,47]=true
 ·
  rw[hp,Bool.true_and] at hR
  have et:Lib.trimPrefix s.data.toList [47,47]=s.data.toList.drop 2:=by unfold Lib.trimPrefix;rw[if_pos hp];rfl
  rw[hp,et] at C1
  have hrl:(s.data.toList.drop 2).length≤64:=by rw[List.length_drop];omega
  generalize s.data.toList.drop 2=r at *;have C2:=hid (fun W=>Qv4 ⟨r.toArray⟩ 47 W (by rw[Lib.size_eq];simp;omega));unfold Q1i at C2;rw[show(⟨r.toArray⟩:ByteArray).data.toList=r by simp] at C2
  have hal:=Qhr 47 r;have hbl:(Qdo 47 r).length≤64:=by unfold Qdo;rw[List.length_drop];omega
  by_cases hh:Qiw 47 r=true
  ·
   rw[hh,Bool.true_and] at hR
   rw[hh] at C2
   generalize Qb2 47 r=u at *;generalize Qdo 47 r=t at *;have hus:(⟨u.toArray⟩:ByteArray).data.toList=u:=by simp
   have hts:(⟨t.toArray⟩:ByteArray).data.toList=t:=by simp
   have C3:=hid (fun W=>Qol ⟨u.toArray⟩ W (by rw[Lib.size_eq,hus];omega));have C5:=hid (fun b1 b2 W h=>Q0e ⟨t.toArray⟩ b1 b2 W h (by rw[Lib.size_eq,hts];omega));rw[hus] at C3
   rw[hts] at C5
   clear hp et hrl hal hbl hh hsz hus hts;have hue:(⟨u.toArray⟩:ByteArray).toList.isEmpty=u.isEmpty:=by rw[Lib.toList_data]
   generalize (⟨u.toArray⟩:ByteArray)=us at *;generalize (⟨t.toArray⟩:ByteArray)=ts at *;cases hui:u.isEmpty with
   | true =>
    rw[hui] at hue hR
    have hr:R=false:=hR;subst hr;clear hR hui;go_enter Tryz.func158,Tryz.ntmps158;go_wp2_with (first
     | (go_at_call 173;refine C1.out.mono ?_;rintro e w' ⟨rfl,rfl⟩)
     | (go_at_call 174;refine(C2.out _).mono ?_;rintro e w' ⟨rfl,m,rfl⟩)
     | fail)
    go_ret;exact⟨rfl,Qay m⟩
   | false =>
    rw[hui] at hue hR
    have hR2:R=(u.all Qbk&&t.all lsB):=hR;clear hR hui;generalize t.all lsB=T at *;cases hul:u.all Qbk with
    | false =>
     rw[hul] at C3 hR2
     have hr:R=false:=hR2;subst hr;clear hR2 hul;go_enter Tryz.func158,Tryz.ntmps158;go_wp2_with (first
      | (go_at_call 173;refine C1.out.mono ?_;rintro e w' ⟨rfl,rfl⟩)
      | (go_at_call 174;refine(C2.out _).mono ?_;rintro e w' ⟨rfl,m,rfl⟩)
      | (go_at_call 175;refine(C3.out _).mono ?_;rintro e w' ⟨rfl,rfl⟩)
      | fail)
     go_ret;exact⟨rfl,Qay m⟩
    | true =>
     rw[hul] at C3 hR2
     have hr:R=T:=hR2;subst hr;clear hR2 hul;go_enter Tryz.func158,Tryz.ntmps158;go_wp2_with (first
      | (go_at_call 173;refine C1.out.mono ?_;rintro e w' ⟨rfl,rfl⟩)
      | (go_at_call 174;refine(C2.out _).mono ?_;rintro e w' ⟨rfl,m,rfl⟩)
      | fail)
     refine(C3.out _).mono ?_;rintro e w1 ⟨rfl,rfl⟩;go_wp2_with fail;refine(Q17 _).mono ?_;rintro e w2 ⟨b1,b2,rfl,hat,hb⟩;have C6:=hid (C5.out b1 b2 w2 hat);have HB:=hid hb;clear hat hb C5;unfold Q1g at *;go_wp2_with fail;refine C6.out.mono ?_;rintro e w3 ⟨rfl,rfl⟩;go_wp2_with fail;go_ret;exact⟨rfl,(Qay m).trans HB.out⟩
  ·
   rw[Bool.not_eq_true] at hh
   rw[hh,Bool.false_and] at hR
   rw[hh] at C2
   subst hR;generalize (⟨(Qb2 47 r).toArray⟩:ByteArray)=us at *;generalize (⟨(Qdo 47 r).toArray⟩:ByteArray)=ts at *;clear hh hal hbl hrl hsz;go_enter Tryz.func158,Tryz.ntmps158;go_wp2_with (first
    | (go_at_call 173;refine C1.out.mono ?_;rintro e w' ⟨rfl,rfl⟩)
    | (go_at_call 174;refine(C2.out _).mono ?_;rintro e w' ⟨rfl,m,rfl⟩)
    | fail)
   go_ret;exact⟨rfl,Qay m⟩
 ·
  rw[Bool.not_eq_true] at hp
  rw[hp,Bool.false_and] at hR
  rw[hp] at C1
  subst hR;have hrs:(⟨(Lib.trimPrefix s.data.toList [47,47]).toArray⟩:ByteArray).size≤64:=by
   unfold Lib.trimPrefix;rw[hp,Lib.size_eq]
   simp;omega
  generalize (⟨(Lib.trimPrefix s.data.toList [47,47]).toArray⟩:ByteArray)=r at *;have C2:=hid (fun W=>Qv4 r 47 W (by omega));unfold Q1i at C2;generalize (⟨(Qb2 47 r.data.toList).toArray⟩:ByteArray)=us at *;generalize (⟨(Qdo 47 r.data.toList).toArray⟩:ByteArray)=ts at *;generalize Qiw 47 r.data.toList=H at *;clear hp hsz;go_enter Tryz.func158,Tryz.ntmps158;go_wp2_with (first
   | (go_at_call 173;refine C1.out.mono ?_;rintro e w' ⟨rfl,rfl⟩)
   | (go_at_call 174;refine(C2.out _).mono ?_;rintro e w' ⟨rfl,m,rfl⟩)
   | fail)
  go_ret;exact⟨rfl,Qay m⟩
def Qbq(sc:Int)(s:ByteArray)(n v:Nat):Value:=.agg #[.int .i64 sc,.string s,.int .u64 (n:Int),.int .u64 (v:Int)]
def ep(sc:Int)(s:ByteArray)(n v:Nat):Epd:=⟨sc,s.data.toList,n,v⟩
def Why(A:Snt)(b:Bool)(w:World)(e:Ending)(w':World):Prop:=Below w.heap.size w w'∧((b=true∧e=.returned .nilIface)∨(b=false∧∃ a,Qlk A a∧e=.returned (snt a)))
theorem Ql1(s:ByteArray):s.toList.isEmpty=s.data.toList.isEmpty:=by rw[Lib.toList_data]
theorem Qng(A:Snt)(s:ByteArray)(n v:Nat)(w:World)(hA:Lds A w)(hs:s.size≤140737488355328) :
  Calls Tryz.prog 138 #[Qbq 1 s n v] w (Why A (Qag (ep 1 s n v)) w):=by
 obtain⟨R,hR⟩:∃ R,R=Qag (ep 1 s n v):=⟨_,rfl⟩
 rw[← hR]
 have hR2:R=((n==0&&v==0)&&(s.data.toList.isEmpty||Qc1 s.data.toList)):=by rw[hR];unfold Qag;rw[if_pos (show(ep 1 s n v).scheme=1 from rfl)];rfl
 clear hR;have C1:=hid (fun W=>Qr6 s W hs);have hse:=Ql1 s;unfold Qbq;have HA:=hid hA;have gu:(w.alloc (zo3 1 s n v)).cell? ⟨4,0,none⟩=some (snt A.u):=(hA.alloc _).cu;have gn:(w.alloc (zo3 1 s n v)).cell? ⟨5,0,none⟩=some (snt A.n):=(hA.alloc _).cn;clear hA;unfold snt at gu gn;have gg:∀ (w2:World),Below (w.alloc (zo3 1 s n v)).heap.size (w.alloc (zo3 1 s n v)) w2→w2.cell? ⟨5,0,none⟩=some (.iface 261 (.pointer (some A.n))):=fun w2 hb=>(((HA.out.alloc _).below hb zr).cn)
 have GG:=hid gg;clear gg;by_cases h0:n=0∧v=0
 ·
  obtain⟨rfl,rfl⟩:=h0;have hR3:R=(s.data.toList.isEmpty||Qc1 s.data.toList):=hR2;clear hR2;cases he:s.data.toList.isEmpty with
  | true =>
   rw[he] at hR3 hse
   have hr:R=true:=hR3;subst hr;clear hR3 he;go_enter Tryz.func138,Tryz.ntmps138;go_wp2_with fail;go_ret;exact⟨zb,.inl ⟨rfl,rfl⟩⟩
  | false =>
   rw[he] at hR3 hse
   have hr:R=Qc1 s.data.toList:=hR3;generalize Qc1 s.data.toList=N at *;subst hr;clear hR3 he;cases R with
   | true =>
    go_enter Tryz.func138,Tryz.ntmps138;go_wp2_with fail;refine(C1.out _).mono ?_;rintro e w1 ⟨rfl,hb⟩;have HB:=hid hb;clear hb;go_wp2_with fail;go_ret;exact⟨zb.trans (HB.out.mono (Qaa _ _)),.inl ⟨rfl,rfl⟩⟩
   | false =>
    go_enter Tryz.func138,Tryz.ntmps138;go_wp2_with fail;refine(C1.out _).mono ?_;rintro e w1 ⟨rfl,hb⟩;have g1:=GG.out _ hb;have HB:=hid hb;clear hb;go_wp2_with fail;go_ret;exact⟨zb.trans (HB.out.mono (Qaa _ _)),.inr ⟨rfl,A.n,.inr (.inl rfl),rfl⟩⟩
 ·
  have hr:R=false:=by
   rw[hR2]
   have:(n==0&&v==0)=false:=by
    rw[Bool.eq_false_iff]
    intro h;simp at h;exact h0 h
   rw[this,Bool.false_and]
  subst hr;clear hR2;have h1:¬ ((n:Int)=0∧(v:Int)=0):=by omega
  clear h0 GG HA C1 hse;generalize (n:Int)=N at *;generalize (v:Int)=V at *;by_cases hn:N=0
  ·
   subst hn;have hv:¬ V=0:=fun h=>h1 ⟨rfl,h⟩
   clear h1;go_enter Tryz.func138,Tryz.ntmps138;go_wp2_with fail;go_ret;exact⟨zb,.inr ⟨rfl,A.u,.inr (.inr (.inl rfl)),rfl⟩⟩
  ·
   clear h1;go_enter Tryz.func138,Tryz.ntmps138;go_wp2_with fail;go_ret;exact⟨zb,.inr ⟨rfl,A.u,.inr (.inr (.inl rfl)),rfl⟩⟩
open Go.RowKit Go.Extern.Stop Go.Stop Go.Extern
inductive Ch (A:Snt):Nat→Value→Addr→Prop
 | leaf (a:Addr):Qlk A a→Ch A 0 (snt a) a
 | wrap (k:Nat) (s:ByteArray) (t:TypeId) (v:Value) (a:Addr):Ch A k (.iface t v) a→Ch A (k+1) (.iface 230 (.agg #[.string s,.iface t v])) a
theorem Qp9(v:Value)(w:World):(Extern.ReflectliteType.typeOf #[.iface 261 v]).run Tryz.prog w=.ok (.iface 156 (.agg #[.pointer (some ⟨8,261,none⟩)])) w:=by kernel_rfl
theorem Qg7 (w : World) : ((Extern.ReflectliteType.method fun t => do Extern.Rtype.noPackHeld "Comparable" t; (fun a => Value.bool a.comparable) <$> typeInfo t) #[.agg #[.pointer (some ⟨8, 261, none⟩)]]).run Tryz.prog w = .ok (.bool true) w := by kernel_rfl
theorem Qch (n : Nat) (v : Value) (w : World) : (Go.method (n + 8) 156 v "Comparable").run Tryz.prog w = .ok (229, v) w := by kernel_rfl
theorem Qzg:(Tryz.prog.info? 261).map (·.comparable)=some true:=by kernel_rfl
theorem Qzf:(Tryz.prog.info? 281).map (·.size)=some 1:=by kernel_rfl
theorem Q19(v:Value)(xT:TypeId)(w:World):(Instr.typeAssert (.iface 261 v) xT 158 true).run Tryz.prog w=.ok (.tuple #[.nilIface,.bool false]) w:=run_typeAssert_lacksB Tryz.underlying158 (by kernel_rfl) (by kernel_rfl) v xT w
theorem Qmh(v:Value)(xT:TypeId)(w:World):(Instr.typeAssert (.iface 261 v) xT 161 true).run Tryz.prog w=.ok (.tuple #[.nilIface,.bool false]) w:=run_typeAssert_lacksB Tryz.underlying161 (by kernel_rfl) (by kernel_rfl) v xT w
theorem Qj4(v:Value)(xT:TypeId)(w:World):(Instr.typeAssert (.iface 261 v) xT 163 true).run Tryz.prog w=.ok (.tuple #[.nilIface,.bool false]) w:=run_typeAssert_lacksB Tryz.underlying163 (by kernel_rfl) (by kernel_rfl) v xT w
theorem Q34(v:Value)(xT:TypeId)(w:World):(Instr.typeAssert (.iface 230 v) xT 158 true).run Tryz.prog w=.ok (.tuple #[.nilIface,.bool false]) w:=run_typeAssert_lacksB Tryz.underlying158 (by kernel_rfl) (by kernel_rfl) v xT w
theorem Qsg(v:Value)(xT:TypeId)(w:World):(Instr.typeAssert (.iface 230 v) xT 161 true).run Tryz.prog w=.ok (.tuple #[.iface 230 v,.bool true]) w:=run_typeAssert_hasB Tryz.underlying161 (by kernel_rfl) v xT w
theorem Qmi (n : Nat) (v : Value) (w : World) : (Go.method (n + 8) 230 v "Unwrap").run Tryz.prog w = .ok (240, v) w := by kernel_rfl
def Qk4:Nat→Value→Nat
 | 0,_=>0
 | n+1,.iface _ (.agg #[_,v])=>Qk4 n v+1
 | _+1,_=>0
theorem Ch.len{A:Snt}{k:Nat}{E:Value}{a:Addr}(h:Ch A k E a):∀ n,k<n→Qk4 n E=k:=by
 induction h with
 | leaf a _ =>
  intro n hn;obtain⟨m,rfl⟩:∃ m,n=m+1:=⟨n - 1,by omega⟩
  rfl
 | wrap k s t v a h ih =>
  intro n hn;obtain⟨m,rfl⟩:∃ m,n=m+1:=⟨n - 1,by omega⟩
  show Qk4 m (.iface t v)+1=k+1;rw[ih m (by omega)]
theorem Ch.one{A:Snt}{k:Nat}{E:Value}{a:Addr}(h:Ch A k E a):Qlk A a:=by
 induction h with
 | leaf a h=>exact h
 | wrap k s t v a h ih=>exact ih
theorem Q2k(A:Snt)(k:Nat)(E:Value)(a b:Addr)(w:World)(hA:Lds A w)(hch:Ch A k E a)(hk:k≤8)(hob:Qlk A b) :
  Calls Tryz.prog 54 #[E,snt b,.bool true] w fun e w'=>e=.returned (.bool (decide (a=b)))∧Below w.heap.size w w':=by
 obtain⟨i,hi,hcmp⟩:=Option.map_eq_some_iff.1 Qzg;obtain⟨j,hj,hjs⟩:=Option.map_eq_some_iff.1 Qzf;have nE:=Q19;have uE:=Qmh;have vE:=Qj4;have nW:=Q34;have uW:=Qsg;have mU:=Qmi;have HA:=hid hA;have HCH:=hid hch;obtain⟨R,hR⟩:∃ R,R=decide (a=b):=⟨_,rfl⟩
 rw[← hR]
 have HR:=hid hR;clear hA hch hR;unfold snt;go_enter Tryz.func54,Tryz.ntmps54;go_wp2_with fail;go_loopw [0] (fun E' wl=>Hid (Below w.heap.size w wl)∧∃ k',k'≤8∧Ch A k' E' a) (fun E' _=>Qk4 9 E')
 case atStart=>exact⟨Below.refl _ _,k,hk,HCH.out⟩
 case round =>
  obtain⟨HB,k',hk',hc'⟩:=hrel;have hA2:=HA.out.below HB.out zr;obtain⟨cb,tb,hb⟩:=hA2.row b hob;have hlen0:=hc'.len 9 (by omega);cases hc' with
  | leaf a hoa =>
   obtain⟨ca,ta,ha⟩:=hA2.row a hoa;unfold snt at *;by_cases hab:a=b
   ·
    subst hab;have hr:R=true:=by rw[HR.out];simp
    subst hr;have heq:=run_eql_iface_ptr_same (P:=Tryz.prog) wr a Tryz.underlying53 Tryz.underlying261 hi hcmp hj;clear hA2;go_wp2_with fail;go_ret;exact⟨rfl,HB.out⟩
   ·
    have hr:R=false:=by rw[HR.out];simp[hab]
    subst hr;have heq:=run_eql_iface_ptr_other (P:=Tryz.prog) wr Tryz.underlying53 Tryz.underlying261 hi hcmp hj (by rw[hjs];decide) hab ha hb;clear hA2;go_wp2_with fail;go_ret;exact⟨rfl,HB.out⟩
  | wrap k1 s t v a h1 =>
   have hty:=run_eql_iface_types (P:=Tryz.prog) 230 261 (.agg #[.string s,.iface t v]) (.pointer (some b)) Tryz.underlying53 (by decide) wr;have hlen:=h1.len 9 (by omega);have q1:=fun (W:World) (u:TypeId) (x:Value)=>run_eql_iface_nil (P:=Tryz.prog) (w:=W) 53 (by kernel_rfl) u x
   have HC:=hid h1;have HL:=hid hlen;have HL0:=hid hlen0;clear h1 hA2 hlen hlen0;go_wp2
   go_roundw
   case rel=>exact⟨HB.out.trans (zb.mono HB.out.size),k1,by omega,HC.out⟩
   case measure =>
    show Qk4 9 (.iface t v)<_;rw[HL.out,HL0.out]
    exact Nat.lt_succ_self _
theorem Q0y(A:Snt)(k:Nat)(E:Value)(a b:Addr)(w:World)(hA:Lds A w)(hch:Ch A k E a)(hk:k≤8)(hob:Qlk A b) :
  Calls Tryz.prog 32 #[E,snt b] w fun e w'=>e=.returned (.bool (decide (a=b)))∧Below w.heap.size w w':=by
 have h8:=@run_callFunc_extern Tryz.prog 53 _ Extern.ReflectliteType.typeOf Tryz.func53 (by kernel_rfl) (by kernel_rfl) (by kernel_rfl) (by kernel_rfl);have h32 := @run_callFunc_extern Tryz.prog 229 _ (Extern.ReflectliteType.method fun t => do Extern.Rtype.noPackHeld "Comparable" t; pure (.bool (← typeInfo t).comparable)) Tryz.func229 (by kernel_rfl) (by kernel_rfl) (by kernel_rfl) (by kernel_rfl)
 have tT:=Qp9;have cT:=Qg7;have mR:=Qch;have C1:=hid (Q2k A k E a b w hA hch hk hob);have q1:=fun (W:World) (u:TypeId) (x:Value)=>run_eql_iface_nil (P:=Tryz.prog) (w:=W) 53 (by kernel_rfl) u x
 generalize decide (a=b)=R at *;obtain⟨t,v,rfl⟩:∃ t v,E=.iface t v:=by cases hch <;> exact⟨_,_,rfl⟩
 clear hA hch hob;unfold snt at *;go_enter Tryz.func32,Tryz.ntmps32;go_wp2_with (first
  | (go_at_call 54;refine C1.out.mono ?_;rintro e w1 ⟨rfl,hb⟩;have HB:=hid hb;clear hb)
  | go_in)
 go_ret;exact⟨rfl,HB.out⟩
theorem Qvx(b:Addr)(w:World) :
  Calls Tryz.prog 32 #[.nilIface,snt b] w fun e w'=>e=.returned (.bool false)∧w=w':=by
 have hn:=fun (W:World) (p:Value)=>run_eql_iface_nil_left (P:=Tryz.prog) W 261 p Tryz.underlying53
 unfold snt;go_enter Tryz.func32,Tryz.ntmps32;go_wp2
 go_ret;exact⟨rfl,rfl⟩
theorem Qrr(A:Snt)(w:World)(hA:Lds A w) :
  Calls Tryz.prog 141 #[.nilIface] w fun e w'=>e=.returned (.int .i64 0)∧w=w':=by
 have cs:=hA.cs;have cn:=hA.cn;have cu:=hA.cu;have cf:=hA.cf;clear hA;unfold snt at *;have C1:=hid (fun b=>Qvx b w);unfold snt at *;go_enter Tryz.func141,Tryz.ntmps141;go_wp2_with (first
  | (go_at_call 32;refine(C1.out _).mono ?_;rintro e w1 ⟨rfl,rfl⟩)
  | fail)
 go_ret;exact⟨rfl,rfl⟩
theorem Qii(A:Snt)(k:Nat)(E:Value)(a:Addr)(w:World)(hA:Lds A w)(hch:Ch A k E a)(hk:k≤8) :
  Calls Tryz.prog 141 #[E] w fun e w'=>e=.returned (.int .i64 40)∧Below w.heap.size w w':=by
 have L1:=fun (W:World) (hb:Below w.heap.size w W)=>hA.below hb zr
 have C1:=hid (fun (b:Addr) (W:World) (hb:Below w.heap.size w W) (ho:Qlk A b)=>Q0y A k E a b W (L1 W hb) hch hk ho);have G:∀ W,Below w.heap.size w W→W.cell? ⟨3,0,none⟩=some (snt A.s)∧W.cell? ⟨5,0,none⟩=some (snt A.n)∧W.cell? ⟨4,0,none⟩=some (snt A.u)∧W.cell? ⟨6,0,none⟩=some (snt A.f):=fun W hb=>⟨(L1 W hb).cs,(L1 W hb).cn,(L1 W hb).cu,(L1 W hb).cf⟩
 have G0:=G w (Below.refl _ _);obtain⟨g1,g2,g3,g4⟩:=G0;have HG:=hid G;have ho:=hch.one;have HO:=hid hA.ne;clear G hA hch L1;unfold snt at *;go_enter Tryz.func141,Tryz.ntmps141;go_wp2_with fail;refine(C1.out A.s _ (Below.refl _ _) (.inl rfl)).mono ?_;rintro e w1 ⟨rfl,hb1⟩;have G1:=HG.out w1 hb1;have HB1:=hid hb1;clear hb1 g1 g2 g3 g4;obtain⟨g1,g2,g3,g4⟩:=G1;by_cases a1:a=A.s
 ·
  rw[decide_eq_true a1]
  clear a1 ho;go_wp2_with fail;go_ret;exact⟨rfl,HB1.out⟩
 rw[decide_eq_false a1]
 go_wp2_with fail;refine(C1.out A.n _ HB1.out (.inr (.inl rfl))).mono ?_;rintro e w2 ⟨rfl,hb2⟩;have hb2':=HB1.out.trans (hb2.mono HB1.out.size);have G1:=HG.out w2 hb2';have HB2:=hid hb2';clear hb2 hb2' g1 g2 g3 g4;obtain⟨g1,g2,g3,g4⟩:=G1;by_cases a2:a=A.n
 ·
  rw[decide_eq_true a2]
  clear a1 a2 ho;go_wp2_with fail;go_ret;exact⟨rfl,HB2.out⟩
 rw[decide_eq_false a2]
 go_wp2_with fail;refine(C1.out A.u _ HB2.out (.inr (.inr (.inl rfl)))).mono ?_;rintro e w3 ⟨rfl,hb3⟩;have hb3':=HB2.out.trans (hb3.mono HB2.out.size);have G1:=HG.out w3 hb3';have HB3:=hid hb3';clear hb3 hb3' g1 g2 g3 g4;obtain⟨g1,g2,g3,g4⟩:=G1;by_cases a3:a=A.u
 ·
  rw[decide_eq_true a3]
  clear a1 a2 a3 ho;go_wp2_with fail;go_ret;exact⟨rfl,HB3.out⟩
 rw[decide_eq_false a3]
 have a4:a=A.f:=by
  rcases ho with h|h|h|h
  ·
   exact absurd h a1
  ·
   exact absurd h a2
  ·
   exact absurd h a3
  ·
   exact h
 go_wp2_with fail;refine(C1.out A.f _ HB3.out (.inr (.inr (.inr rfl)))).mono ?_;rintro e w4 ⟨rfl,hb4⟩;have HB4:=hid (HB3.out.trans (hb4.mono HB3.out.size));clear hb4 g1 g2 g3 g4;rw[decide_eq_true a4]
 clear a1 a2 a3 a4 ho;go_wp2_with fail;go_ret;exact⟨rfl,HB4.out⟩
theorem Qfg(A:Snt)(w:World)(hA:Lds A w) :
  Calls Tryz.prog 141 #[.nilIface] w fun e w'=>e=.returned (.int .i64 0)∧Below w.heap.size w w' :=
 (Qrr A w hA).mono (by rintro e w' ⟨rfl,rfl⟩;exact⟨rfl,Below.refl _ _⟩)
theorem Qau{W:World}{g:Nat}{p:Addr}{u v0 v1 v2 v3:Value}(h:W.cell? p=some u)(hg:¬ g=p.block):((((W.setCell ⟨g,0,none⟩ v0).setCell ⟨g,1,none⟩ v1).setCell ⟨g,2,none⟩ v2).setCell ⟨g,3,none⟩ v3).cell? p=some u:=by
 rw[World.cell?_setCell_far _ _ _ _ hg,World.cell?_setCell_far _ _ _ _ hg,World.cell?_setCell_far _ _ _ _ hg,World.cell?_setCell_far _ _ _ _ hg]
 exact h
open Go.RowKit Go.Extern.Stop Go.Stop Go.Extern
def Q07(z:Int):Value:=.iface 142 (.int .i64 z)
def ufl(z:Int)(s:ByteArray):Value:=.iface 144 (.agg #[.string s,.iface 142 (.int .i64 z)])
theorem Q08(v:Value)(w:World):(Extern.ReflectliteType.typeOf #[.iface 142 v]).run Tryz.prog w=.ok (.iface 156 (.agg #[.pointer (some ⟨8,142,none⟩)])) w:=by kernel_rfl
theorem Qpd (w : World) : ((Extern.ReflectliteType.method fun t => do Extern.Rtype.noPackHeld "Comparable" t; (fun a => Value.bool a.comparable) <$> typeInfo t) #[.agg #[.pointer (some ⟨8, 142, none⟩)]]).run Tryz.prog w = .ok (.bool true) w := by kernel_rfl
theorem Q4l:(Tryz.prog.info? 142).map (·.comparable)=some true:=by kernel_rfl
theorem Q36(v:Value)(xT:TypeId)(w:World):(Instr.typeAssert (.iface 142 v) xT 158 true).run Tryz.prog w=.ok (.tuple #[.nilIface,.bool false]) w:=run_typeAssert_lacksB Tryz.underlying158 (by kernel_rfl) (by kernel_rfl) v xT w
theorem Que(v:Value)(xT:TypeId)(w:World):(Instr.typeAssert (.iface 142 v) xT 161 true).run Tryz.prog w=.ok (.tuple #[.nilIface,.bool false]) w:=run_typeAssert_lacksB Tryz.underlying161 (by kernel_rfl) (by kernel_rfl) v xT w
theorem Qrt(v:Value)(xT:TypeId)(w:World):(Instr.typeAssert (.iface 142 v) xT 163 true).run Tryz.prog w=.ok (.tuple #[.nilIface,.bool false]) w:=run_typeAssert_lacksB Tryz.underlying163 (by kernel_rfl) (by kernel_rfl) v xT w
theorem Q35(v:Value)(xT:TypeId)(w:World):(Instr.typeAssert (.iface 144 v) xT 158 true).run Tryz.prog w=.ok (.tuple #[.nilIface,.bool false]) w:=run_typeAssert_lacksB Tryz.underlying158 (by kernel_rfl) (by kernel_rfl) v xT w
theorem Qsh(v:Value)(xT:TypeId)(w:World):(Instr.typeAssert (.iface 144 v) xT 161 true).run Tryz.prog w=.ok (.tuple #[.iface 144 v,.bool true]) w:=run_typeAssert_hasB Tryz.underlying161 (by kernel_rfl) v xT w
theorem Qk3 (n : Nat) (v : Value) (w : World) : (Go.method (n + 8) 144 v "Unwrap").run Tryz.prog w = .ok (226, v) w := by kernel_rfl
theorem Q0p(z k:Int)(s:ByteArray)(w:World) :
  Calls Tryz.prog 54 #[ufl z s,Q07 k,.bool true] w fun e w'=>e=.returned (.bool (z==k))∧Below w.heap.size w w':=by
 have nE:=Q36;have uE:=Que;have vE:=Qrt;have nW:=Q35;have uW:=Qsh;have mU:=Qk3;obtain⟨R,hR⟩:∃ R,R=(z==k):=⟨_,rfl⟩
 rw[← hR]
 have HR:=hid hR;clear hR;unfold Q07;go_enter Tryz.func54,Tryz.ntmps54;go_wp2_with fail;go_loopw [0] (fun E' wl=>Hid (Below w.heap.size w wl)∧(E'=ufl z s∨E'=Q07 z)) (fun E' _=>Qk4 9 E')
 case atStart=>exact⟨Below.refl _ _,.inl rfl⟩
 case round =>
  obtain⟨HB,rfl|rfl⟩:=hrel
  ·
   unfold ufl at *;have hty:=run_eql_iface_types (P:=Tryz.prog) 144 142 (.agg #[.string s,.iface 142 (.int .i64 z)]) (.int .i64 k) Tryz.underlying53 (by decide) wr;have q1:=fun (W:World) (u:TypeId) (x:Value)=>run_eql_iface_nil (P:=Tryz.prog) (w:=W) 53 (by kernel_rfl) u x
   go_wp2
   go_roundw
   case rel=>exact⟨HB.out.trans (zb.mono HB.out.size),.inr rfl⟩
   case measure=>exact Nat.zero_lt_one
  ·
   unfold Q07 at *;have heq:=Go.Lib.run_eql_iface_int (P:=Tryz.prog) (k:=.i64) wr z k Tryz.underlying53 Q4l Tryz.underlying142;have HE:=hid HB.out;cases R with
   | true =>
    rw[← HR.out] at heq
    go_wp2_with fail;go_ret;exact⟨rfl,HE.out⟩
   | false =>
    rw[← HR.out] at heq
    go_wp2_with fail;go_ret;exact⟨rfl,HE.out⟩
theorem Qyt(z k:Int)(s:ByteArray)(w:World) :
  Calls Tryz.prog 32 #[ufl z s,Q07 k] w fun e w'=>e=.returned (.bool (z==k))∧Below w.heap.size w w':=by
 have h8:=@run_callFunc_extern Tryz.prog 53 _ Extern.ReflectliteType.typeOf Tryz.func53 (by kernel_rfl) (by kernel_rfl) (by kernel_rfl) (by kernel_rfl);have h32 := @run_callFunc_extern Tryz.prog 229 _ (Extern.ReflectliteType.method fun t => do Extern.Rtype.noPackHeld "Comparable" t; pure (.bool (← typeInfo t).comparable)) Tryz.func229 (by kernel_rfl) (by kernel_rfl) (by kernel_rfl) (by kernel_rfl)
 have tT:=Q08;have cT:=Qpd;have mR:=Qch;have C1:=hid (Q0p z k s w);have q1:=fun (W:World) (u:TypeId) (x:Value)=>run_eql_iface_nil (P:=Tryz.prog) (w:=W) 53 (by kernel_rfl) u x
 generalize (z==k)=R at *;unfold Q07 ufl at *;go_enter Tryz.func32,Tryz.ntmps32;go_wp2_with (first
  | (go_at_call 54;refine C1.out.mono ?_;rintro e w1 ⟨rfl,hb⟩;have HB:=hid hb;clear hb)
  | go_in)
 go_ret;exact⟨rfl,HB.out⟩
def numL:List Int:=[30,31,32,50,51,61,62]
def Qg3(z:Int):Int:=if numL.contains z then z else 60
theorem Qp1(i:Nat)(hi:i<7):i=0∧numL.getD i 0=30∨i=1∧numL.getD i 0=31∨i=2∧numL.getD i 0=32∨i=3∧numL.getD i 0=50∨i=4∧numL.getD i 0=51∨i=5∧numL.getD i 0=61∨i=6∧numL.getD i 0=62:=by
 match i,hi with
 | 0,_=>simp[numL]
 | 1,_=>simp[numL]
 | 2,_=>simp[numL]
 | 3,_=>simp[numL]
 | 4,_=>simp[numL]
 | 5,_=>simp[numL]
 | 6,_=>simp[numL]
theorem Qxx{z:Int}(i:Nat)(hi:i<7)(h:z=numL.getD i 0):Qg3 z=z:=by
 rcases Qp1 i hi with ⟨-,e⟩|⟨-,e⟩|⟨-,e⟩|⟨-,e⟩|⟨-,e⟩|⟨-,e⟩|⟨-,e⟩ <;> (rw[e] at h;subst h;rfl)
theorem Q0f{z:Int}(h:∀ j,j<7→z≠numL.getD j 0):Qg3 z=60:=by
 unfold Qg3;rw[if_neg]
 intro hc;have:=h 0 (by decide)
 have:=h 1 (by decide)
 have:=h 2 (by decide)
 have:=h 3 (by decide)
 have:=h 4 (by decide)
 have:=h 5 (by decide)
 have:=h 6 (by decide)
 simp[numL] at *;omega
theorem Qfe(z:Int)(s:ByteArray)(w:World) :
  Calls Tryz.prog 47 #[ufl z s] w fun e w'=>e=.returned (.int .i64 (Qg3 z))∧Below w.heap.size w w':=by
 have C1:=hid (fun k W=>Qyt z k s W);have HB0:=hid ((Below.refl w.heap.size w).alloc zr (.cells #[.int .i64 30,.int .i64 31,.int .i64 32,.int .i64 50,.int .i64 51,.int .i64 61,.int .i64 62] 36));have q1:=fun (W:World) (u:TypeId) (x:Value)=>run_eql_iface_nil (P:=Tryz.prog) (w:=W) 53 (by kernel_rfl) u x
 obtain⟨R,hR⟩:∃ R,R=Qg3 z:=⟨_,rfl⟩
 rw[← hR]
 have HR:=hid hR;clear hR;unfold ufl Q07 at *;go_enter Tryz.func47,Tryz.ntmps47;go_wp2_with fail;have hcell:∀ (W:World),Below (w.heap.size+1) (w.alloc (.cells #[.int .i64 30,.int .i64 31,.int .i64 32,.int .i64 50,.int .i64 51,.int .i64 61,.int .i64 62] 36)) W→∀ j,j<7→W.cell? ⟨w.heap.size,j,none⟩=some (.int .i64 (numL.getD j 0)):=fun W hW j hj=>by
  rw[hW.cell (Nat.lt_succ_self _),World.cell?_alloc_at _ _ _ _ rfl]
  rcases Qp1 j hj with ⟨rfl,e⟩|⟨rfl,e⟩|⟨rfl,e⟩|⟨rfl,e⟩|⟨rfl,e⟩|⟨rfl,e⟩|⟨rfl,e⟩ <;> (rw[e];rfl)
 have HC:=hid hcell;clear hcell;go_loopw [9] (fun v wl=>∃ i:Nat,i≤7∧v=.int .i64 (i:Int)∧Hid (Below (w.heap.size+1) (w.alloc (.cells #[.int .i64 30,.int .i64 31,.int .i64 32,.int .i64 50,.int .i64 51,.int .i64 61,.int .i64 62] 36)) wl)∧Hid (∀ j,j<i→z≠numL.getD j 0)) (fun v _=>7 - (intOf v).toNat)
 case atStart=>exact⟨0,Nat.zero_le _,rfl,Below.refl _ _,fun j hj=>absurd hj (Nat.not_lt_zero _)⟩
 case round =>
  obtain⟨i,hi,rfl,HB,HN⟩:=hrel;by_cases hlt:i<7
  ·
   have hx:=HC.out _ HB.out i hlt;have C2:=hid (C1.out (numL.getD i 0) wr);obtain⟨y,hy⟩:∃ y,y=numL.getD i 0:=⟨_,rfl⟩
   rw[← hy] at hx C2
   have HY:=hid hy;clear hy;by_cases hzy:z=y
   ·
    have e:(z==y)=true:=by simpa using hzy
    rw[e] at C2
    have hz:R=y:=by rw[HR.out,Qxx i hlt (hzy.trans HY.out)];exact hzy
    clear hzy e HR;subst hz;go_wp2_with fail;refine C2.out.mono ?_;rintro e w2 ⟨rfl,hb⟩;have HB2:=hid (HB0.out.trans ((HB.out.mono (Nat.le_succ _)).trans (hb.mono (Nat.le_trans (Nat.le_succ _) (by have:=HB.out.size;simpa using this)))));clear hb;go_wp2_with fail;go_ret;exact⟨rfl,HB2.out⟩
   ·
    have e:(z==y)=false:=by simpa using hzy
    rw[e] at C2
    clear e;have HZY:=hid hzy;clear hzy;go_wp2_with fail;refine C2.out.mono ?_;rintro e w2 ⟨rfl,hb⟩;have HB2:=hid (HB.out.trans (hb.mono (by have:=HB.out.size;simpa using this)));clear hb;go_wp2_with fail;go_roundw
    case rel =>
     refine⟨i+1,by omega,by go_num,HB2.out,fun j hj=>?_⟩;rcases Nat.lt_succ_iff_lt_or_eq.1 hj with h|rfl
     ·
      exact HN.out j h
     ·
      rw[← HY.out];exact HZY.out
    case measure=>simp[intOf];omega
  ·
   obtain rfl:i=7:=by omega
   have hz:R=60:=HR.out.trans (Q0f HN.out);clear HR;subst hz;have HBE:=hid (HB0.out.trans (HB.out.mono (Nat.le_succ _)));go_wp2_with fail;go_ret;exact⟨rfl,HBE.out⟩
theorem Qnw(w:World):Calls Tryz.prog 47 #[.nilIface] w fun e w'=>e=.returned (.int .i64 0)∧w=w':=by
 go_enter Tryz.func47,Tryz.ntmps47;go_wp2_with fail;go_ret;exact⟨rfl,rfl⟩
theorem Qlw(s:ByteArray)(w:World):Calls Tryz.prog 122 #[.string s] w fun e w'=>e=.returned (ufl 60 s)∧w=w':=by
 go_enter Tryz.func122,Tryz.ntmps122;go_wp2_with fail;go_ret;exact⟨rfl,rfl⟩
theorem Qnf(A:Snt)(s:ByteArray)(n v:Nat)(w:World)(hA:Lds A w) :
  Calls Tryz.prog 139 #[Qbq 2 s n v] w (Why A (Qag (ep 2 s n v)) w):=by
 obtain⟨R,hR⟩:∃ R,R=Qag (ep 2 s n v):=⟨_,rfl⟩
 rw[← hR]
 have hR2:R=(s.data.toList.isEmpty&&(decide (0<n)&&(decide (n≤4294967295)&&decide (v≤4294967295)))):=by rw[hR];unfold Qag;rw[if_neg (show ¬ (ep 2 s n v).scheme=1 by show ¬ (2:Int)=1;decide)];rfl
 clear hR;have hse:=Ql1 s;unfold Qbq;have gu:(w.alloc (zo3 2 s n v)).cell? ⟨4,0,none⟩=some (snt A.u):=(hA.alloc _).cu;have gn:(w.alloc (zo3 2 s n v)).cell? ⟨5,0,none⟩=some (snt A.n):=(hA.alloc _).cn;clear hA;unfold snt at gu gn;have hN:(decide (0<n)&&(decide (n≤4294967295)&&decide (v≤4294967295)))=(decide ¬ ((n:Int)=0)&&(decide ¬ (4294967295<(n:Int))&&decide ¬ (4294967295<(v:Int)))):=by
  rw[Bool.eq_iff_iff];simp;omega
 rw[hN] at hR2
 clear hN;generalize (n:Int)=N at *;generalize (v:Int)=V at *;cases he:s.data.toList.isEmpty with
 | false =>
  rw[he] at hse hR2
  have hr:R=false:=hR2;subst hr;clear hR2 he;go_enter Tryz.func139,Tryz.ntmps139;go_wp2_with fail;go_ret;exact⟨zb,.inr ⟨rfl,A.n,.inr (.inl rfl),rfl⟩⟩
 | true =>
  rw[he] at hse hR2
  clear he;by_cases h1:N=0
  ·
   subst h1;have hr:R=false:=by rw[hR2];simp
   subst hr;clear hR2;go_enter Tryz.func139,Tryz.ntmps139;go_wp2_with fail;go_ret;exact⟨zb,.inr ⟨rfl,A.u,.inr (.inr (.inl rfl)),rfl⟩⟩
  by_cases h2:4294967295<N
  ·
   have hr:R=false:=by rw[hR2];simp;omega
   subst hr;clear hR2;go_enter Tryz.func139,Tryz.ntmps139;go_wp2_with fail;go_ret;exact⟨zb,.inr ⟨rfl,A.u,.inr (.inr (.inl rfl)),rfl⟩⟩
  have h2':N≤4294967295:=by omega
  by_cases h3:4294967295<V
  ·
   have hr:R=false:=by rw[hR2];simp;omega
   subst hr;clear hR2;go_enter Tryz.func139,Tryz.ntmps139;go_wp2_with fail;go_ret;exact⟨zb,.inr ⟨rfl,A.u,.inr (.inr (.inl rfl)),rfl⟩⟩
  have h3':V≤4294967295:=by omega
  have hr:R=true:=by rw[hR2];simp;omega
  subst hr;clear hR2;go_enter Tryz.func139,Tryz.ntmps139;go_wp2_with fail;go_ret;exact⟨zb,.inl ⟨rfl,rfl⟩⟩
theorem Why.boxed{A:Snt}{b:Bool}{w:World}{o:Obj}{e:Ending}{w':World}(h:Why A b (w.alloc o) e w'):Why A b w e w' :=
 ⟨((Below.refl _ _).alloc zr o).trans (h.1.mono (Qaa _ _)),h.2⟩
theorem Qkd(A:Snt)(sc:Int)(s:ByteArray)(n v:Nat)(w:World)(hA:Lds A w)(hs:s.size≤140737488355328) :
  Calls Tryz.prog 114 #[Qbq sc s n v] w (Why A (Qag (ep sc s n v)) w):=by
 have gs:(w.alloc (zo3 sc s n v)).cell? ⟨3,0,none⟩=some (snt A.s):=(hA.alloc _).cs;unfold snt at gs;by_cases h1:sc=1
 ·
  subst h1;have C1:=hid (Qng A s n v (w.alloc (zo3 1 s n v)) (hA.alloc _) hs);clear hA gs;generalize Qag (ep 1 s n v)=R at *;unfold Qbq at *;go_enter Tryz.func114,Tryz.ntmps114;go_wp2_with fail;refine C1.out.mono ?_;intro e w1 hy;have HY:=hid hy.boxed;obtain⟨hb,⟨hc,rfl⟩|⟨hc,a,ha,rfl⟩⟩:=hy
  ·
   clear hb hc;go_wp2_with fail;go_ret;exact HY.out
  ·
   clear hb hc ha;unfold snt at *;go_wp2_with fail;go_ret;exact HY.out
 by_cases h2:sc=2
 ·
  subst h2;have C1:=hid (Qnf A s n v (w.alloc (zo3 2 s n v)) (hA.alloc _));clear hA gs;generalize Qag (ep 2 s n v)=R at *;unfold Qbq at *;go_enter Tryz.func114,Tryz.ntmps114;go_wp2_with fail;refine C1.out.mono ?_;intro e w1 hy;have HY:=hid hy.boxed;obtain⟨hb,⟨hc,rfl⟩|⟨hc,a,ha,rfl⟩⟩:=hy
  ·
   clear hb hc;go_wp2_with fail;go_ret;exact HY.out
  ·
   clear hb hc ha;unfold snt at *;go_wp2_with fail;go_ret;exact HY.out
 have hr:Qag (ep sc s n v)=false:=by
  unfold Qag;rw[if_neg (show ¬ (ep sc s n v).scheme=1 from h1)]
  have:((ep sc s n v).scheme==2)=false:=beq_eq_false_iff_ne.2 h2
  rw[this,Bool.false_and]
 rw[hr]
 clear hr;unfold Qbq at *;go_enter Tryz.func114,Tryz.ntmps114;go_wp2_with fail;go_ret;exact⟨zb,.inr ⟨rfl,A.s,.inl rfl,rfl⟩⟩
theorem Qe2(A:Snt)(sc:Int)(s:ByteArray)(n v:Nat)(w:World)(hA:Lds A w)(hs:s.size≤140737488355328) :
  Calls Tryz.prog 83 #[Qbq sc s n v] w fun e w'=>e=.returned (.bool (Qag (ep sc s n v)))∧Below w.heap.size w w':=by
 have C1:=hid (Qkd A sc s n v (w.alloc (zo3 sc s n v)) (hA.alloc _) hs);clear hA;generalize Qag (ep sc s n v)=R at *;unfold Qbq at *;have q1:=fun (W:World) (u:TypeId) (x:Value)=>run_eql_iface_nil (P:=Tryz.prog) (w:=W) 53 (by kernel_rfl) u x
 go_enter Tryz.func83,Tryz.ntmps83;go_wp2_with fail;refine C1.out.mono ?_;intro e w1 hy;obtain⟨hb,⟨rfl,rfl⟩|⟨rfl,a,ha,rfl⟩⟩:=hy
 ·
  have HB:=hid hb;clear hb;go_wp2_with fail;go_ret;exact⟨rfl,zb.trans (HB.out.mono (Qaa _ _))⟩
 ·
  have HB:=hid hb;clear hb ha;unfold snt at *;go_wp2_with fail;go_ret;exact⟨rfl,zb.trans (HB.out.mono (Qaa _ _))⟩
theorem Qhf(sc:Int)(s:ByteArray)(n v:Nat)(w:World) :
  Calls Tryz.prog 84 #[Qbq sc s n v] w fun e w'=>e=.returned (.bool (Qby (ep sc s n v)))∧Below w.heap.size w w':=by
 obtain⟨R,hR⟩:∃ R,R=Qby (ep sc s n v):=⟨_,rfl⟩
 rw[← hR]
 have HR:=hid hR;clear hR;unfold Qbq;go_enter Tryz.func84,Tryz.ntmps84;go_wp2_with fail;all_goals go_ret
 all_goals
  refine⟨congrArg (fun b=>Ending.returned (Value.bool b)) ((?_:_=_).trans HR.out.symm),zb⟩;unfold Qby ep;simp[← Lib.toList_data, *]
open Go.Lib (decDigits)
theorem Qbh{w w':World}{c0 c1 c2 c3:Value}{t:TypeId}(h:Below (w.alloc (.cells #[c0,c1,c2,c3] t)).heap.size (w.alloc (.cells #[c0,c1,c2,c3] t)) w') :
  w'.cell? ⟨w.heap.size,0,none⟩=some c0∧w'.cell? ⟨w.heap.size,1,none⟩=some c1∧w'.cell? ⟨w.heap.size,2,none⟩=some c2∧w'.cell? ⟨w.heap.size,3,none⟩=some c3:=by
 refine⟨?_,?_,?_,?_⟩ <;> (rw[h.cell (by simp),World.cell?_alloc_at _ _ _ _ rfl];rfl)
theorem Qo4(sc:Int)(s:ByteArray)(n v:Nat):(ep sc s n v).name=s.data.toList:=rfl
theorem Qq6{w W':World}{g:Nat}(hg:g=w.heap.size)(h:Below (g+1) (w.alloc zk5) W') :
  (W'.cell? ⟨g,0,none⟩=some (.int .i64 0)∧W'.cell? ⟨g,1,none⟩=some (.string ⟨#[]⟩)∧W'.cell? ⟨g,2,none⟩=some (.int .u64 0)∧W'.cell? ⟨g,3,none⟩=some (.int .u64 0)) ∧
  (W'.frozen? ⟨g,0,none⟩=false∧W'.frozen? ⟨g,1,none⟩=false∧W'.frozen? ⟨g,2,none⟩=false∧W'.frozen? ⟨g,3,none⟩=false):=by
 subst hg;exact⟨Qbh (h.mono (by simp)),(h.frozen (p:=⟨w.heap.size,0,none⟩) (Nat.lt_succ_self _)).trans (by simp),(h.frozen (p:=⟨w.heap.size,1,none⟩) (Nat.lt_succ_self _)).trans (by simp),(h.frozen (p:=⟨w.heap.size,2,none⟩) (Nat.lt_succ_self _)).trans (by simp),(h.frozen (p:=⟨w.heap.size,3,none⟩) (Nat.lt_succ_self _)).trans (by simp)⟩
theorem Qcp{B g:Nat}{w W':World}{u0 u1 u2 u3:Value}(h:Below B w W')(hg:B≤g):Below B w ((((W'.setCell ⟨g,0,none⟩ u0).setCell ⟨g,1,none⟩ u1).setCell ⟨g,2,none⟩ u2).setCell ⟨g,3,none⟩ u3) :=
 (((h.setCell (p:=⟨g,0,none⟩) hg _).setCell (p:=⟨g,1,none⟩) hg _).setCell (p:=⟨g,2,none⟩) hg _).setCell (p:=⟨g,3,none⟩) hg _
theorem Qgg(s:ByteArray)(w:World)(hs:s.size≤140737488355328) :
  Calls Tryz.prog 89 #[.string s] w fun e w'=>e=.returned (.string s)∧Below w.heap.size w w':=by
 have C1:=hid (Tryz.stringslite_Clone s w (by omega));go_enter Tryz.func89,Tryz.ntmps89;go_wp2_with fail;refine C1.out.mono ?_;rintro e w1 ⟨rfl,hb⟩;have HB:=hid hb;clear hb;go_wp2_with fail;go_ret;exact⟨rfl,HB.out⟩
end Go.Proofs.YtbnfkjkoinbkgaaGreatDoor
