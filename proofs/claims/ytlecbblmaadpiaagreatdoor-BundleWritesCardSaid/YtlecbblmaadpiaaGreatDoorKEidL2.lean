import Derived.Test.YtlecbblmaadpiaaGreatDoorKKRd
import Derived.Test.YtlecbblmaadpiaaGreatDoorKNumE
import Derived.Lib.Bytealg
import Derived.Lib.IndexLaws
import Derived.Lib.ParseIntB
import Derived.Lib.Strings
import Derived.Test.YtlecbblmaadpiaaGreatDoorRows
import Derived.Shelf.Small.Strs
import Derived.Shelf.Strings.Search1
import Derived.Shelf.Small.Wraps
import Derived.Ground.MpProg
import Derived.Shelf.Pu.Clone
import Derived.Shelf.RegionOpenPlain
import Derived.Deep.DeepFit
namespace Go.Proofs.YtlecbblmaadpiaaGreatDoor
set_option maxRecDepth 100000
set_option maxHeartbeats 16000000
open Go.Lib (decDigits)
def ahead (c:UInt8) (l:List UInt8):List UInt8:=l.takeWhile fun x=>x != c
def behind (c:UInt8) (l:List UInt8):List UInt8:=l.drop ((ahead c l).length+1)
def hasB (c:UInt8) (l:List UInt8):Bool:=decide ((ahead c l).length<l.length)
theorem ahead_nil (c:UInt8):ahead c []=[]:=rfl
theorem ahead_cons (c x:UInt8) (l:List UInt8):ahead c (x::l)=if x=c then [] else x::ahead c l:=by
 unfold ahead
 rw [List.takeWhile_cons]
 by_cases h:x=c <;> simp [h]
theorem ahead_no (c:UInt8):∀ l:List UInt8,∀ x∈ahead c l,x≠c
 | [],x,h=>by rw [ahead_nil] at h;cases h
 | y::l,x,h=>by
  rw [ahead_cons] at h
  split at h
  ·
   cases h
  ·
   rename_i hne
   rcases List.mem_cons.1 h with rfl|h
   ·
    exact hne
   ·
    exact ahead_no c l x h
theorem ahead_le (c:UInt8):∀ l:List UInt8,(ahead c l).length≤l.length
 | []=>Nat.le_refl _
 | y::l=>by
  rw [ahead_cons]
  split
  ·
   exact Nat.zero_le _
  ·
   have:=ahead_le c l;simp only [List.length_cons];omega
theorem ahead_take (c:UInt8):∀ l:List UInt8,ahead c l=l.take (ahead c l).length
 | []=>rfl
 | y::l=>by
  rw [ahead_cons]
  split
  ·
   rfl
  ·
   have:=ahead_take c l
   simp only [List.length_cons,List.take_succ_cons]
   rw [← this]
theorem ahead_all {c:UInt8} {l:List UInt8} (h:hasB c l=false):ahead c l=l:=by
 have h1:=ahead_le c l
 have h2:(ahead c l).length=l.length:=by unfold hasB at h;simp at h;omega
 rw [ahead_take c l,h2,List.take_length]
theorem behind_nil {c:UInt8} {l:List UInt8} (h:hasB c l=false):behind c l=[]:=by
 unfold behind
 rw [ahead_all h]
 simp
theorem cut_eq {c:UInt8}:∀ {l:List UInt8},hasB c l=true→l=ahead c l++c::behind c l
 | [],h=>by simp [hasB] at h
 | y::l,h=>by
  unfold behind
  rw [ahead_cons]
  by_cases hy:y=c
  ·
   subst hy;simp
  ·
   rw [if_neg hy]
   have h':hasB c l=true:=by
    unfold hasB at h ⊢
    rw [ahead_cons,if_neg hy] at h
    simp at h ⊢
    omega
   have e:=cut_eq h'
   unfold behind at e
   simp only [List.length_cons,List.drop_succ_cons,List.cons_append]
   rw [← e]
theorem index_ahead (c:UInt8):∀ l:List UInt8,Lib.indexByte l c=if hasB c l=true then ((ahead c l).length:Int) else -1
 | []=>by simp [Lib.indexByte,hasB]
 | y::l=>by
  have ih:=index_ahead c l
  have e1:hasB c (y::l)=if y=c then true else hasB c l:=by
   unfold hasB
   rw [ahead_cons]
   by_cases hy:y=c <;> simp [hy]
  rw [Lib.indexByte,e1,ahead_cons]
  by_cases hy:y=c
  ·
   subst hy;simp
  ·
   have hb:(y==c)=false:=by simpa using hy
   rw [hb,if_neg hy,if_neg hy,ih]
   rw [if_neg (by simp)]
   by_cases hh:hasB c l=true
   ·
    rw [if_pos hh,if_pos hh]
    have:¬ ((((ahead c l).length:Int) == -1)=true):=by rw [beq_iff_eq];omega
    rw [if_neg this,List.length_cons]
    omega
   ·
    rw [if_neg hh,if_neg hh];rfl
def nameC (s:List UInt8):Bool :=
 decide (s.length≤64)&&(Lib.hasPrefix s [47,47]&&(hasB 47 (s.drop 2)&&(!(ahead 47 (s.drop 2)).isEmpty&&((ahead 47 (s.drop 2)).all letterB&&(behind 47 (s.drop 2)).all lsB))))
theorem beq_comm_u (a b:UInt8):(a==b)=(b==a):=by
 by_cases h:a=b
 ·
  subst h;rfl
 ·
  have h2:¬ b=a:=fun e=>h e.symm
  rw [beq_eq_false_iff_ne.2 h,beq_eq_false_iff_ne.2 h2]
theorem toSlash_ahead (l:List UInt8):toSlash l=(ahead 47 l).length:=rfl
theorem letter_ls {c:UInt8} (h:c≠47):lsB c=letterB c:=by
 unfold lsB
 have:(c==47)=false:=by simpa using h
 rw [this,Bool.false_or]
theorem all_ls {l:List UInt8} (h:∀ x∈l,x≠47):l.all lsB=l.all letterB:=by
 induction l with
 | nil=>rfl
 | cons a l ih =>
  rw [List.all_cons,List.all_cons,letter_ls (h a (by simp)),ih (fun x hx=>h x (by simp [hx]))]
theorem nameC_eq (s:List UInt8):nameC s=nameB s:=by
 unfold nameC nameB
 congr 1
 match s with
 | []=>rfl
 | [a]=>simp [Lib.hasPrefix,List.isPrefixOf]
 | a::b::r =>
  have e1:Lib.hasPrefix (a::b::r) [47,47]=(a==47&&b==47):=by
   simp only [Lib.hasPrefix,List.isPrefixOf,Bool.and_true]
   rw [show ((47:UInt8)==a)=(a==47) from beq_comm_u _ _,show ((47:UInt8)==b)=(b==47) from beq_comm_u _ _]
  rw [e1]
  congr 1
  show (hasB 47 r&&_)=_
  rw [show (a::b::r).drop 2=r from rfl]
  by_cases hh:hasB 47 r=true
  ·
   have e:=cut_eq hh
   have e2:r.all lsB=((ahead 47 r).all letterB&&(behind 47 r).all lsB):=by
    conv=>lhs;rw [e]
    rw [List.all_append,List.all_cons,all_ls (ahead_no 47 r)]
    rfl
   have e3:decide (toSlash r<r.length)=true:=hh
   have e4:(!(ahead 47 r).isEmpty)=decide (1≤toSlash r):=by
    rw [toSlash_ahead]
    cases ahead 47 r <;> simp
   rw [hh,e3,e2,e4,Bool.true_and,Bool.and_true,Bool.and_comm]
  ·
   have e3:decide (toSlash r<r.length)=false:=by rw [Bool.not_eq_true] at hh;exact hh
   rw [Bool.not_eq_true] at hh
   rw [hh,e3,Bool.false_and,Bool.and_false,Bool.and_false]
end Go.Proofs.YtlecbblmaadpiaaGreatDoor
/- The library's contracts of the functions that layer 4 calls, at this program. -/
namespace Go.Proofs
open Go.Shelf
def Tryz.lays137_ren:Go.Shelf.Ren:=⟨fun|137=>216|217=>192|266=>217|n=>n,fun|9=>9|5=>5|3=>3|n=>n,fun|n=>n⟩
theorem Tryz.lays137:Go.Proofs.Lays.n137 Tryz.prog Tryz.lays137_ren:={
 mixed:=by kernel_rfl
 f137:=Tryz.func216.trans (congrArg some (by kernel_rfl))
 f217:=Tryz.func192.trans (congrArg some (by kernel_rfl))
 f266:=Tryz.func217.trans (congrArg some (by kernel_rfl))
 t3:=Tryz.underlying3
 a3:=Tryz.isAgg3
 z3:=Tryz.sizeOf3
 v3:=Tryz.zeroValue3
 t5:=Tryz.underlying5
 a5:=Tryz.isAgg5
 z5:=Tryz.sizeOf5
 v5:=Tryz.zeroValue5
 t9:=Tryz.underlying9
 a9:=Tryz.isAgg9
 z9:=Tryz.sizeOf9
 v9:=Tryz.zeroValue9 }
open Go.RowKit in
theorem Tryz.strings_IndexByte (s:ByteArray) (c:Int) (w:World) :
  Calls Tryz.prog 216 #[.string s,.int .u8 c] w fun e w'=>e=.returned (.int .i64 (Lib.indexByte s.data.toList c.toNat.toUInt8))∧w'=w:=Any.strings_IndexByte Tryz.lays137 s c w
def Tryz.lays103_ren:Go.Shelf.Ren:=⟨fun|103=>155|210=>196|206=>219|n=>n,fun|9=>9|4=>4|24=>195|3=>3|n=>n,fun|n=>n⟩
theorem Tryz.lays103:Go.Proofs.Lays.n103 Tryz.prog Tryz.lays103_ren:={
 mixed:=by kernel_rfl
 f103:=Tryz.func155.trans (congrArg some (by kernel_rfl))
 f206:=Tryz.func219.trans (congrArg some (by kernel_rfl))
 f210:=Tryz.func196.trans (congrArg some (by kernel_rfl))
 t3:=Tryz.underlying3
 a3:=Tryz.isAgg3
 z3:=Tryz.sizeOf3
 v3:=Tryz.zeroValue3
 t4:=Tryz.underlying4
 a4:=Tryz.isAgg4
 z4:=Tryz.sizeOf4
 v4:=Tryz.zeroValue4
 t9:=Tryz.underlying9
 a9:=Tryz.isAgg9
 z9:=Tryz.sizeOf9
 v9:=Tryz.zeroValue9
 t24:=Tryz.underlying195
 a24:=Tryz.isAgg195
 z24:=Tryz.sizeOf195
 v24:=Tryz.zeroValue195 }
open Go.RowKit in
theorem Tryz.strings_CutPrefix (s p:ByteArray) (w:World) :
  Calls Tryz.prog 155 #[.string s,.string p] w fun e w'=>e=.returned (.tuple #[.string ⟨(Lib.trimPrefix s.data.toList p.data.toList).toArray⟩,.bool (Lib.hasPrefix s.data.toList p.data.toList)])∧w'=w:=Any.strings_CutPrefix Tryz.lays103 s p w
def Tryz.laysPu25_ren:Go.Shelf.Ren:=⟨fun|25=>197|n=>n,fun|9=>9|3=>3|4=>4|37=>27|0=>0|47=>267|5=>5|n=>n,fun|n=>n⟩
theorem Tryz.laysPu25:Go.Proofs.LaysPu.n25 Tryz.prog Tryz.laysPu25_ren:={
 mixed:=by kernel_rfl
 f25:=Tryz.func197.trans (congrArg some (by kernel_rfl))
 t0:=Tryz.underlying0
 a0:=Tryz.isAgg0
 z0:=Tryz.sizeOf0
 v0:=Tryz.zeroValue0
 i0:=by kernel_rfl
 t3:=Tryz.underlying3
 a3:=Tryz.isAgg3
 z3:=Tryz.sizeOf3
 v3:=Tryz.zeroValue3
 i3:=by kernel_rfl
 t4:=Tryz.underlying4
 a4:=Tryz.isAgg4
 z4:=Tryz.sizeOf4
 v4:=Tryz.zeroValue4
 i4:=by kernel_rfl
 t5:=Tryz.underlying5
 a5:=Tryz.isAgg5
 z5:=Tryz.sizeOf5
 v5:=Tryz.zeroValue5
 i5:=by kernel_rfl
 t9:=Tryz.underlying9
 a9:=Tryz.isAgg9
 z9:=Tryz.sizeOf9
 v9:=Tryz.zeroValue9
 i9:=by kernel_rfl
 t37:=Tryz.underlying27
 a37:=Tryz.isAgg27
 z37:=Tryz.sizeOf27
 v37:=Tryz.zeroValue27
 i37:=by kernel_rfl
 t47:=Tryz.underlying267
 a47:=Tryz.isAgg267
 z47:=Tryz.sizeOf267
 v47:=Tryz.zeroValue267
 i47:=by kernel_rfl }
open Go.RowKit in
theorem Tryz.stringslite_Clone (s:ByteArray) (w:World) (hlim:s.size≤281474976710656) :
  Calls Tryz.prog 197 #[.string s] w fun e w'=>e=.returned (.string s)∧Below w.heap.size w w':=AnyPu.stringslite_Clone Tryz.laysPu25 s w hlim
def Tryz.lays217_ren:Go.Shelf.Ren:=⟨fun|217=>192|266=>217|n=>n,fun|9=>9|5=>5|3=>3|n=>n,fun|n=>n⟩
theorem Tryz.lays217:Go.Proofs.Lays.n217 Tryz.prog Tryz.lays217_ren:={
 mixed:=by kernel_rfl
 f217:=Tryz.func192.trans (congrArg some (by kernel_rfl))
 f266:=Tryz.func217.trans (congrArg some (by kernel_rfl))
 t3:=Tryz.underlying3
 a3:=Tryz.isAgg3
 z3:=Tryz.sizeOf3
 v3:=Tryz.zeroValue3
 t5:=Tryz.underlying5
 a5:=Tryz.isAgg5
 z5:=Tryz.sizeOf5
 v5:=Tryz.zeroValue5
 t9:=Tryz.underlying9
 a9:=Tryz.isAgg9
 z9:=Tryz.sizeOf9
 v9:=Tryz.zeroValue9 }
open Go.RowKit Go.Lib in
theorem Tryz.stringslite_IndexByte (s:ByteArray) (c:Int) (w:World) :
  Calls Tryz.prog 192 #[.string s,.int .u8 c] w fun e w'=>e=.returned (.int .i64 (Lib.indexByte s.data.toList c.toNat.toUInt8))∧w'=w:=Any.stringslite_IndexByte Tryz.lays217 s c w
end Go.Proofs
/- What layer 4's questions about bytes and texts return: isLetter, or's function, only (at both), isName; strings.Cut at one byte. -/
namespace Go.Proofs.YtlecbblmaadpiaaGreatDoor
set_option maxRecDepth 100000
set_option maxHeartbeats 16000000
open Go.RowKit
open Go.Lib (hid)
theorem letter_num (x:UInt8):letterB x=((decide (97≤x.toNat)&&decide (x.toNat≤122))||((decide (48≤x.toNat)&&decide (x.toNat≤57))||(decide (x.toNat=46)||(decide (x.toNat=45)||decide (x.toNat=95))))):=by
 have e:∀ k:UInt8,(x==k)=decide (x.toNat=k.toNat):=fun k=>by
  by_cases h:x=k
  ·
   subst h;simp
  ·
   rw [beq_eq_false_iff_ne.2 h,decide_eq_false]
   intro h2
   exact h (UInt8.toNat_inj.1 h2)
 unfold letterB
 rw [e 46,e 45,e 95]
 rfl
theorem isletter_n (X:Nat) (w:World) :
  Calls Tryz.prog 190 #[.int .u8 (X:Int)] w fun e w'=>e=.returned (.bool ((decide (97≤X)&&decide (X≤122))||((decide (48≤X)&&decide (X≤57))||(decide (X=46)||(decide (X=45)||decide (X=95))))))∧w=w':=by
 obtain ⟨R,hR⟩:∃ R,R=((decide (97≤X)&&decide (X≤122))||((decide (48≤X)&&decide (X≤57))||(decide (X=46)||(decide (X=45)||decide (X=95))))):=⟨_,rfl⟩
 rw [← hR]
 have HR:=hid hR
 clear hR
 go_enter Tryz.func190,Tryz.ntmps190
 go_wp2
 all_goals go_ret
 all_goals
  refine ⟨congrArg (fun b=>Ending.returned (Value.bool b)) ((?_:_=_).trans HR.out.symm),rfl⟩
  rw [Bool.eq_iff_iff]
  simp
  try omega
theorem isletter_any (x:UInt8) (w:World) :
  Calls Tryz.prog 190 #[.int .u8 (x.toNat:Int)] w fun e w'=>e=.returned (.bool (letterB x))∧w=w':=by
 rw [letter_num]
 exact isletter_n x.toNat w
def lsFn (b1 b2:Nat):Value:=.func (.func 215) #[] #[.pointer (some ⟨b1,0,none⟩),.pointer (some ⟨b2,0,none⟩)]
structure LsAt2 (b1 b2:Nat) (w:World):Prop where
 f:w.cell? ⟨b1,0,none⟩=some (.func (.func 190) #[] #[])
 s:w.cell? ⟨b2,0,none⟩=some (.string ⟨#[47]⟩)
theorem ls_any (x:UInt8) (b1 b2:Nat) (w:World) (h:LsAt2 b1 b2 w) :
  Calls Tryz.prog 215 #[.int .u8 (x.toNat:Int),.pointer (some ⟨b1,0,none⟩),.pointer (some ⟨b2,0,none⟩)] w fun e w'=>e=.returned (.bool (lsB x))∧w=w':=by
 have h1:=h.f
 have h2:=h.s
 have C1:=hid (isletter_any x w)
 have C2:=hid (Tryz.strings_IndexByte ⟨#[47]⟩ (x.toNat:Int) w)
 have e2:Lib.indexByte (⟨#[47]⟩:ByteArray).data.toList (x.toNat:Int).toNat.toUInt8=if x=47 then 0 else -1:=by
  have ex:(x.toNat:Int).toNat.toUInt8=x:=by simp
  rw [ex]
  show Lib.indexByte [47] x=_
  simp only [Lib.indexByte]
  by_cases hx:x=47
  ·
   subst hx;rfl
  ·
   have:((47:UInt8)==x)=false:=beq_eq_false_iff_ne.2 (fun e=>hx e.symm)
   rw [this,if_neg hx];rfl
 have E2:=hid e2
 have hl:lsB x=(letterB x||decide (x=47)):=by
  unfold lsB
  rw [Bool.or_comm]
  congr 1
 obtain ⟨R,hR⟩:∃ R,R=lsB x:=⟨_,rfl⟩
 rw [← hR]
 rw [← hR] at hl
 have HL:=hid hl
 clear hl hR e2 h
 generalize Lib.indexByte (⟨#[47]⟩:ByteArray).data.toList (x.toNat:Int).toNat.toUInt8=I at *
 generalize letterB x=L at *
 generalize x.toNat=X at *
 go_enter Tryz.func215,Tryz.ntmps215
 go_wp2_with (first
  | (go_at_call 190;refine C1.out.mono ?_;rintro e w' ⟨rfl,rfl⟩;cases L)
  | (go_at_call 216;refine C2.out.mono ?_;rintro e w' ⟨rfl,rfl⟩)
  | fail)
 all_goals go_ret
 all_goals
  refine ⟨congrArg (fun b=>Ending.returned (Value.bool b)) ((?_:_=_).trans HL.out.symm),rfl⟩
 all_goals (try rw [E2.out])
 all_goals (by_cases hx:x=47 <;> simp [hx])
theorem only_letter (s:ByteArray) (w:World) (hs:s.size≤140737488355328) :
  Calls Tryz.prog 189 #[.string s,.func (.func 190) #[] #[]] w fun e w'=>e=.returned (.bool (s.data.toList.all letterB))∧w=w':=by
 have hsz:s.size=s.data.toList.length:=Lib.size_eq s
 obtain ⟨R,hR⟩:∃ R,R=s.data.toList.all letterB:=⟨_,rfl⟩
 rw [← hR]
 have HR:=hid hR
 have HS:=hid hsz
 clear hR hsz
 go_enter Tryz.func189,Tryz.ntmps189
 go_wp2_with fail
 go_loop [8] (fun i=>∃ k:Nat,k≤s.size∧i=.int .i64 k∧Hid ((s.data.toList.take k).all letterB=true)) (fun i=>s.size - (intOf i).toNat)
 case atStart=>exact ⟨0,Nat.zero_le _,rfl,by show _=_;simp⟩
 case round =>
  obtain ⟨k,hk,rfl,hp⟩:=hrel
  by_cases hlt:k<s.size
  ·
   have hkl:k<s.data.toList.length:=by rw [← HS.out];exact hlt
   obtain ⟨x,hx⟩:∃ x,x=s.data.toList[k]'hkl:=⟨_,rfl⟩
   have hix:∀ W,(Instr.index 9 (.string s) (.int .i64 (k:Int))).run Tryz.prog W=.ok (.int .u8 x.toNat) W:=by
    intro W
    rw [hx]
    go_simp
    rfl
   have hstep:(s.data.toList.take (k+1)).all letterB=letterB x:=by
    rw [List.take_succ_eq_append_getElem hkl,List.all_append,hp.out,Bool.true_and,← hx]
    simp
   have HST:=hid hstep
   have C1:=hid (isletter_any x w)
   clear hx hstep
   have hkk:decide ((k:Int)<(s.size:Int))=true:=by simp;omega
   cases hlx:letterB x with
   | true =>
    rw [hlx] at C1 HST
    go_wp2_with (first
     | (go_at_call 190;refine C1.out.mono ?_;rintro e w' ⟨rfl,rfl⟩)
     | fail)
    go_round
    case rel=>exact ⟨k+1,by omega,by go_num,HST.out⟩
    case measure=>simp [intOf];omega
   | false =>
    rw [hlx] at C1 HST
    have hf:R=false:=by
     rw [HR.out,← List.take_append_drop (k+1) s.data.toList,List.all_append,HST.out,Bool.false_and]
    subst hf
    go_wp2_with (first
     | (go_at_call 190;refine C1.out.mono ?_;rintro e w' ⟨rfl,rfl⟩)
     | fail)
    go_ret
    exact ⟨rfl,rfl⟩
  ·
   obtain rfl:k=s.size:=by omega
   have e:R=true:=by
    have h:=hp.out
    rw [HS.out,List.take_length] at h
    rw [HR.out,h]
   subst e
   have hkk:decide ((s.size:Int)<(s.size:Int))=false:=by simp
   go_wp2_with fail
   go_ret
   exact ⟨rfl,rfl⟩
theorem only_ls (s:ByteArray) (b1 b2:Nat) (w:World) (hat:LsAt2 b1 b2 w) (hs:s.size≤140737488355328) :
  Calls Tryz.prog 189 #[.string s,lsFn b1 b2] w fun e w'=>e=.returned (.bool (s.data.toList.all lsB))∧w=w':=by
 unfold lsFn
 have hsz:s.size=s.data.toList.length:=Lib.size_eq s
 obtain ⟨R,hR⟩:∃ R,R=s.data.toList.all lsB:=⟨_,rfl⟩
 rw [← hR]
 have HR:=hid hR
 have HS:=hid hsz
 clear hR hsz
 go_enter Tryz.func189,Tryz.ntmps189
 go_wp2_with fail
 go_loop [8] (fun i=>∃ k:Nat,k≤s.size∧i=.int .i64 k∧Hid ((s.data.toList.take k).all lsB=true)) (fun i=>s.size - (intOf i).toNat)
 case atStart=>exact ⟨0,Nat.zero_le _,rfl,by show _=_;simp⟩
 case round =>
  obtain ⟨k,hk,rfl,hp⟩:=hrel
  by_cases hlt:k<s.size
  ·
   have hkl:k<s.data.toList.length:=by rw [← HS.out];exact hlt
   obtain ⟨x,hx⟩:∃ x,x=s.data.toList[k]'hkl:=⟨_,rfl⟩
   have hix:∀ W,(Instr.index 9 (.string s) (.int .i64 (k:Int))).run Tryz.prog W=.ok (.int .u8 x.toNat) W:=by
    intro W
    rw [hx]
    go_simp
    rfl
   have hstep:(s.data.toList.take (k+1)).all lsB=lsB x:=by
    rw [List.take_succ_eq_append_getElem hkl,List.all_append,hp.out,Bool.true_and,← hx]
    simp
   have HST:=hid hstep
   have C1:=hid (ls_any x b1 b2 w hat)
   clear hx hstep
   have hkk:decide ((k:Int)<(s.size:Int))=true:=by simp;omega
   cases hlx:lsB x with
   | true =>
    rw [hlx] at C1 HST
    go_wp2_with (first
     | (go_at_call 215;refine C1.out.mono ?_;rintro e w' ⟨rfl,rfl⟩)
     | fail)
    go_round
    case rel=>exact ⟨k+1,by omega,by go_num,HST.out⟩
    case measure=>simp [intOf];omega
   | false =>
    rw [hlx] at C1 HST
    have hf:R=false:=by
     rw [HR.out,← List.take_append_drop (k+1) s.data.toList,List.all_append,HST.out,Bool.false_and]
    subst hf
    go_wp2_with (first
     | (go_at_call 215;refine C1.out.mono ?_;rintro e w' ⟨rfl,rfl⟩)
     | fail)
    go_ret
    exact ⟨rfl,rfl⟩
  ·
   obtain rfl:k=s.size:=by omega
   have e:R=true:=by
    have h:=hp.out
    rw [HS.out,List.take_length] at h
    rw [HR.out,h]
   subst e
   have hkk:decide ((s.size:Int)<(s.size:Int))=false:=by simp
   go_wp2_with fail
   go_ret
   exact ⟨rfl,rfl⟩
def cutV (c:UInt8) (s:ByteArray):Value:=.tuple #[.string ⟨(ahead c s.data.toList).toArray⟩,.string ⟨(behind c s.data.toList).toArray⟩,.bool (hasB c s.data.toList)]
theorem index_any (s:ByteArray) (c:UInt8) (w:World) :
  Calls Tryz.prog 154 #[.string s,.string ⟨#[c]⟩] w fun e w'=>e=.returned (.int .i64 (if hasB c s.data.toList=true then ((ahead c s.data.toList).length:Int) else -1))∧w=w':=by
 have C1:=hid (Tryz.stringslite_IndexByte s (c.toNat:Int) w)
 have hi:=index_ahead c s.data.toList
 have ec:(c.toNat:Int).toNat.toUInt8=c:=by simp
 obtain ⟨R,hR⟩:∃ R,R=(if hasB c s.data.toList=true then ((ahead c s.data.toList).length:Int) else -1):=⟨_,rfl⟩
 rw [← hR]
 rw [← hR] at hi
 have HI:=hid hi
 have HE:=hid ec
 have HC:Hid (s=⟨#[c]⟩→R=0):=fun e=>by rw [← HI.out,e];simp [Lib.indexByte]
 clear hi ec hR
 go_enter Tryz.func154,Tryz.ntmps154
 go_wp2_with (first
  | (go_at_call 192;refine C1.out.mono ?_;rintro e w' ⟨rfl,rfl⟩;rw [HE.out,HI.out])
  | fail)
 ·
  have h:([c]==s.toList)=true:=by assumption
  go_ret
  refine ⟨?_,rfl⟩
  have e:s=⟨#[c]⟩:=by
   have e1:s.data.toList=[c]:=by rw [← Lib.toList_data];exact (beq_iff_eq.1 h).symm
   rw [← Lib.mk_data s,e1]
  rw [HC.out e]
  rfl
 ·
  go_ret
  exact ⟨rfl,rfl⟩
theorem lcut_any (s:ByteArray) (c:UInt8) (w:World) (hs:s.size≤140737488355328) :
  Calls Tryz.prog 121 #[.string s,.string ⟨#[c]⟩] w fun e w'=>e=.returned (cutV c s)∧∃ m,w'=w.drewN m:=by
 have hsz:s.size=s.data.toList.length:=Lib.size_eq s
 have hle:=ahead_le c s.data.toList
 have C1:=hid (index_any s c w)
 unfold cutV
 by_cases hh:hasB c s.data.toList=true
 ·
  have hlt:(ahead c s.data.toList).length<s.data.toList.length:=by unfold hasB at hh;simpa using hh
  rw [if_pos hh] at C1
  have e1:s.extract 0 (ahead c s.data.toList).length=⟨(ahead c s.data.toList).toArray⟩:=by
   rw [Lib.extract_eq,List.drop_zero,Nat.sub_zero,← ahead_take]
  have e2:s.extract ((ahead c s.data.toList).length+1) s.size=⟨(behind c s.data.toList).toArray⟩:=by
   rw [Lib.extract_eq,hsz,List.take_of_length_le (by rw [List.length_drop];exact Nat.le_refl _)]
   rfl
  rw [hh,← e1,← e2]
  generalize (ahead c s.data.toList).length=n at *
  have c1:(0:Int) ≤ ↑n:=by omega
  have c2:(↑n:Int) ≤ ↑s.size:=by omega
  have c3:(0:Int) ≤ ↑n+1:=by omega
  have c4:(↑n+1:Int) ≤ ↑s.size:=by omega
  have c5:(↑n+1:Int)≤140737488355328:=by omega
  have hwr:IntKind.i64.wrap ((n:Int)+1)=(n:Int)+1:=by rw [IntKind.wrap_i64];omega
  have htn:((n:Int)+1).toNat=n+1:=by omega
  clear hh e1 e2 hle hlt hsz
  go_enter Tryz.func121,Tryz.ntmps121
  go_wp2_with (go_at_call 154;refine C1.out.mono ?_;rintro e w' ⟨rfl,rfl⟩)
  go_region
  go_wp2
  go_ret3
  exact ⟨rfl,1,rfl⟩
 ·
  rw [Bool.not_eq_true] at hh
  have e1:=ahead_all hh
  have e2:=behind_nil hh
  rw [hh] at C1
  simp only [Bool.false_eq_true,if_false] at C1
  rw [hh,e1,e2,Lib.mk_data]
  clear hh e1 e2 hle hsz
  go_enter Tryz.func121,Tryz.ntmps121
  go_wp2_with (go_at_call 154;refine C1.out.mono ?_;rintro e w' ⟨rfl,rfl⟩)
  go_ret3
  exact ⟨rfl,0,rfl⟩
theorem cut_any (s:ByteArray) (c:UInt8) (w:World) (hs:s.size≤140737488355328) :
  Calls Tryz.prog 72 #[.string s,.string ⟨#[c]⟩] w fun e w'=>e=.returned (cutV c s)∧∃ m,w'=w.drewN m:=by
 have C1:=hid (lcut_any s c w hs)
 unfold cutV at *
 go_enter Tryz.func72,Tryz.ntmps72
 go_wp2_with (go_at_call 121;refine C1.out.mono ?_;rintro e w' ⟨rfl,n,rfl⟩)
 go_ret3
 exact ⟨rfl,n,rfl⟩
end Go.Proofs.YtlecbblmaadpiaaGreatDoor
