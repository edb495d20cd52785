/- The plain mathematics of layer 4, second part: a text cut at its first c; a name by its pieces; digits read as they were written; whose text, or item, something could be. No program's number stands here. -/
import Derived.Test.YtldnokgdgafphaaGreatDoorJKRd
import Derived.Test.YtldnokgdgafphaaGreatDoorJMask
import Derived.Lib.Bytealg
import Derived.Lib.IndexLaws
import Derived.Lib.ParseIntB
import Derived.Lib.Strings
import Derived.Test.YtldnokgdgafphaaGreatDoorRows
import Derived.Shelf.Small.Strs
import Derived.Shelf.Strings.Search1
import Derived.Shelf.Small.Wraps
import Derived.Ground.MpProg
import Derived.Shelf.Pu.Clone
import Derived.Shelf.RegionOpenPlain
import Derived.Deep.DeepFit
import Derived.Stop.IfaceNil
namespace Go.Proofs.YtldnokgdgafphaaGreatDoor
open Go.Lib (decDigits)
def ahead (c:UInt8) (l:List UInt8):List UInt8:=l.takeWhile fun x=>x != c
def behind (c:UInt8) (l:List UInt8):List UInt8:=l.drop ((ahead c l).length+1)
def hasB (c:UInt8) (l:List UInt8):Bool:=decide ((ahead c l).length<l.length)
theorem ahead_nil (c:UInt8):ahead c []=[]:=rfl
theorem ahead_cons (c x:UInt8) (l:List UInt8):ahead c (x::l)=if x=c then [] else x::ahead c l:=by
  unfold ahead
  rw [List.takeWhile_cons]
  by_cases h:x=c <;> simp [h]
theorem ahead_no (c:UInt8):∀ l:List UInt8,∀ x∈ahead c l,x≠c
  | [],x,h=>by rw [ahead_nil] at h;cases h
  | y::l,x,h=>by
    rw [ahead_cons] at h
    split at h
    · cases h
    · rename_i hne
      rcases List.mem_cons.1 h with rfl | h
      · exact hne
      · exact ahead_no c l x h
theorem ahead_le (c:UInt8):∀ l:List UInt8,(ahead c l).length≤l.length
  | []=>Nat.le_refl _
  | y::l=>by
    rw [ahead_cons]
    split
    · exact Nat.zero_le _
    · have:=ahead_le c l;simp only [List.length_cons];omega
theorem ahead_take (c:UInt8):∀ l:List UInt8,ahead c l=l.take (ahead c l).length
  | []=>rfl
  | y::l=>by
    rw [ahead_cons]
    split
    · rfl
    · have:=ahead_take c l
      simp only [List.length_cons,List.take_succ_cons]
      rw [← this]
theorem ahead_all {c:UInt8} {l:List UInt8} (h:hasB c l=false):ahead c l=l:=by
  have h1:=ahead_le c l
  have h2:(ahead c l).length=l.length:=by unfold hasB at h;simp at h;omega
  rw [ahead_take c l,h2,List.take_length]
theorem behind_nil {c:UInt8} {l:List UInt8} (h:hasB c l=false):behind c l=[]:=by
  unfold behind
  rw [ahead_all h]
  simp
theorem cut_eq {c:UInt8}:∀ {l:List UInt8},hasB c l=true→l=ahead c l++c::behind c l
  | [],h=>by simp [hasB] at h
  | y::l,h=>by
    unfold behind
    rw [ahead_cons]
    by_cases hy:y=c
    · subst hy;simp
    · rw [if_neg hy]
      have h':hasB c l=true:=by
        unfold hasB at h ⊢
        rw [ahead_cons,if_neg hy] at h
        simp at h ⊢
        omega
      have e:=cut_eq h'
      unfold behind at e
      simp only [List.length_cons,List.drop_succ_cons,List.cons_append]
      rw [← e]
theorem index_ahead (c:UInt8):∀ l:List UInt8,Lib.indexByte l c=if hasB c l=true then ((ahead c l).length:Int) else -1
  | []=>by simp [Lib.indexByte,hasB]
  | y::l=>by
    have ih:=index_ahead c l
    have e1:hasB c (y::l)=if y=c then true else hasB c l:=by
      unfold hasB
      rw [ahead_cons]
      by_cases hy:y=c <;> simp [hy]
    rw [Lib.indexByte,e1,ahead_cons]
    by_cases hy:y=c
    · subst hy;simp
    · have hb:(y==c)=false:=by simpa using hy
      rw [hb,if_neg hy,if_neg hy,ih]
      rw [if_neg (by simp)]
      by_cases hh:hasB c l=true
      · rw [if_pos hh,if_pos hh]
        have:¬ ((((ahead c l).length:Int) == -1)=true):=by rw [beq_iff_eq];omega
        rw [if_neg this,List.length_cons]
        omega
      · rw [if_neg hh,if_neg hh];rfl
def nameC (s:List UInt8):Bool :=
  decide (s.length≤64)&&(Lib.hasPrefix s [47,47]&&(hasB 47 (s.drop 2)&&(!(ahead 47 (s.drop 2)).isEmpty&&((ahead 47 (s.drop 2)).all letterB&&(behind 47 (s.drop 2)).all lsB))))
theorem beq_comm_u (a b:UInt8):(a==b)=(b==a):=by
  by_cases h:a=b
  · subst h;rfl
  · have h2:¬ b=a:=fun e=>h e.symm
    rw [beq_eq_false_iff_ne.2 h,beq_eq_false_iff_ne.2 h2]
theorem toSlash_ahead (l:List UInt8):toSlash l=(ahead 47 l).length:=rfl
theorem letter_ls {c:UInt8} (h:c≠47):lsB c=letterB c:=by
  unfold lsB
  have:(c==47)=false:=by simpa using h
  rw [this,Bool.false_or]
theorem all_ls {l:List UInt8} (h:∀ x∈l,x≠47):l.all lsB=l.all letterB:=by
  induction l with
  | nil=>rfl
  | cons a l ih =>
    rw [List.all_cons,List.all_cons,letter_ls (h a (by simp)),ih (fun x hx=>h x (by simp [hx]))]
theorem nameC_eq (s:List UInt8):nameC s=nameB s:=by
  unfold nameC nameB
  congr 1
  match s with
  | []=>rfl
  | [a]=>simp [Lib.hasPrefix,List.isPrefixOf]
  | a::b::r =>
    have e1:Lib.hasPrefix (a::b::r) [47,47]=(a==47&&b==47):=by
      simp only [Lib.hasPrefix,List.isPrefixOf,Bool.and_true]
      rw [show ((47:UInt8)==a)=(a==47) from beq_comm_u _ _,show ((47:UInt8)==b)=(b==47) from beq_comm_u _ _]
    rw [e1]
    congr 1
    show (hasB 47 r&&_)=_
    rw [show (a::b::r).drop 2=r from rfl]
    by_cases hh:hasB 47 r=true
    · have e:=cut_eq hh
      have e2:r.all lsB=((ahead 47 r).all letterB&&(behind 47 r).all lsB):=by
        conv=>lhs;rw [e]
        rw [List.all_append,List.all_cons,all_ls (ahead_no 47 r)]
        rfl
      have e3:decide (toSlash r<r.length)=true:=hh
      have e4:(!(ahead 47 r).isEmpty)=decide (1≤toSlash r):=by
        rw [toSlash_ahead]
        cases ahead 47 r <;> simp
      rw [hh,e3,e2,e4,Bool.true_and,Bool.and_true,Bool.and_comm]
    · have e3:decide (toSlash r<r.length)=false:=by rw [Bool.not_eq_true] at hh;exact hh
      rw [Bool.not_eq_true] at hh
      rw [hh,e3,Bool.false_and,Bool.and_false,Bool.and_false]
end Go.Proofs.YtldnokgdgafphaaGreatDoor
/- The library's contracts of the functions that layer 4 calls, at this program. -/
namespace Go.Proofs
open Go.Shelf
def Tryz.lays137_ren:Go.Shelf.Ren:=⟨fun | 137=>166 | 217=>169 | 266=>173 | n=>n,fun | 9=>9 | 5=>5 | 3=>3 | n=>n,fun | n=>n⟩
theorem Tryz.lays137:Go.Proofs.Lays.n137 Tryz.prog Tryz.lays137_ren:={
  mixed:=by kernel_rfl
  f137:=Tryz.func166.trans (congrArg some (by kernel_rfl))
  f217:=Tryz.func169.trans (congrArg some (by kernel_rfl))
  f266:=Tryz.func173.trans (congrArg some (by kernel_rfl))
  t3:=Tryz.underlying3
  a3:=Tryz.isAgg3
  z3:=Tryz.sizeOf3
  v3:=Tryz.zeroValue3
  t5:=Tryz.underlying5
  a5:=Tryz.isAgg5
  z5:=Tryz.sizeOf5
  v5:=Tryz.zeroValue5
  t9:=Tryz.underlying9
  a9:=Tryz.isAgg9
  z9:=Tryz.sizeOf9
  v9:=Tryz.zeroValue9 }
open Go.RowKit in
theorem Tryz.strings_IndexByte (s:ByteArray) (c:Int) (w:World) :
    Calls Tryz.prog 166 #[.string s,.int .u8 c] w fun e w'=>e=.returned (.int .i64 (Lib.indexByte s.data.toList c.toNat.toUInt8))∧w'=w:=Any.strings_IndexByte Tryz.lays137 s c w
def Tryz.lays103_ren:Go.Shelf.Ren:=⟨fun | 103=>148 | 210=>163 | 206=>167 | n=>n,fun | 9=>9 | 4=>4 | 24=>207 | 3=>3 | n=>n,fun | n=>n⟩
theorem Tryz.lays103:Go.Proofs.Lays.n103 Tryz.prog Tryz.lays103_ren:={
  mixed:=by kernel_rfl
  f103:=Tryz.func148.trans (congrArg some (by kernel_rfl))
  f206:=Tryz.func167.trans (congrArg some (by kernel_rfl))
  f210:=Tryz.func163.trans (congrArg some (by kernel_rfl))
  t3:=Tryz.underlying3
  a3:=Tryz.isAgg3
  z3:=Tryz.sizeOf3
  v3:=Tryz.zeroValue3
  t4:=Tryz.underlying4
  a4:=Tryz.isAgg4
  z4:=Tryz.sizeOf4
  v4:=Tryz.zeroValue4
  t9:=Tryz.underlying9
  a9:=Tryz.isAgg9
  z9:=Tryz.sizeOf9
  v9:=Tryz.zeroValue9
  t24:=Tryz.underlying207
  a24:=Tryz.isAgg207
  z24:=Tryz.sizeOf207
  v24:=Tryz.zeroValue207 }
open Go.RowKit in
theorem Tryz.strings_CutPrefix (s p:ByteArray) (w:World) :
    Calls Tryz.prog 148 #[.string s,.string p] w fun e w'=>e=.returned (.tuple #[.string ⟨(Lib.trimPrefix s.data.toList p.data.toList).toArray⟩,.bool (Lib.hasPrefix s.data.toList p.data.toList)])∧w'=w:=Any.strings_CutPrefix Tryz.lays103 s p w
def Tryz.laysPu25_ren:Go.Shelf.Ren:=⟨fun | 25=>99 | n=>n,fun | 9=>9 | 3=>3 | 4=>4 | 37=>31 | 0=>0 | 47=>167 | 5=>5 | n=>n,fun | n=>n⟩
theorem Tryz.laysPu25:Go.Proofs.LaysPu.n25 Tryz.prog Tryz.laysPu25_ren:={
  mixed:=by kernel_rfl
  f25:=Tryz.func99.trans (congrArg some (by kernel_rfl))
  t0:=Tryz.underlying0
  a0:=Tryz.isAgg0
  z0:=Tryz.sizeOf0
  v0:=Tryz.zeroValue0
  i0:=by kernel_rfl
  t3:=Tryz.underlying3
  a3:=Tryz.isAgg3
  z3:=Tryz.sizeOf3
  v3:=Tryz.zeroValue3
  i3:=by kernel_rfl
  t4:=Tryz.underlying4
  a4:=Tryz.isAgg4
  z4:=Tryz.sizeOf4
  v4:=Tryz.zeroValue4
  i4:=by kernel_rfl
  t5:=Tryz.underlying5
  a5:=Tryz.isAgg5
  z5:=Tryz.sizeOf5
  v5:=Tryz.zeroValue5
  i5:=by kernel_rfl
  t9:=Tryz.underlying9
  a9:=Tryz.isAgg9
  z9:=Tryz.sizeOf9
  v9:=Tryz.zeroValue9
  i9:=by kernel_rfl
  t37:=Tryz.underlying31
  a37:=Tryz.isAgg31
  z37:=Tryz.sizeOf31
  v37:=Tryz.zeroValue31
  i37:=by kernel_rfl
  t47:=Tryz.underlying167
  a47:=Tryz.isAgg167
  z47:=Tryz.sizeOf167
  v47:=Tryz.zeroValue167
  i47:=by kernel_rfl }
open Go.RowKit in
theorem Tryz.stringslite_Clone (s:ByteArray) (w:World) (hlim:s.size≤281474976710656) :
    Calls Tryz.prog 99 #[.string s] w fun e w'=>e=.returned (.string s)∧Below w.heap.size w w':=AnyPu.stringslite_Clone Tryz.laysPu25 s w hlim
def Tryz.lays217_ren:Go.Shelf.Ren:=⟨fun | 217=>169 | 266=>173 | n=>n,fun | 9=>9 | 5=>5 | 3=>3 | n=>n,fun | n=>n⟩
theorem Tryz.lays217:Go.Proofs.Lays.n217 Tryz.prog Tryz.lays217_ren:={
  mixed:=by kernel_rfl
  f217:=Tryz.func169.trans (congrArg some (by kernel_rfl))
  f266:=Tryz.func173.trans (congrArg some (by kernel_rfl))
  t3:=Tryz.underlying3
  a3:=Tryz.isAgg3
  z3:=Tryz.sizeOf3
  v3:=Tryz.zeroValue3
  t5:=Tryz.underlying5
  a5:=Tryz.isAgg5
  z5:=Tryz.sizeOf5
  v5:=Tryz.zeroValue5
  t9:=Tryz.underlying9
  a9:=Tryz.isAgg9
  z9:=Tryz.sizeOf9
  v9:=Tryz.zeroValue9 }
open Go.RowKit Go.Lib in
theorem Tryz.stringslite_IndexByte (s:ByteArray) (c:Int) (w:World) :
    Calls Tryz.prog 169 #[.string s,.int .u8 c] w fun e w'=>e=.returned (.int .i64 (Lib.indexByte s.data.toList c.toNat.toUInt8))∧w'=w:=Any.stringslite_IndexByte Tryz.lays217 s c w
end Go.Proofs
/- What layer 4's questions about bytes and texts return: isLetter, or's function, only (at both), isName; strings.Cut at one byte. -/
namespace Go.Proofs.YtldnokgdgafphaaGreatDoor
open Go.RowKit
theorem letter_num (x:UInt8):letterB x=((decide (97≤x.toNat)&&decide (x.toNat≤122))||((decide (48≤x.toNat)&&decide (x.toNat≤57))||(decide (x.toNat=46)||(decide (x.toNat=45)||decide (x.toNat=95))))):=by
  have e:∀ k:UInt8,(x==k)=decide (x.toNat=k.toNat):=fun k=>by
    by_cases h:x=k
    · subst h;simp
    · rw [beq_eq_false_iff_ne.2 h,decide_eq_false]
      intro h2
      exact h (UInt8.toNat_inj.1 h2)
  unfold letterB
  rw [e 46,e 45,e 95]
  rfl
set_option maxRecDepth 100000 in
set_option maxHeartbeats 1000000 in
theorem isletter_n (X:Nat) (w:World) :
    Calls Tryz.prog 151 #[.int .u8 (X:Int)] w fun e w'=>e=.returned (.bool ((decide (97≤X)&&decide (X≤122))||((decide (48≤X)&&decide (X≤57))||(decide (X=46)||(decide (X=45)||decide (X=95))))))∧w=w':=by
  obtain ⟨R,hR⟩:∃ R,R=((decide (97≤X)&&decide (X≤122))||((decide (48≤X)&&decide (X≤57))||(decide (X=46)||(decide (X=45)||decide (X=95))))):=⟨_,rfl⟩
  rw [← hR]
  have HR:=Lib.hid hR
  clear hR
  go_enter Tryz.func151,Tryz.ntmps151
  go_wp2
  all_goals go_ret
  all_goals
    refine ⟨congrArg (fun b=>Ending.returned (Value.bool b)) ((?_:_=_).trans HR.out.symm),rfl⟩
    rw [Bool.eq_iff_iff]
    simp
    try omega
theorem isletter_any (x:UInt8) (w:World) :
    Calls Tryz.prog 151 #[.int .u8 (x.toNat:Int)] w fun e w'=>e=.returned (.bool (letterB x))∧w=w':=by
  rw [letter_num]
  exact isletter_n x.toNat w
def lsFn (b1 b2:Nat):Value:=.func (.func 165) #[] #[.pointer (some ⟨b1,0,none⟩),.pointer (some ⟨b2,0,none⟩)]
structure LsAt2 (b1 b2:Nat) (w:World):Prop where
  f:w.cell? ⟨b1,0,none⟩=some (.func (.func 151) #[] #[])
  s:w.cell? ⟨b2,0,none⟩=some (.string ⟨#[47]⟩)
end Go.Proofs.YtldnokgdgafphaaGreatDoor
/- What layer 4's only returns, and strings.Cut at one byte. -/
namespace Go.Proofs.YtldnokgdgafphaaGreatDoor
open Go.RowKit
set_option maxRecDepth 100000 in
set_option maxHeartbeats 1000000 in
theorem ls_any (x:UInt8) (b1 b2:Nat) (w:World) (h:LsAt2 b1 b2 w) :
    Calls Tryz.prog 165 #[.int .u8 (x.toNat:Int),.pointer (some ⟨b1,0,none⟩),.pointer (some ⟨b2,0,none⟩)] w fun e w'=>e=.returned (.bool (lsB x))∧w=w':=by
  have h1:=h.f
  have h2:=h.s
  have C1:=Lib.hid (isletter_any x w)
  have C2:=Lib.hid (Tryz.strings_IndexByte ⟨#[47]⟩ (x.toNat:Int) w)
  have e2:Lib.indexByte (⟨#[47]⟩:ByteArray).data.toList (x.toNat:Int).toNat.toUInt8=if x=47 then 0 else -1:=by
    have ex:(x.toNat:Int).toNat.toUInt8=x:=by simp
    rw [ex]
    show Lib.indexByte [47] x=_
    simp only [Lib.indexByte]
    by_cases hx:x=47
    · subst hx;rfl
    · have:((47:UInt8)==x)=false:=beq_eq_false_iff_ne.2 (fun e=>hx e.symm)
      rw [this,if_neg hx];rfl
  have E2:=Lib.hid e2
  have hl:lsB x=(letterB x||decide (x=47)):=by
    unfold lsB
    rw [Bool.or_comm]
    congr 1
  obtain ⟨R,hR⟩:∃ R,R=lsB x:=⟨_,rfl⟩
  rw [← hR]
  rw [← hR] at hl
  have HL:=Lib.hid hl
  clear hl hR e2 h
  generalize Lib.indexByte (⟨#[47]⟩:ByteArray).data.toList (x.toNat:Int).toNat.toUInt8=I at *
  generalize letterB x=L at *
  generalize x.toNat=X at *
  go_enter Tryz.func165,Tryz.ntmps165
  go_wp2_with (first
    | (go_at_call 151;refine C1.out.mono ?_;rintro e w' ⟨rfl,rfl⟩;cases L)
    | (go_at_call 166;refine C2.out.mono ?_;rintro e w' ⟨rfl,rfl⟩)
    | fail)
  all_goals go_ret
  all_goals
    refine ⟨congrArg (fun b=>Ending.returned (Value.bool b)) ((?_:_=_).trans HL.out.symm),rfl⟩
  all_goals (try rw [E2.out])
  all_goals (by_cases hx:x=47 <;> simp [hx])
set_option maxRecDepth 100000 in
set_option maxHeartbeats 1000000 in
theorem only_letter (s:ByteArray) (w:World) (hs:s.size≤140737488355328) :
    Calls Tryz.prog 150 #[.string s,.func (.func 151) #[] #[]] w fun e w'=>e=.returned (.bool (s.data.toList.all letterB))∧w=w':=by
  have hsz:s.size=s.data.toList.length:=Lib.size_eq s
  obtain ⟨R,hR⟩:∃ R,R=s.data.toList.all letterB:=⟨_,rfl⟩
  rw [← hR]
  have HR:=Lib.hid hR
  have HS:=Lib.hid hsz
  clear hR hsz
  go_enter Tryz.func150,Tryz.ntmps150
  go_wp2_with fail
  go_loop [8] (fun i=>∃ k:Nat,k≤s.size∧i=.int .i64 k∧Hid ((s.data.toList.take k).all letterB=true)) (fun i=>s.size - (intOf i).toNat)
  case atStart=>exact ⟨0,Nat.zero_le _,rfl,by show _=_;simp⟩
  case round =>
    obtain ⟨k,hk,rfl,hp⟩:=hrel
    by_cases hlt:k<s.size
    · have hkl:k<s.data.toList.length:=by rw [← HS.out];exact hlt
      obtain ⟨x,hx⟩:∃ x,x=s.data.toList[k]'hkl:=⟨_,rfl⟩
      have hix:∀ W,(Instr.index 9 (.string s) (.int .i64 (k:Int))).run Tryz.prog W=.ok (.int .u8 x.toNat) W:=by
        intro W
        rw [hx]
        go_simp
        rfl
      have hstep:(s.data.toList.take (k+1)).all letterB=letterB x:=by
        rw [List.take_succ_eq_append_getElem hkl,List.all_append,hp.out,Bool.true_and,← hx]
        simp
      have HST:=Lib.hid hstep
      have C1:=Lib.hid (isletter_any x w)
      clear hx hstep
      have hkk:decide ((k:Int)<(s.size:Int))=true:=by simp;omega
      cases hlx:letterB x with
      | true =>
        rw [hlx] at C1 HST
        go_wp2_with (first
          | (go_at_call 151;refine C1.out.mono ?_;rintro e w' ⟨rfl,rfl⟩)
          | fail)
        go_round
        case rel=>exact ⟨k+1,by omega,by go_num,HST.out⟩
        case measure=>simp [intOf];omega
      | false =>
        rw [hlx] at C1 HST
        have hf:R=false:=by
          rw [HR.out,← List.take_append_drop (k+1) s.data.toList,List.all_append,HST.out,Bool.false_and]
        subst hf
        go_wp2_with (first
          | (go_at_call 151;refine C1.out.mono ?_;rintro e w' ⟨rfl,rfl⟩)
          | fail)
        go_ret
        exact ⟨rfl,rfl⟩
    · obtain rfl:k=s.size:=by omega
      have e:R=true:=by
        have h:=hp.out
        rw [HS.out,List.take_length] at h
        rw [HR.out,h]
      subst e
      have hkk:decide ((s.size:Int)<(s.size:Int))=false:=by simp
      go_wp2_with fail
      go_ret
      exact ⟨rfl,rfl⟩
set_option maxRecDepth 100000 in
set_option maxHeartbeats 1000000 in
theorem only_ls (s:ByteArray) (b1 b2:Nat) (w:World) (hat:LsAt2 b1 b2 w) (hs:s.size≤140737488355328) :
    Calls Tryz.prog 150 #[.string s,lsFn b1 b2] w fun e w'=>e=.returned (.bool (s.data.toList.all lsB))∧w=w':=by
  unfold lsFn
  have hsz:s.size=s.data.toList.length:=Lib.size_eq s
  obtain ⟨R,hR⟩:∃ R,R=s.data.toList.all lsB:=⟨_,rfl⟩
  rw [← hR]
  have HR:=Lib.hid hR
  have HS:=Lib.hid hsz
  clear hR hsz
  go_enter Tryz.func150,Tryz.ntmps150
  go_wp2_with fail
  go_loop [8] (fun i=>∃ k:Nat,k≤s.size∧i=.int .i64 k∧Hid ((s.data.toList.take k).all lsB=true)) (fun i=>s.size - (intOf i).toNat)
  case atStart=>exact ⟨0,Nat.zero_le _,rfl,by show _=_;simp⟩
  case round =>
    obtain ⟨k,hk,rfl,hp⟩:=hrel
    by_cases hlt:k<s.size
    · have hkl:k<s.data.toList.length:=by rw [← HS.out];exact hlt
      obtain ⟨x,hx⟩:∃ x,x=s.data.toList[k]'hkl:=⟨_,rfl⟩
      have hix:∀ W,(Instr.index 9 (.string s) (.int .i64 (k:Int))).run Tryz.prog W=.ok (.int .u8 x.toNat) W:=by
        intro W
        rw [hx]
        go_simp
        rfl
      have hstep:(s.data.toList.take (k+1)).all lsB=lsB x:=by
        rw [List.take_succ_eq_append_getElem hkl,List.all_append,hp.out,Bool.true_and,← hx]
        simp
      have HST:=Lib.hid hstep
      have C1:=Lib.hid (ls_any x b1 b2 w hat)
      clear hx hstep
      have hkk:decide ((k:Int)<(s.size:Int))=true:=by simp;omega
      cases hlx:lsB x with
      | true =>
        rw [hlx] at C1 HST
        go_wp2_with (first
          | (go_at_call 165;refine C1.out.mono ?_;rintro e w' ⟨rfl,rfl⟩)
          | fail)
        go_round
        case rel=>exact ⟨k+1,by omega,by go_num,HST.out⟩
        case measure=>simp [intOf];omega
      | false =>
        rw [hlx] at C1 HST
        have hf:R=false:=by
          rw [HR.out,← List.take_append_drop (k+1) s.data.toList,List.all_append,HST.out,Bool.false_and]
        subst hf
        go_wp2_with (first
          | (go_at_call 165;refine C1.out.mono ?_;rintro e w' ⟨rfl,rfl⟩)
          | fail)
        go_ret
        exact ⟨rfl,rfl⟩
    · obtain rfl:k=s.size:=by omega
      have e:R=true:=by
        have h:=hp.out
        rw [HS.out,List.take_length] at h
        rw [HR.out,h]
      subst e
      have hkk:decide ((s.size:Int)<(s.size:Int))=false:=by simp
      go_wp2_with fail
      go_ret
      exact ⟨rfl,rfl⟩
def cutV (c:UInt8) (s:ByteArray):Value:=.tuple #[.string ⟨(ahead c s.data.toList).toArray⟩,.string ⟨(behind c s.data.toList).toArray⟩,.bool (hasB c s.data.toList)]
set_option maxRecDepth 100000 in
set_option maxHeartbeats 1000000 in
theorem index_any (s:ByteArray) (c:UInt8) (w:World) :
    Calls Tryz.prog 168 #[.string s,.string ⟨#[c]⟩] w fun e w'=>e=.returned (.int .i64 (if hasB c s.data.toList=true then ((ahead c s.data.toList).length:Int) else -1))∧w=w':=by
  have C1:=Lib.hid (Tryz.stringslite_IndexByte s (c.toNat:Int) w)
  have hi:=index_ahead c s.data.toList
  have ec:(c.toNat:Int).toNat.toUInt8=c:=by simp
  obtain ⟨R,hR⟩:∃ R,R=(if hasB c s.data.toList=true then ((ahead c s.data.toList).length:Int) else -1):=⟨_,rfl⟩
  rw [← hR]
  rw [← hR] at hi
  have HI:=Lib.hid hi
  have HE:=Lib.hid ec
  have HC:Hid (s=⟨#[c]⟩→R=0):=fun e=>by rw [← HI.out,e];simp [Lib.indexByte]
  clear hi ec hR
  go_enter Tryz.func168,Tryz.ntmps168
  go_wp2_with (first
    | (go_at_call 169;refine C1.out.mono ?_;rintro e w' ⟨rfl,rfl⟩;rw [HE.out,HI.out])
    | fail)
  · have h:([c]==s.toList)=true:=by assumption
    go_ret
    refine ⟨?_,rfl⟩
    have e:s=⟨#[c]⟩:=by
      have e1:s.data.toList=[c]:=by rw [← Lib.toList_data];exact (beq_iff_eq.1 h).symm
      rw [← Lib.mk_data s,e1]
    rw [HC.out e]
    rfl
  · go_ret
    exact ⟨rfl,rfl⟩
set_option maxRecDepth 100000 in
set_option maxHeartbeats 1000000 in
theorem lcut_any (s:ByteArray) (c:UInt8) (w:World) (hs:s.size≤140737488355328) :
    Calls Tryz.prog 164 #[.string s,.string ⟨#[c]⟩] w fun e w'=>e=.returned (cutV c s)∧∃ m,w'=w.drewN m:=by
  have hsz:s.size=s.data.toList.length:=Lib.size_eq s
  have hle:=ahead_le c s.data.toList
  have C1:=Lib.hid (index_any s c w)
  unfold cutV
  by_cases hh:hasB c s.data.toList=true
  · have hlt:(ahead c s.data.toList).length<s.data.toList.length:=by unfold hasB at hh;simpa using hh
    rw [if_pos hh] at C1
    have e1:s.extract 0 (ahead c s.data.toList).length=⟨(ahead c s.data.toList).toArray⟩:=by
      rw [Lib.extract_eq,List.drop_zero,Nat.sub_zero,← ahead_take]
    have e2:s.extract ((ahead c s.data.toList).length+1) s.size=⟨(behind c s.data.toList).toArray⟩:=by
      rw [Lib.extract_eq,hsz,List.take_of_length_le (by rw [List.length_drop];exact Nat.le_refl _)]
      rfl
    rw [hh,← e1,← e2]
    generalize (ahead c s.data.toList).length=n at *
    have c1:(0:Int) ≤ ↑n:=by omega
    have c2:(↑n:Int) ≤ ↑s.size:=by omega
    have c3:(0:Int) ≤ ↑n+1:=by omega
    have c4:(↑n+1:Int) ≤ ↑s.size:=by omega
    have c5:(↑n+1:Int)≤140737488355328:=by omega
    have hwr:IntKind.i64.wrap ((n:Int)+1)=(n:Int)+1:=by rw [IntKind.wrap_i64];omega
    have htn:((n:Int)+1).toNat=n+1:=by omega
    clear hh e1 e2 hle hlt hsz
    go_enter Tryz.func164,Tryz.ntmps164
    go_wp2_with (go_at_call 168;refine C1.out.mono ?_;rintro e w' ⟨rfl,rfl⟩)
    go_region
    go_wp2
    go_ret3
    exact ⟨rfl,1,rfl⟩
  · rw [Bool.not_eq_true] at hh
    have e1:=ahead_all hh
    have e2:=behind_nil hh
    rw [hh] at C1
    simp only [Bool.false_eq_true,if_false] at C1
    rw [hh,e1,e2,Lib.mk_data]
    clear hh e1 e2 hle hsz
    go_enter Tryz.func164,Tryz.ntmps164
    go_wp2_with (go_at_call 168;refine C1.out.mono ?_;rintro e w' ⟨rfl,rfl⟩)
    go_ret3
    exact ⟨rfl,0,rfl⟩
set_option maxRecDepth 100000 in
set_option maxHeartbeats 1000000 in
theorem cut_any (s:ByteArray) (c:UInt8) (w:World) (hs:s.size≤140737488355328) :
    Calls Tryz.prog 149 #[.string s,.string ⟨#[c]⟩] w fun e w'=>e=.returned (cutV c s)∧∃ m,w'=w.drewN m:=by
  have C1:=Lib.hid (lcut_any s c w hs)
  unfold cutV at *
  go_enter Tryz.func149,Tryz.ntmps149
  go_wp2_with (go_at_call 164;refine C1.out.mono ?_;rintro e w' ⟨rfl,n,rfl⟩)
  go_ret3
  exact ⟨rfl,n,rfl⟩
end Go.Proofs.YtldnokgdgafphaaGreatDoor
/- What the checks of layer 4 return: isName, checkDtn, checkIpn, check, Check, None; the sentinels that stand in the package's variables. -/
namespace Go.Proofs.YtldnokgdgafphaaGreatDoor
open Go.RowKit
structure Snt where
  s:Addr
  n:Addr
  u:Addr
  f:Addr
def OneOf (A:Snt) (a:Addr):Prop:=a=A.s∨a=A.n∨a=A.u∨a=A.f
def snt (a:Addr):Value:=.iface 223 (.pointer (some a))
structure Lds (A:Snt) (w:World):Prop where
  cs:w.cell? ⟨0,0,none⟩=some (snt A.s)
  cn:w.cell? ⟨3,0,none⟩=some (snt A.n)
  cu:w.cell? ⟨2,0,none⟩=some (snt A.u)
  cf:w.cell? ⟨4,0,none⟩=some (snt A.f)
  row:∀ a,OneOf A a→∃ c t,w.heap[a.block]?=some (.cells c t (0,0))
  ne:A.s≠A.n∧A.s≠A.u∧A.s≠A.f∧A.n≠A.u∧A.n≠A.f∧A.u≠A.f
theorem Lds.below {A:Snt} {w w':World} {B:Nat} (h:Lds A w) (hb:Below B w w') (hB:w.heap.size≤B):Lds A w':=by
  have k:∀ {p:Addr} {v:Value},w.cell? p=some v→w'.cell? p=some v:=fun hc=>(hb.cell (Nat.lt_of_lt_of_le (World.block_lt_of_cell? w _ hc) hB)).trans hc
  refine ⟨k h.cs,k h.cn,k h.cu,k h.cf,?_,h.ne⟩
  · intro a ha
    obtain ⟨c,t,hc⟩:=h.row a ha
    have hl:a.block<w.heap.size:=by
      rcases Nat.lt_or_ge a.block w.heap.size with h1 | h1
      · exact h1
      · rw [Array.getElem?_eq_none h1] at hc;cases hc
    exact ⟨c,t,(hb.block a.block (Nat.lt_of_lt_of_le hl hB)).trans hc⟩
theorem Lds.alloc {A:Snt} {w:World} (h:Lds A w) (o:Obj):Lds A (w.alloc o):=h.below ((Below.refl _ _).alloc (Nat.le_refl _) o) (Nat.le_refl _)
theorem drewN_below {B:Nat} {w:World} (m:Nat):Below B w (w.drewN m):=⟨rfl,rfl,rfl,Nat.le_refl _,fun _ _=>rfl⟩
set_option maxRecDepth 100000 in
set_option maxHeartbeats 1000000 in
theorem or_any (w:World) :
    Calls Tryz.prog 152 #[.func (.func 151) #[] #[],.string ⟨#[47]⟩] w fun e w'=>∃ b1 b2,e=.returned (lsFn b1 b2)∧LsAt2 b1 b2 w'∧Below w.heap.size w w':=by
  go_enter Tryz.func152,Tryz.ntmps152
  go_wp2_with fail
  refine bodyPost_ret (v:=lsFn w.heap.size (w.heap.size+1)) (by simp [results,Tryz.results152,go_sem,lsFn]) rfl ⟨w.heap.size,w.heap.size+1,rfl,⟨?_,?_⟩,?_⟩
  · rw [World.cell?_alloc_lt _ _ _ (by simp)];rw [World.cell?_alloc_at _ _ _ _ rfl];rfl
  · rw [World.cell?_alloc_at _ _ _ _ (by simp)];rfl
  · exact ((Below.refl _ _).alloc (Nat.le_refl _) _).alloc (by simp) _
set_option maxRecDepth 100000 in
set_option maxHeartbeats 1000000 in
theorem isname_any (s:ByteArray) (w:World) (hs:s.size≤140737488355328) :
    Calls Tryz.prog 137 #[.string s] w fun e w'=>e=.returned (.bool (nameB s.data.toList))∧Below w.heap.size w w':=by
  have hsz:s.size=s.data.toList.length:=Lib.size_eq s
  rw [← nameC_eq]
  obtain ⟨R,hR⟩:∃ R,R=nameC s.data.toList:=⟨_,rfl⟩
  rw [← hR]
  unfold nameC at hR
  by_cases h64:64<s.size
  · have hr:R=false:=by rw [hR,decide_eq_false (by omega)];rfl
    subst hr
    clear hR hsz
    have h64i:decide ((64:Int)<(s.size:Int))=true:=by simp;omega
    go_enter Tryz.func137,Tryz.ntmps137
    go_wp2_with fail
    go_ret
    exact ⟨rfl,Below.refl _ _⟩
  have h65:s.size≤64:=by omega
  rw [decide_eq_true (by omega),Bool.true_and] at hR
  have C1:=Lib.hid (Tryz.strings_CutPrefix s ⟨#[47,47]⟩ w)
  have e47:(⟨#[47,47]⟩:ByteArray).data.toList=[47,47]:=rfl
  rw [e47] at C1
  by_cases hp:Lib.hasPrefix s.data.toList [47,47]=true
  · rw [hp,Bool.true_and] at hR
    have et:Lib.trimPrefix s.data.toList [47,47]=s.data.toList.drop 2:=by unfold Lib.trimPrefix;rw [if_pos hp];rfl
    rw [hp,et] at C1
    have hrl:(s.data.toList.drop 2).length≤64:=by rw [List.length_drop];omega
    generalize s.data.toList.drop 2=r at *
    have C2:=Lib.hid (fun W=>cut_any ⟨r.toArray⟩ 47 W (by rw [Lib.size_eq];simp;omega))
    unfold cutV at C2
    rw [show (⟨r.toArray⟩:ByteArray).data.toList=r by simp] at C2
    have hal:=ahead_le 47 r
    have hbl:(behind 47 r).length≤64:=by unfold behind;rw [List.length_drop];omega
    by_cases hh:hasB 47 r=true
    · rw [hh,Bool.true_and] at hR
      rw [hh] at C2
      generalize ahead 47 r=u at *
      generalize behind 47 r=t at *
      have hus:(⟨u.toArray⟩:ByteArray).data.toList=u:=by simp
      have hts:(⟨t.toArray⟩:ByteArray).data.toList=t:=by simp
      have C3:=Lib.hid (fun W=>only_letter ⟨u.toArray⟩ W (by rw [Lib.size_eq,hus];omega))
      have C5:=Lib.hid (fun b1 b2 W h=>only_ls ⟨t.toArray⟩ b1 b2 W h (by rw [Lib.size_eq,hts];omega))
      rw [hus] at C3
      rw [hts] at C5
      clear hp et hrl hal hbl hh hsz hus hts
      have hue:(⟨u.toArray⟩:ByteArray).toList.isEmpty=u.isEmpty:=by rw [Lib.toList_data]
      generalize (⟨u.toArray⟩:ByteArray)=us at *
      generalize (⟨t.toArray⟩:ByteArray)=ts at *
      cases hui:u.isEmpty with
      | true =>
        rw [hui] at hue hR
        have hr:R=false:=hR
        subst hr
        clear hR hui
        go_enter Tryz.func137,Tryz.ntmps137
        go_wp2_with (first
          | (go_at_call 148;refine C1.out.mono ?_;rintro e w' ⟨rfl,rfl⟩)
          | (go_at_call 149;refine (C2.out _).mono ?_;rintro e w' ⟨rfl,m,rfl⟩)
          | fail)
        go_ret
        exact ⟨rfl,drewN_below m⟩
      | false =>
        rw [hui] at hue hR
        have hR2:R=(u.all letterB&&t.all lsB):=hR
        clear hR hui
        generalize t.all lsB=T at *
        cases hul:u.all letterB with
        | false =>
          rw [hul] at C3 hR2
          have hr:R=false:=hR2
          subst hr
          clear hR2 hul
          go_enter Tryz.func137,Tryz.ntmps137
          go_wp2_with (first
            | (go_at_call 148;refine C1.out.mono ?_;rintro e w' ⟨rfl,rfl⟩)
            | (go_at_call 149;refine (C2.out _).mono ?_;rintro e w' ⟨rfl,m,rfl⟩)
            | (go_at_call 150;refine (C3.out _).mono ?_;rintro e w' ⟨rfl,rfl⟩)
            | fail)
          go_ret
          exact ⟨rfl,drewN_below m⟩
        | true =>
          rw [hul] at C3 hR2
          have hr:R=T:=hR2
          subst hr
          clear hR2 hul
          go_enter Tryz.func137,Tryz.ntmps137
          go_wp2_with (first
            | (go_at_call 148;refine C1.out.mono ?_;rintro e w' ⟨rfl,rfl⟩)
            | (go_at_call 149;refine (C2.out _).mono ?_;rintro e w' ⟨rfl,m,rfl⟩)
            | fail)
          refine (C3.out _).mono ?_
          rintro e w1 ⟨rfl,rfl⟩
          go_wp2_with fail
          refine (or_any _).mono ?_
          rintro e w2 ⟨b1,b2,rfl,hat,hb⟩
          have C6:=Lib.hid (C5.out b1 b2 w2 hat)
          have HB:=Lib.hid hb
          clear hat hb C5
          unfold lsFn at *
          go_wp2_with fail
          refine C6.out.mono ?_
          rintro e w3 ⟨rfl,rfl⟩
          go_wp2_with fail
          go_ret
          exact ⟨rfl,(drewN_below m).trans HB.out⟩
    · rw [Bool.not_eq_true] at hh
      rw [hh,Bool.false_and] at hR
      rw [hh] at C2
      subst hR
      generalize (⟨(ahead 47 r).toArray⟩:ByteArray)=us at *
      generalize (⟨(behind 47 r).toArray⟩:ByteArray)=ts at *
      clear hh hal hbl hrl hsz
      go_enter Tryz.func137,Tryz.ntmps137
      go_wp2_with (first
        | (go_at_call 148;refine C1.out.mono ?_;rintro e w' ⟨rfl,rfl⟩)
        | (go_at_call 149;refine (C2.out _).mono ?_;rintro e w' ⟨rfl,m,rfl⟩)
        | fail)
      go_ret
      exact ⟨rfl,drewN_below m⟩
  · rw [Bool.not_eq_true] at hp
    rw [hp,Bool.false_and] at hR
    rw [hp] at C1
    subst hR
    have hrs:(⟨(Lib.trimPrefix s.data.toList [47,47]).toArray⟩:ByteArray).size≤64:=by
      unfold Lib.trimPrefix
      rw [hp,Lib.size_eq]
      simp
      omega
    generalize (⟨(Lib.trimPrefix s.data.toList [47,47]).toArray⟩:ByteArray)=r at *
    have C2:=Lib.hid (fun W=>cut_any r 47 W (by omega))
    unfold cutV at C2
    generalize (⟨(ahead 47 r.data.toList).toArray⟩:ByteArray)=us at *
    generalize (⟨(behind 47 r.data.toList).toArray⟩:ByteArray)=ts at *
    generalize hasB 47 r.data.toList=H at *
    clear hp hsz
    go_enter Tryz.func137,Tryz.ntmps137
    go_wp2_with (first
      | (go_at_call 148;refine C1.out.mono ?_;rintro e w' ⟨rfl,rfl⟩)
      | (go_at_call 149;refine (C2.out _).mono ?_;rintro e w' ⟨rfl,m,rfl⟩)
      | fail)
    go_ret
    exact ⟨rfl,drewN_below m⟩
def epdV (sc:Int) (s:ByteArray) (n v:Nat):Value:=.agg #[.int .i64 sc,.string s,.int .u64 (n:Int),.int .u64 (v:Int)]
def ep (sc:Int) (s:ByteArray) (n v:Nat):Epd:=⟨sc,s.data.toList,n,v⟩
def Why (A:Snt) (b:Bool) (w:World) (e:Ending) (w':World):Prop:=Below w.heap.size w w'∧((b=true∧e=.returned .nilIface)∨(b=false∧∃ a,OneOf A a∧e=.returned (snt a)))
theorem str_empty (s:ByteArray):s.toList.isEmpty=s.data.toList.isEmpty:=by rw [Lib.toList_data]
set_option maxRecDepth 100000 in
set_option maxHeartbeats 1000000 in
theorem checkdtn_any (A:Snt) (s:ByteArray) (n v:Nat) (w:World) (hA:Lds A w) (hs:s.size≤140737488355328) :
    Calls Tryz.prog 119 #[epdV 1 s n v] w (Why A (checkB (ep 1 s n v)) w):=by
  obtain ⟨R,hR⟩:∃ R,R=checkB (ep 1 s n v):=⟨_,rfl⟩
  rw [← hR]
  have hR2:R=((n==0&&v==0)&&(s.data.toList.isEmpty||nameB s.data.toList)):=by rw [hR];unfold checkB;rw [if_pos (show (ep 1 s n v).scheme=1 from rfl)];rfl
  clear hR
  have C1:=Lib.hid (fun W=>isname_any s W hs)
  have hse:=str_empty s
  unfold epdV
  have HA:=Lib.hid hA
  have gu:(w.alloc (.cells #[.int .i64 1,.string s,.int .u64 (n:Int),.int .u64 (v:Int)] 25)).cell? ⟨2,0,none⟩=some (snt A.u):=(hA.alloc _).cu
  have gn:(w.alloc (.cells #[.int .i64 1,.string s,.int .u64 (n:Int),.int .u64 (v:Int)] 25)).cell? ⟨3,0,none⟩=some (snt A.n):=(hA.alloc _).cn
  clear hA
  unfold snt at gu gn
  have gg:∀ (w2:World),Below (w.alloc (.cells #[.int .i64 1,.string s,.int .u64 (n:Int),.int .u64 (v:Int)] 25)).heap.size (w.alloc (.cells #[.int .i64 1,.string s,.int .u64 (n:Int),.int .u64 (v:Int)] 25)) w2→w2.cell? ⟨3,0,none⟩=some (.iface 223 (.pointer (some A.n))):=fun w2 hb=>(((HA.out.alloc _).below hb (Nat.le_refl _)).cn)
  have GG:=Lib.hid gg
  clear gg
  by_cases h0:n=0∧v=0
  · obtain ⟨rfl,rfl⟩:=h0
    have hR3:R=(s.data.toList.isEmpty||nameB s.data.toList):=hR2
    clear hR2
    cases he:s.data.toList.isEmpty with
    | true =>
      rw [he] at hR3 hse
      have hr:R=true:=hR3
      subst hr
      clear hR3 he
      go_enter Tryz.func119,Tryz.ntmps119
      go_wp2_with fail
      go_ret
      exact ⟨(Below.refl _ _).alloc (Nat.le_refl _) _,.inl ⟨rfl,rfl⟩⟩
    | false =>
      rw [he] at hR3 hse
      have hr:R=nameB s.data.toList:=hR3
      generalize nameB s.data.toList=N at *
      subst hr
      clear hR3 he
      cases R with
      | true =>
        go_enter Tryz.func119,Tryz.ntmps119
        go_wp2_with fail
        refine (C1.out _).mono ?_
        rintro e w1 ⟨rfl,hb⟩
        have HB:=Lib.hid hb
        clear hb
        go_wp2_with fail
        go_ret
        exact ⟨((Below.refl _ _).alloc (Nat.le_refl _) _).trans (HB.out.mono (le_alloc _ _)),.inl ⟨rfl,rfl⟩⟩
      | false =>
        go_enter Tryz.func119,Tryz.ntmps119
        go_wp2_with fail
        refine (C1.out _).mono ?_
        rintro e w1 ⟨rfl,hb⟩
        have g1:=GG.out _ hb
        have HB:=Lib.hid hb
        clear hb
        go_wp2_with fail
        go_ret
        exact ⟨((Below.refl _ _).alloc (Nat.le_refl _) _).trans (HB.out.mono (le_alloc _ _)),.inr ⟨rfl,A.n,.inr (.inl rfl),rfl⟩⟩
  · have hr:R=false:=by
      rw [hR2]
      have:(n==0&&v==0)=false:=by
        rw [Bool.eq_false_iff]
        intro h
        simp at h
        exact h0 h
      rw [this,Bool.false_and]
    subst hr
    clear hR2
    have h1:¬ ((n:Int)=0∧(v:Int)=0):=by omega
    clear h0 GG HA C1 hse
    generalize (n:Int)=N at *
    generalize (v:Int)=V at *
    by_cases hn:N=0
    · subst hn
      have hv:¬ V=0:=fun h=>h1 ⟨rfl,h⟩
      clear h1
      go_enter Tryz.func119,Tryz.ntmps119
      go_wp2_with fail
      go_ret
      exact ⟨(Below.refl _ _).alloc (Nat.le_refl _) _,.inr ⟨rfl,A.u,.inr (.inr (.inl rfl)),rfl⟩⟩
    · clear h1
      go_enter Tryz.func119,Tryz.ntmps119
      go_wp2_with fail
      go_ret
      exact ⟨(Below.refl _ _).alloc (Nat.le_refl _) _,.inr ⟨rfl,A.u,.inr (.inr (.inl rfl)),rfl⟩⟩
end Go.Proofs.YtldnokgdgafphaaGreatDoor
/- What checkIpn, check, Check and None of layer 4 return. -/
namespace Go.Proofs.YtldnokgdgafphaaGreatDoor
open Go.RowKit
set_option maxRecDepth 100000 in
set_option maxHeartbeats 1000000 in
theorem checkipn_any (A:Snt) (s:ByteArray) (n v:Nat) (w:World) (hA:Lds A w) :
    Calls Tryz.prog 120 #[epdV 2 s n v] w (Why A (checkB (ep 2 s n v)) w):=by
  obtain ⟨R,hR⟩:∃ R,R=checkB (ep 2 s n v):=⟨_,rfl⟩
  rw [← hR]
  have hR2:R=(s.data.toList.isEmpty&&(decide (0<n)&&(decide (n≤4294967295)&&decide (v≤4294967295)))):=by rw [hR];unfold checkB;rw [if_neg (show ¬ (ep 2 s n v).scheme=1 by show ¬ (2:Int)=1;decide)];rfl
  clear hR
  have hse:=str_empty s
  unfold epdV
  have gu:(w.alloc (.cells #[.int .i64 2,.string s,.int .u64 (n:Int),.int .u64 (v:Int)] 25)).cell? ⟨2,0,none⟩=some (snt A.u):=(hA.alloc _).cu
  have gn:(w.alloc (.cells #[.int .i64 2,.string s,.int .u64 (n:Int),.int .u64 (v:Int)] 25)).cell? ⟨3,0,none⟩=some (snt A.n):=(hA.alloc _).cn
  clear hA
  unfold snt at gu gn
  have hN:(decide (0<n)&&(decide (n≤4294967295)&&decide (v≤4294967295)))=(decide ¬ ((n:Int)=0)&&(decide ¬ (4294967295<(n:Int))&&decide ¬ (4294967295<(v:Int)))):=by
    rw [Bool.eq_iff_iff];simp;omega
  rw [hN] at hR2
  clear hN
  generalize (n:Int)=N at *
  generalize (v:Int)=V at *
  cases he:s.data.toList.isEmpty with
  | false =>
    rw [he] at hse hR2
    have hr:R=false:=hR2
    subst hr
    clear hR2 he
    go_enter Tryz.func120,Tryz.ntmps120
    go_wp2_with fail
    go_ret
    exact ⟨(Below.refl _ _).alloc (Nat.le_refl _) _,.inr ⟨rfl,A.n,.inr (.inl rfl),rfl⟩⟩
  | true =>
    rw [he] at hse hR2
    clear he
    by_cases h1:N=0
    · subst h1
      have hr:R=false:=by rw [hR2];simp
      subst hr
      clear hR2
      go_enter Tryz.func120,Tryz.ntmps120
      go_wp2_with fail
      go_ret
      exact ⟨(Below.refl _ _).alloc (Nat.le_refl _) _,.inr ⟨rfl,A.u,.inr (.inr (.inl rfl)),rfl⟩⟩
    by_cases h2:4294967295<N
    · have hr:R=false:=by rw [hR2];simp;omega
      subst hr
      clear hR2
      go_enter Tryz.func120,Tryz.ntmps120
      go_wp2_with fail
      go_ret
      exact ⟨(Below.refl _ _).alloc (Nat.le_refl _) _,.inr ⟨rfl,A.u,.inr (.inr (.inl rfl)),rfl⟩⟩
    have h2':N≤4294967295:=by omega
    by_cases h3:4294967295<V
    · have hr:R=false:=by rw [hR2];simp;omega
      subst hr
      clear hR2
      go_enter Tryz.func120,Tryz.ntmps120
      go_wp2_with fail
      go_ret
      exact ⟨(Below.refl _ _).alloc (Nat.le_refl _) _,.inr ⟨rfl,A.u,.inr (.inr (.inl rfl)),rfl⟩⟩
    have h3':V≤4294967295:=by omega
    have hr:R=true:=by rw [hR2];simp;omega
    subst hr
    clear hR2
    go_enter Tryz.func120,Tryz.ntmps120
    go_wp2_with fail
    go_ret
    exact ⟨(Below.refl _ _).alloc (Nat.le_refl _) _,.inl ⟨rfl,rfl⟩⟩
theorem Why.boxed {A:Snt} {b:Bool} {w:World} {o:Obj} {e:Ending} {w':World} (h:Why A b (w.alloc o) e w'):Why A b w e w' :=
  ⟨((Below.refl _ _).alloc (Nat.le_refl _) o).trans (h.1.mono (le_alloc _ _)),h.2⟩
set_option maxRecDepth 100000 in
set_option maxHeartbeats 1000000 in
theorem echeck_any (A:Snt) (sc:Int) (s:ByteArray) (n v:Nat) (w:World) (hA:Lds A w) (hs:s.size≤140737488355328) :
    Calls Tryz.prog 98 #[epdV sc s n v] w (Why A (checkB (ep sc s n v)) w):=by
  have gs:(w.alloc (.cells #[.int .i64 sc,.string s,.int .u64 (n:Int),.int .u64 (v:Int)] 25)).cell? ⟨0,0,none⟩=some (snt A.s):=(hA.alloc _).cs
  unfold snt at gs
  by_cases h1:sc=1
  · subst h1
    have C1:=Lib.hid (checkdtn_any A s n v (w.alloc (.cells #[.int .i64 1,.string s,.int .u64 (n:Int),.int .u64 (v:Int)] 25)) (hA.alloc _) hs)
    clear hA gs
    generalize checkB (ep 1 s n v)=R at *
    unfold epdV at *
    go_enter Tryz.func98,Tryz.ntmps98
    go_wp2_with fail
    refine C1.out.mono ?_
    intro e w1 hy
    have HY:=Lib.hid hy.boxed
    obtain ⟨hb,⟨hc,rfl⟩ | ⟨hc,a,ha,rfl⟩⟩:=hy
    · clear hb hc
      go_wp2_with fail
      go_ret
      exact HY.out
    · clear hb hc ha
      unfold snt at *
      go_wp2_with fail
      go_ret
      exact HY.out
  by_cases h2:sc=2
  · subst h2
    have C1:=Lib.hid (checkipn_any A s n v (w.alloc (.cells #[.int .i64 2,.string s,.int .u64 (n:Int),.int .u64 (v:Int)] 25)) (hA.alloc _))
    clear hA gs
    generalize checkB (ep 2 s n v)=R at *
    unfold epdV at *
    go_enter Tryz.func98,Tryz.ntmps98
    go_wp2_with fail
    refine C1.out.mono ?_
    intro e w1 hy
    have HY:=Lib.hid hy.boxed
    obtain ⟨hb,⟨hc,rfl⟩ | ⟨hc,a,ha,rfl⟩⟩:=hy
    · clear hb hc
      go_wp2_with fail
      go_ret
      exact HY.out
    · clear hb hc ha
      unfold snt at *
      go_wp2_with fail
      go_ret
      exact HY.out
  have hr:checkB (ep sc s n v)=false:=by
    unfold checkB
    rw [if_neg (show ¬ (ep sc s n v).scheme=1 from h1)]
    have:((ep sc s n v).scheme==2)=false:=beq_eq_false_iff_ne.2 h2
    rw [this,Bool.false_and]
  rw [hr]
  clear hr
  unfold epdV at *
  go_enter Tryz.func98,Tryz.ntmps98
  go_wp2_with fail
  go_ret
  exact ⟨(Below.refl _ _).alloc (Nat.le_refl _) _,.inr ⟨rfl,A.s,.inl rfl,rfl⟩⟩
set_option maxRecDepth 100000 in
set_option maxHeartbeats 1000000 in
theorem ccheck_any (A:Snt) (sc:Int) (s:ByteArray) (n v:Nat) (w:World) (hA:Lds A w) (hs:s.size≤140737488355328) :
    Calls Tryz.prog 63 #[epdV sc s n v] w fun e w'=>e=.returned (.bool (checkB (ep sc s n v)))∧Below w.heap.size w w':=by
  have C1:=Lib.hid (echeck_any A sc s n v (w.alloc (.cells #[.int .i64 sc,.string s,.int .u64 (n:Int),.int .u64 (v:Int)] 25)) (hA.alloc _) hs)
  clear hA
  generalize checkB (ep sc s n v)=R at *
  unfold epdV at *
  have q1:=fun (W:World) (u:TypeId) (x:Value)=>run_eql_iface_nil (P:=Tryz.prog) (w:=W) 56 (by kernel_rfl) u x
  go_enter Tryz.func63,Tryz.ntmps63
  go_wp2_with fail
  refine C1.out.mono ?_
  intro e w1 hy
  obtain ⟨hb,⟨rfl,rfl⟩ | ⟨rfl,a,ha,rfl⟩⟩:=hy
  · have HB:=Lib.hid hb
    clear hb
    go_wp2_with fail
    go_ret
    exact ⟨rfl,((Below.refl _ _).alloc (Nat.le_refl _) _).trans (HB.out.mono (le_alloc _ _))⟩
  · have HB:=Lib.hid hb
    clear hb ha
    unfold snt at *
    go_wp2_with fail
    go_ret
    exact ⟨rfl,((Below.refl _ _).alloc (Nat.le_refl _) _).trans (HB.out.mono (le_alloc _ _))⟩
set_option maxRecDepth 100000 in
set_option maxHeartbeats 1000000 in
theorem none_any (sc:Int) (s:ByteArray) (n v:Nat) (w:World) :
    Calls Tryz.prog 64 #[epdV sc s n v] w fun e w'=>e=.returned (.bool (noneB (ep sc s n v)))∧Below w.heap.size w w':=by
  obtain ⟨R,hR⟩:∃ R,R=noneB (ep sc s n v):=⟨_,rfl⟩
  rw [← hR]
  have HR:=Lib.hid hR
  clear hR
  unfold epdV
  go_enter Tryz.func64,Tryz.ntmps64
  go_wp2_with fail
  all_goals go_ret
  all_goals
    refine ⟨congrArg (fun b=>Ending.returned (Value.bool b)) ((?_:_=_).trans HR.out.symm),(Below.refl _ _).alloc (Nat.le_refl _) _⟩
    unfold noneB ep
    simp [← Lib.toList_data, *]
end Go.Proofs.YtldnokgdgafphaaGreatDoor
