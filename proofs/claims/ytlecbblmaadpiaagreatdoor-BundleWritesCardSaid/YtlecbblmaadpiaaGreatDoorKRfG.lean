import Derived.Test.YtlecbblmaadpiaaGreatDoorKEidR
import Derived.Deep.AppendLies
import Derived.Deep.RegionHeld3
import Derived.Below
namespace Go.Proofs.YtlecbblmaadpiaaGreatDoor
set_option maxRecDepth 100000
set_option maxHeartbeats 16000000
open Go.RowKit
def RowAt (w:World) (g:Nat) (cs:List Value):Prop:=g<w.heap.size∧∀ j u,cs[j]?=some u→w.cell? ((⟨g,0,none⟩:Addr).add j)=some u
theorem addr0 (g j:Nat):(⟨g,0,none⟩:Addr).add j=⟨g,j,none⟩:=by unfold Addr.add;split <;> simp_all
theorem RowAt.made (w:World) (cs:Array Value) (t:TypeId):RowAt (w.alloc (.cells cs t)) w.heap.size cs.toList :=
 ⟨by simp,fun j u hj=>by
  rw [addr0,World.cell?_alloc_at _ _ _ _ rfl]
  simpa using hj⟩
theorem RowAt.below {w w':World} {g:Nat} {cs:List Value} (h:RowAt w g cs) (hb:Below w.heap.size w w'):RowAt w' g cs :=
 ⟨Nat.lt_of_lt_of_le h.1 hb.size,fun j u hj=>by rw [addr0,hb.cell (p:=⟨g,j,none⟩) h.1,← addr0];exact h.2 j u hj⟩
theorem RowAt.alloc {w:World} {g:Nat} {cs:List Value} (h:RowAt w g cs) (o:Obj):RowAt (w.alloc o) g cs:=h.below ((Below.refl _ _).alloc nlr o)
theorem RowAt.grown {w w':World} {g g0:Nat} {cs:List Value} (h:RowAt w g cs) (hg:w.grownBy w' (some g0)) (hne:g≠g0):RowAt w' g cs :=
 ⟨Nat.lt_of_lt_of_le h.1 hg.size,fun j u hj=>by rw [addr0,hg.cell_far ⟨g,j,none⟩ h.1 (fun e=>hne (Option.some.inj e)),← addr0];exact h.2 j u hj⟩
theorem takeR {P:Program} {md:Region.Mode} {l:List Oper} {Q:Exit→Act→World→Prop} {S:World→Prop} {i:Nat} {oi:Oper} {v:Value} {fuel:Nat} {listed:Array Bool} {a:Act} {w:World} (hi:l[i]?=some oi)
  (hs:Region.noSelect l.toArray=true) (hf:Region.free md l.toArray listed i=true) (hr:(Region.ready md l.toArray listed).contains i=true)
  (hQ:∀ c a w,Q (.panic c) (a.put oi.dst v) w→Q (.panic c) a w) (hw:Region.wanted oi (yielded l.toArray a.tmps)=true) (hy:∀ w,S w→(execOp a.eval oi).run P w=.ok (.value v) w) (hS:S w)
  (h:wpAnyH P md l.toArray Q S fuel (listed.setIfInBounds i true) (a.put oi.dst v) w):wpAnyH P md l.toArray Q S (fuel+1) listed a w :=
 wpAnyH_take (oi:=oi) (v:=v) (by simpa using hi) hs hf hr hQ (Or.inl ⟨hw,hy⟩) hS h
open Go.Lib (hid)
theorem rletter_n (X:Nat) (w:World) :
  Calls Tryz.prog 120 #[.int .u8 (X:Int)] w fun e w'=>e=.returned (.bool ((decide (97≤X)&&decide (X≤122))||((decide (48≤X)&&decide (X≤57))||(decide (X=46)||(decide (X=45)||decide (X=95))))))∧w=w':=by
 obtain ⟨R,hR⟩:∃ R,R=((decide (97≤X)&&decide (X≤122))||((decide (48≤X)&&decide (X≤57))||(decide (X=46)||(decide (X=45)||decide (X=95))))):=⟨_,rfl⟩
 rw [← hR]
 have HR:=hid hR
 clear hR
 go_enter Tryz.func120,Tryz.ntmps120
 go_wp2
 all_goals go_ret
 all_goals
  refine ⟨congrArg (fun b=>Ending.returned (Value.bool b)) ((?_:_=_).trans HR.out.symm),rfl⟩
  rw [Bool.eq_iff_iff]
  simp
  try omega
theorem rletter_any (x:UInt8) (w:World) :
  Calls Tryz.prog 120 #[.int .u8 (x.toNat:Int)] w fun e w'=>e=.returned (.bool (letterB x))∧w=w':=by
 rw [letter_num]
 exact rletter_n x.toNat w
theorem toSlash_cons (a:UInt8) (r:List UInt8):toSlash (a::r)=if a=47 then 0 else toSlash r+1:=by
 unfold toSlash
 by_cases h:a=47
 ·
  simp [List.takeWhile,h]
 ·
  have:(a != 47)=true:=by simpa using h
  simp [List.takeWhile,this,h]
theorem toSlash_ne:∀ (r:List UInt8) (j:Nat) (hj:j<r.length),j<toSlash r→r[j]'hj≠47
 | [],_,hj,_=>absurd hj (Nat.not_lt_zero _)
 | a::r,0,_,h=>by
  rw [toSlash_cons] at h
  intro e
  rw [if_pos (by simpa using e)] at h
  exact absurd h (Nat.lt_irrefl _)
 | a::r,j+1,hj,h=>by
  rw [toSlash_cons] at h
  have hj':j<r.length:=by simpa using hj
  split at h
  ·
   exact absurd h (Nat.not_lt_zero _)
  ·
   simpa using toSlash_ne r j hj' (by omega)
theorem toSlash_at:∀ (r:List UInt8) (h:toSlash r<r.length),r[toSlash r]'h=47
 | [],h=>absurd h (Nat.not_lt_zero _)
 | a::r,h=>by
  have e:=toSlash_cons a r
  by_cases ha:a=47
  ·
   rw [if_pos ha] at e
   simp only [e,List.getElem_cons_zero]
   exact ha
  ·
   rw [if_neg ha] at e
   have h2:toSlash r<r.length:=by rw [e] at h;simpa using h
   simp only [e,List.getElem_cons_succ]
   exact toSlash_at r h2
theorem str_ix (s:ByteArray) (k:Nat) (hk:k<s.data.toList.length) (W:World):(Instr.index 9 (.string s) (.int .i64 (k:Int))).run Tryz.prog W=.ok (.int .u8 ((s.data.toList[k]'hk).toNat)) W:=by
 have hlt:k<s.size:=by rw [Lib.size_eq];exact hk
 obtain ⟨x,hx⟩:∃ x,x=s.data.toList[k]'hk:=⟨_,rfl⟩
 rw [← hx]
 rw [hx]
 go_simp
 rfl
def slashI (l:List UInt8):Int:=if nameB l=true then (third l:Int) else -1
theorem slash_no {l:List UInt8} (h:nameB l=false):slashI l = -1:=by unfold slashI;rw [h];rfl
theorem nameB_47 (r:List UInt8):nameB (47::47::r)=(decide (r.length+2≤64)&&(r.all lsB&&(decide (1≤toSlash r)&&decide (toSlash r<r.length)))):=by
 unfold nameB
 simp
theorem lsB_47:lsB 47=true:=by decide
theorem lsB_letter {x:UInt8} (h:x≠47):lsB x=letterB x:=by
 unfold lsB
 rw [beq_eq_false_iff_ne.2 h,Bool.false_or]
theorem rslash_any (s:ByteArray) (w:World) (hs:s.size≤140737488355328) :
  Calls Tryz.prog 69 #[.string s] w fun e w'=>e=.returned (.int .i64 (slashI s.data.toList))∧w=w':=by
 have hsz:s.size=s.data.toList.length:=Lib.size_eq s
 obtain ⟨L,hL⟩:∃ L,L=s.data.toList:=⟨_,rfl⟩
 by_cases h4:s.size<4
 ·
  have e1:(s.size:Int)<4:=by omega
  have hn:=hid (slash_no (l:=s.data.toList) (by
   cases hb:nameB s.data.toList with
   | false=>rfl
   | true =>
    obtain ⟨r,hr,-,h1,h2,-⟩:=name_head hb
    rw [hr] at hsz
    simp at hsz
    omega))
  clear hL hsz
  go_enter Tryz.func69,Tryz.ntmps69
  go_wp2_with fail
  go_ret
  exact ⟨(show Ending.returned _=Ending.returned _ by rw [hn.out];rfl),rfl⟩
 by_cases h64:64<s.size
 ·
  have e0:¬ (s.size:Int)<4:=by omega
  have e1:(64:Int)<(s.size:Int):=by omega
  have e2:decide ((64:Int)<(s.size:Int))=true:=decide_eq_true e1
  have hn:=hid (slash_no (l:=s.data.toList) (by
   cases hb:nameB s.data.toList with
   | false=>rfl
   | true =>
    obtain ⟨r,hr,-,-,-,h5⟩:=name_head hb
    omega))
  clear hL hsz
  go_enter Tryz.func69,Tryz.ntmps69
  go_wp2_with fail
  go_ret
  exact ⟨(show Ending.returned _=Ending.returned _ by rw [hn.out];rfl),rfl⟩
 have e0:¬ (s.size:Int)<4:=by omega
 have e1:¬ (64:Int)<(s.size:Int):=by omega
 have e2:decide ((64:Int)<(s.size:Int))=false:=decide_eq_false e1
 have hix:∀ (k:Nat) (hk:k<s.data.toList.length) (W:World),(Instr.index 9 (.string s) (.int .i64 (k:Int))).run Tryz.prog W=.ok (.int .u8 ((s.data.toList[k]'hk).toNat)) W:=by
  exact fun k hk W=>str_ix s k hk W
 have HIX:=hid hix
 have i0:∀ W,(Instr.index 9 (.string s) (.int .i64 0)).run Tryz.prog W=_:=fun W=>hix 0 (by omega) W
 have i1:∀ W,(Instr.index 9 (.string s) (.int .i64 1)).run Tryz.prog W=_:=fun W=>hix 1 (by omega) W
 clear hix
 have hl4:4≤s.data.toList.length:=by omega
 have hl64:s.data.toList.length≤64:=by omega
 generalize ha:s.data.toList[0]'(by omega)=a at *
 generalize hb:s.data.toList[1]'(by omega)=b at *
 obtain ⟨r,hr⟩:∃ r,s.data.toList=a::b::r:=by
  match hm:s.data.toList,hl4 with
  | a'::b'::r,_ =>
   simp only [hm,List.getElem_cons_zero,List.getElem_cons_succ] at ha hb
   exact ⟨r,by rw [← ha,← hb]⟩
 have h47:∀ x:UInt8,((x.toNat:Int) != 47)=decide (x≠47):=fun x=>by
  rw [Bool.eq_iff_iff]
  simp
  constructor
  ·
   intro h e;subst e;exact h rfl
  ·
   intro h e;exact h (UInt8.toNat_inj.1 (by simpa using (show x.toNat=47 by omega)))
 by_cases ha47:a=47
 case neg =>
  have t1:((a.toNat:Int) != 47)=true:=by rw [h47];simpa using ha47
  have hn:=hid (slash_no (l:=s.data.toList) (by
   cases hb:nameB s.data.toList with
   | false=>rfl
   | true =>
    obtain ⟨r',hr',-⟩:=name_head hb
    rw [hr] at hr'
    injection hr' with h1 _
    exact absurd h1 ha47))
  clear hL hsz ha hb hr h47 HIX ha47 hl4 hl64
  go_enter Tryz.func69,Tryz.ntmps69
  go_wp2_with fail
  go_ret
  exact ⟨(show Ending.returned _=Ending.returned _ by rw [hn.out];rfl),rfl⟩
 subst ha47
 by_cases hb47:b=47
 case neg =>
  have t1:((b.toNat:Int) != 47)=true:=by rw [h47];simpa using hb47
  have hn:=hid (slash_no (l:=s.data.toList) (by
   cases hb:nameB s.data.toList with
   | false=>rfl
   | true =>
    obtain ⟨r',hr',-⟩:=name_head hb
    rw [hr] at hr'
    injection hr' with _ h1
    injection h1 with h1 _
    exact absurd h1 hb47))
  clear hL hsz ha hb hr h47 HIX hb47 hl4 hl64
  go_enter Tryz.func69,Tryz.ntmps69
  go_wp2_with fail
  go_ret
  exact ⟨(show Ending.returned _=Ending.returned _ by rw [hn.out];rfl),rfl⟩
 subst hb47
 have HSZ:Hid (s.size=r.length+2):=by show _=_;rw [hsz,hr];rfl
 have HNM:Hid (nameB s.data.toList=(r.all lsB&&(decide (1≤toSlash r)&&decide (toSlash r<r.length)))):=by
  show _=_
  rw [hr,nameB_47,decide_eq_true (by have:=HSZ.out;omega),Bool.true_and]
 have HTH:Hid (third s.data.toList=2+toSlash r):=by show _=_;rw [hr];rfl
 have HXR:Hid (∀ (j:Nat) (hj:j<r.length) (W:World),(Instr.index 9 (.string s) (.int .i64 ((j+2:Nat):Int))).run Tryz.prog W=.ok (.int .u8 ((r[j]'hj).toNat)) W):=fun j hj W=>by
  have h1:j+2<s.data.toList.length:=by rw [hr];simpa using hj
  rw [HIX.out (j+2) h1 W]
  simp only [hr,List.getElem_cons_succ]
 have NE:=hid (toSlash_ne r)
 have AT:=hid (toSlash_at r)
 obtain ⟨R,hR⟩:∃ R,R=slashI s.data.toList:=⟨_,rfl⟩
 rw [← hR]
 have HR:=hid hR
 have H47:=hid h47
 clear hL hsz ha hb hr h47 HIX hl4 hl64 hR h4 h64
 go_enter Tryz.func69,Tryz.ntmps69
 go_wp2_with fail
 clear i0 i1 e0 e1 e2
 go_loop [3,4] (fun t i=>∃ (k I:Nat) (tv:Int),k≤r.length∧Hid (I=k+2)∧i=.int .i64 (I:Int)∧t=.int .i64 tv∧Hid (tv=if toSlash r<k then ((2+toSlash r:Nat):Int) else -1)∧Hid ((r.take k).all lsB=true)) (fun _ i=>s.size - (intOf i).toNat)
 case atStart=>exact ⟨0,2,-1,Nat.zero_le _,rfl,rfl,rfl,by show _=_;rw [if_neg (Nat.not_lt_zero _)],by show _=_;simp⟩
 case round =>
  obtain ⟨k,I,tv,hk,hI,rfl,rfl,htv,hall⟩:=hrel
  by_cases hlt:k<r.length
  ·
   obtain ⟨x,hx⟩:∃ x,x=r[k]'hlt:=⟨_,rfl⟩
   have hix:∀ W,(Instr.index 9 (.string s) (.int .i64 (I:Int))).run Tryz.prog W=.ok (.int .u8 (x.toNat:Int)) W:=fun W=>by
    have:=HXR.out k hlt W
    rw [← hI.out,← hx] at this
    exact this
   have hkk:(I:Int)<(s.size:Int):=by have:=HSZ.out;have:=hI.out;omega
   have hkd:decide ((I:Int)<(s.size:Int))=true:=decide_eq_true hkk
   have C1:=hid (rletter_any x w)
   have hne:=H47.out x
   have HLT:=hid hlt
   have HXK:Hid (r.getD k 0=x):=by show _=_;rw [hx];simp [List.getD,hlt]
   have hstep:(r.take (k+1)).all lsB=lsB x:=by
    rw [List.take_succ_eq_append_getElem hlt,List.all_append,hall.out,Bool.true_and,← hx]
    simp
   have HST:=hid hstep
   have heq:((x.toNat:Int)==47) = !decide (x≠47):=by rw [← hne];simp [bne]
   have HX:=hid hx
   clear hstep hx
   by_cases hx47:x=47
   ·
    have hlx:lsB x=true:=by rw [hx47];exact lsB_47
    have HLX:Hid ((r.take (k+1)).all lsB=true):=by show _=_;rw [HST.out];exact hlx
    rw [decide_eq_false (by simpa using hx47)] at hne heq
    simp only [Bool.not_false] at heq
    have HX47:Hid (r[k]'hlt=47):=HX.out.symm.trans hx47
    by_cases hT:toSlash r<k
    ·
     have ht:tv=((2+toSlash r:Nat):Int):=by rw [htv.out,if_pos hT]
     have t0:¬ tv<0:=by omega
     have t0d:decide (tv<0)=false:=decide_eq_false t0
     have HT2:Hid (tv=if toSlash r<k+1 then ((2+toSlash r:Nat):Int) else -1):=by show _=_;rw [if_pos (by omega)];exact ht
     clear ht hT hlx hx47 HX47 HX
     go_wp2_with fail
     go_round
     case rel=>exact ⟨k+1,I+1,tv,by have:=HLT.out;omega,by show _=_;have:=hI.out;omega,by go_num,rfl,HT2,HLX.out⟩
     case measure=>simp [intOf];omega
    ·
     have ht:tv = -1:=by rw [htv.out,if_neg hT]
     subst ht
     have hTk:toSlash r=k:=by
      rcases Nat.lt_or_ge k (toSlash r) with h|h
      ·
       exact absurd HX47.out (NE.out k hlt h)
      ·
       omega
     have HT2:Hid ((I:Int)=if toSlash r<k+1 then ((2+toSlash r:Nat):Int) else -1):=by show _=_;rw [if_pos (by omega)];have:=hI.out;omega
     clear hT hlx hx47 HX47 HX hTk htv
     go_wp2_with fail
     go_round
     case rel=>exact ⟨k+1,I+1,(I:Int),by have:=HLT.out;omega,by show _=_;have:=hI.out;omega,by go_num,rfl,HT2,HLX.out⟩
     case measure=>simp [intOf];omega
   ·
    have hne2:decide (x≠47)=true:=by simpa using hx47
    rw [hne2] at hne heq
    simp only [Bool.not_true] at heq
    have hls:=lsB_letter hx47
    rw [hls] at HST
    have HX47:Hid (r[k]'hlt≠47):=by show _≠_;rw [← HX.out];exact hx47
    clear hne2 hls hx47 HX
    cases hlx:letterB x with
    | true =>
     rw [hlx] at C1 HST
     have HT2:Hid (tv=if toSlash r<k+1 then ((2+toSlash r:Nat):Int) else -1):=by
      show _=_
      rw [htv.out]
      by_cases hT:toSlash r<k
      ·
       rw [if_pos hT,if_pos (by omega)]
      ·
       rw [if_neg hT,if_neg (fun h=>by
        have hTk:toSlash r=k:=by omega
        have:=AT.out (by rw [hTk];exact hlt)
        simp only [hTk] at this
        exact HX47.out this)]
     clear hlx HX47 htv
     go_wp2_with fail
     refine C1.out.mono ?_
     rintro e w' ⟨rfl,rfl⟩
     go_wp2_with fail
     go_round
     case rel=>exact ⟨k+1,I+1,tv,by have:=HLT.out;omega,by show _=_;have:=hI.out;omega,by go_num,rfl,HT2,HST.out⟩
     case measure=>simp [intOf];omega
    | false =>
     rw [hlx] at C1 HST
     have hf:R = -1:=by
      rw [HR.out]
      refine slash_no ?_
      rw [HNM.out,← List.take_append_drop (k+1) r,List.all_append,HST.out]
      simp
     subst hf
     clear hlx HX47 htv
     go_wp2_with fail
     refine C1.out.mono ?_
     rintro e w' ⟨rfl,rfl⟩
     go_wp2_with fail
     go_ret
     exact ⟨rfl,rfl⟩
  ·
   obtain rfl:k=r.length:=by omega
   have hkk:¬ (I:Int)<(s.size:Int):=by have:=HSZ.out;have:=hI.out;omega
   have hkd:decide ((I:Int)<(s.size:Int))=false:=decide_eq_false hkk
   have hal:=hall.out
   rw [List.take_length] at hal
   have hnm:=HNM.out
   rw [hal,Bool.true_and] at hnm
   have hrr:=HR.out
   unfold slashI at hrr
   rw [hnm,HTH.out] at hrr
   by_cases h3:tv<3
   ·
    have hR1:R = -1:=by
     rw [hrr,if_neg]
     intro h
     simp only [Bool.and_eq_true,decide_eq_true_eq] at h
     have:=htv.out
     rw [if_pos h.2] at this
     omega
    subst hR1
    clear hal hnm hrr
    go_wp2_with fail
    go_ret
    exact ⟨rfl,rfl⟩
   ·
    have hR1:R=tv:=by
     have:=htv.out
     by_cases hT:toSlash r<r.length
     ·
      rw [if_pos hT] at this
      rw [hrr,if_pos (by simp only [Bool.and_eq_true,decide_eq_true_eq];omega),this]
     ·
      rw [if_neg hT] at this
      omega
    subst hR1
    clear hal hnm hrr
    go_wp2_with fail
    go_ret
    exact ⟨rfl,rfl⟩
theorem rnone_any (sc:Int) (s:ByteArray) (n v:Nat) (w:World) :
  Calls Tryz.prog 18 #[epdV sc s n v] w fun e w'=>e=.returned (.bool (noneB (ep sc s n v)))∧Below w.heap.size w w':=by
 have hbe:s.toList.isEmpty=s.data.toList.isEmpty:=by rw [Lib.toList_data]
 obtain ⟨R,hR⟩:∃ R,R=noneB (ep sc s n v):=⟨_,rfl⟩
 rw [← hR]
 have hR2:R=(sc==1&&(s.data.toList.isEmpty&&(n==0&&v==0))):=hR
 clear hR
 generalize s.data.toList.isEmpty=be at *
 have HR:=hid hR2
 clear hR2
 unfold epdV
 cases be with
 | true =>
  go_enter Tryz.func18,Tryz.ntmps18
  go_wp2
  all_goals go_ret
  all_goals
   refine ⟨congrArg (fun b=>Ending.returned (Value.bool b)) ((?_:_=_).trans HR.out.symm),(Below.refl _ _).alloc nlr _⟩
   rw [Bool.eq_iff_iff]
   simp
   try omega
 | false =>
  go_enter Tryz.func18,Tryz.ntmps18
  go_wp2
  all_goals go_ret
  all_goals
   refine ⟨congrArg (fun b=>Ending.returned (Value.bool b)) ((?_:_=_).trans HR.out.symm),(Below.refl _ _).alloc nlr _⟩
   rw [Bool.eq_iff_iff]
   simp
   try omega
theorem slash_pos (l:List UInt8):decide ((0:Int)<slashI l)=nameB l:=by
 unfold slashI
 cases nameB l with
 | true=>rw [if_pos rfl];unfold third;simp;omega
 | false=>rw [if_neg (by decide)];decide
theorem rcheckE_any (sc:Int) (s:ByteArray) (n v:Nat) (w:World) (hs:s.size≤140737488355328) :
  Calls Tryz.prog 16 #[epdV sc s n v] w fun e w'=>e=.returned (.bool (checkB (ep sc s n v)))∧Below w.heap.size w w':=by
 have hbe:s.toList.isEmpty=s.data.toList.isEmpty:=by rw [Lib.toList_data]
 obtain ⟨R,hR⟩:∃ R,R=checkB (ep sc s n v):=⟨_,rfl⟩
 rw [← hR]
 have hR2:R=if sc=1 then (n==0&&v==0)&&(s.data.toList.isEmpty||nameB s.data.toList) else sc==2&&(s.data.toList.isEmpty&&(decide (0<n)&&(decide (n≤4294967295)&&decide (v≤4294967295)))):=hR
 clear hR
 have CS:=hid (fun W=>rslash_any s W hs)
 have SP:=slash_pos s.data.toList
 generalize slashI s.data.toList=z at *
 generalize nameB s.data.toList=nb at *
 generalize s.data.toList.isEmpty=be at *
 have HR:=hid hR2
 clear hR2 hs
 unfold epdV
 by_cases h1:sc=1
 ·
  subst h1
  by_cases hn:n=0
  ·
   subst hn
   by_cases hv:v=0
   ·
    subst hv
    cases be with
    | true =>
     go_enter Tryz.func16,Tryz.ntmps16
     go_wp2_with fail
     go_ret
     exact ⟨congrArg (fun b=>Ending.returned (Value.bool b)) ((by simp:true=_).trans HR.out.symm),(Below.refl _ _).alloc nlr _⟩
    | false =>
     go_enter Tryz.func16,Tryz.ntmps16
     go_wp2_with fail
     refine (CS.out _).mono ?_
     rintro e w' ⟨rfl,rfl⟩
     cases nb with
     | true =>
      have z0:(0:Int)<z:=by simpa using SP
      go_wp2_with fail
      go_ret
      exact ⟨congrArg (fun b=>Ending.returned (Value.bool b)) ((by simp:true=_).trans HR.out.symm),(Below.refl _ _).alloc nlr _⟩
     | false =>
      have z0:¬ (0:Int)<z:=by simpa using SP
      go_wp2_with fail
      go_ret
      exact ⟨congrArg (fun b=>Ending.returned (Value.bool b)) ((by simp:false=_).trans HR.out.symm),(Below.refl _ _).alloc nlr _⟩
   ·
    have e1:((v:Int)==0)=false:=by simp;omega
    go_enter Tryz.func16,Tryz.ntmps16
    go_wp2_with fail
    go_ret
    exact ⟨congrArg (fun b=>Ending.returned (Value.bool b)) ((by simp [hv]:false=_).trans HR.out.symm),(Below.refl _ _).alloc nlr _⟩
  ·
   have e1:((n:Int)==0)=false:=by simp;omega
   go_enter Tryz.func16,Tryz.ntmps16
   go_wp2_with fail
   go_ret
   exact ⟨congrArg (fun b=>Ending.returned (Value.bool b)) ((by simp [hn]:false=_).trans HR.out.symm),(Below.refl _ _).alloc nlr _⟩
 ·
  have e1:(sc==1)=false:=by simpa using h1
  have HR2:Hid (R=(sc==2&&(be&&(decide (0<n)&&(decide (n≤4294967295)&&decide (v≤4294967295)))))):=by show _=_;rw [HR.out,if_neg h1]
  clear HR h1 SP
  cases be with
  | true =>
   go_enter Tryz.func16,Tryz.ntmps16
   go_wp2
   all_goals go_ret
   all_goals
    refine ⟨congrArg (fun b=>Ending.returned (Value.bool b)) ((?_:_=_).trans HR2.out.symm),(Below.refl _ _).alloc nlr _⟩
    rw [Bool.eq_iff_iff]
    simp
    try omega
  | false =>
   go_enter Tryz.func16,Tryz.ntmps16
   go_wp2
   all_goals go_ret
   all_goals
    refine ⟨congrArg (fun b=>Ending.returned (Value.bool b)) ((?_:_=_).trans HR2.out.symm),(Below.refl _ _).alloc nlr _⟩
    rw [Bool.eq_iff_iff]
    simp
open Go.Lib (decDigits)
theorem rtextE_any (sc:Int) (s:ByteArray) (n v:Nat) (w:World) (hs:s.size≤140737488355328) (hn:n<18446744073709551616) (hv:v<18446744073709551616) :
  Calls Tryz.prog 21 #[epdV sc s n v] w fun e w'=>e=.returned (.string (strL (textE (ep sc s n v))))∧Below w.heap.size w w':=by
 have C1:=hid (fun W=>rcheckE_any sc s n v W hs)
 have C2:=hid (fun W=>rdec_any n W hn)
 have C3:=hid (fun W=>rdec_any v W hv)
 have hbe:s.toList.isEmpty=s.data.toList.isEmpty:=by rw [Lib.toList_data]
 cases hc:checkB (ep sc s n v) with
 | false =>
  have ht:textE (ep sc s n v)=[]:=by unfold textE;rw [if_pos hc]
  rw [ht]
  rw [hc] at C1
  clear hc ht hbe
  unfold epdV at *
  go_enter Tryz.func21,Tryz.ntmps21
  go_wp2_with fail
  refine (C1.out _).mono ?_
  rintro e w1 ⟨rfl,hb⟩
  have HB:=hid hb
  clear hb
  go_wp2_with fail
  go_ret
  exact ⟨rfl,((Below.refl _ _).alloc nlr _).trans (HB.out.mono (le_alloc _ _))⟩
 | true =>
  rw [hc] at C1
  by_cases h1:sc=1
  ·
   subst h1
   obtain ⟨hn0,hv0,hnm⟩:=check_dtn hc rfl
   have hs64:s.size≤64:=by
    rw [ep_name] at hnm
    rw [Lib.size_eq]
    rcases hnm with h|h
    ·
     rw [h];simp
    ·
     obtain ⟨r,-,-,-,-,h⟩:=name_head h;exact h
   by_cases he:s.data.toList=[]
   ·
    have ht:=textE_none hc rfl (show (ep 1 s n v).name=[] from he)
    rw [ht]
    rw [he] at hbe
    have hbe2:s.toList.isEmpty=true:=hbe
    clear hc ht hn0 hv0 hnm hbe
    unfold epdV at *
    go_enter Tryz.func21,Tryz.ntmps21
    go_wp2_with fail
    refine (C1.out _).mono ?_
    rintro e w1 ⟨rfl,hb⟩
    have g1:=box_cells4 hb
    have HB:=hid hb
    clear hb
    obtain ⟨g10,g11,g12,g13⟩:=g1
    go_wp2_with fail
    go_ret
    exact ⟨rfl,((Below.refl _ _).alloc nlr _).trans (HB.out.mono (le_alloc _ _))⟩
   ·
    have ht:=textE_dtn hc rfl (show (ep 1 s n v).name≠[] from he)
    have eR:(⟨#[100,116,110,58]⟩:ByteArray)++s=strL (dtnL++s.data.toList):=by
     rw [← strL_app,strL_data];rfl
    rw [ht,ep_name,← eR]
    have hbe2:s.toList.isEmpty=false:=by rw [hbe];cases hh:s.data.toList with|nil=>exact absurd hh he|cons a l=>rfl
    clear hc ht hn0 hv0 hnm eR he hbe
    unfold epdV at *
    go_enter Tryz.func21,Tryz.ntmps21
    go_wp2_with fail
    refine (C1.out _).mono ?_
    rintro e w1 ⟨rfl,hb⟩
    have g1:=box_cells4 hb
    have HB:=hid hb
    clear hb
    obtain ⟨g10,g11,g12,g13⟩:=g1
    go_wp2_with fail
    go_ret
    exact ⟨rfl,((Below.refl _ _).alloc nlr _).trans (HB.out.mono (le_alloc _ _))⟩
  ·
   obtain ⟨h2,hnm,-,-,-⟩:=check_ipn hc h1
   have h2':sc=2:=h2
   subst h2'
   have ht:=textE_ipn hc rfl
   have l1:=nd20 n hn
   have l2:=nd20 v hv
   have eR:((⟨#[105,112,110,58]⟩:ByteArray)++strL (decDigits n)++⟨#[46]⟩)++strL (decDigits v)=strL (ipnL++(decDigits n++(46::decDigits v))):=by
    rw [show (⟨#[105,112,110,58]⟩:ByteArray)=strL ipnL from rfl,show (⟨#[46]⟩:ByteArray)=strL [46] from rfl,strL_app,strL_app,strL_app]
    congr 1
    simp
   have s1:(strL (decDigits n)).size≤20:=by rw [strL_size];exact l1
   have s2:(strL (decDigits v)).size≤20:=by rw [strL_size];exact l2
   rw [ht,show (ep 2 s n v).node=n from rfl,show (ep 2 s n v).service=v from rfl,← eR]
   generalize strL (decDigits n)=N at *
   generalize strL (decDigits v)=V at *
   have f1:¬ 9223372036854775807<4+N.size:=by omega
   have f2:¬ 9223372036854775807<4+N.size+1:=by omega
   have f3:¬ 9223372036854775807<4+N.size+1+V.size:=by omega
   clear hc ht hnm h1 h2 l1 l2 eR hbe
   unfold epdV at *
   go_enter Tryz.func21,Tryz.ntmps21
   go_wp2_with fail
   refine (C1.out _).mono ?_
   rintro e w1 ⟨rfl,hb⟩
   have g1:=box_cells4 hb
   have HB:=hid hb
   clear hb
   obtain ⟨g10,g11,g12,g13⟩:=g1
   go_wp2_with fail
   refine wp_region_held_drew (S:=fun W=>W=w1.drew) (by kernel_rfl) rfl (fun hHeld=>?_)
   refine takeR (i:=0) (v:=?v0_1) rfl (by kernel_rfl) (by kernel_rfl) (by kernel_rfl) (fun _ _ _ h=>h) (by rfl) ?hy0_1 (by assumption) ?rest0_1
   case hy0_1=>(intro W hSw;subst hSw;have g10:w1.drew.cell? _=_:=g10;have g11:w1.drew.cell? _=_:=g11;have g12:w1.drew.cell? _=_:=g12;have g13:w1.drew.cell? _=_:=g13;go_simp;try with_reducible rfl)
   try simp only [Act.put,List.setIfInBounds_toArray,List.set_cons_zero,List.set_cons_succ]
   refine takeR (i:=1) (v:=?v1_2) rfl (by kernel_rfl) (by kernel_rfl) (by kernel_rfl) (fun _ _ _ h=>h) (by rfl) ?hy1_2 (by assumption) ?rest1_2
   case hy1_2=>(intro W hSw;subst hSw;have g10:w1.drew.cell? _=_:=g10;have g11:w1.drew.cell? _=_:=g11;have g12:w1.drew.cell? _=_:=g12;have g13:w1.drew.cell? _=_:=g13;go_simp;try with_reducible rfl)
   try simp only [Act.put,List.setIfInBounds_toArray,List.set_cons_zero,List.set_cons_succ]
   refine takeR (i:=5) (v:=?v5_3) rfl (by kernel_rfl) (by kernel_rfl) (by kernel_rfl) (fun _ _ _ h=>h) (by rfl) ?hy5_3 (by assumption) ?rest5_3
   case hy5_3=>(intro W hSw;subst hSw;have g10:w1.drew.cell? _=_:=g10;have g11:w1.drew.cell? _=_:=g11;have g12:w1.drew.cell? _=_:=g12;have g13:w1.drew.cell? _=_:=g13;go_simp;try with_reducible rfl)
   try simp only [Act.put,List.setIfInBounds_toArray,List.set_cons_zero,List.set_cons_succ]
   refine takeR (i:=6) (v:=?v6_4) rfl (by kernel_rfl) (by kernel_rfl) (by kernel_rfl) (fun _ _ _ h=>h) (by rfl) ?hy6_4 (by assumption) ?rest6_4
   case hy6_4=>(intro W hSw;subst hSw;have g10:w1.drew.cell? _=_:=g10;have g11:w1.drew.cell? _=_:=g11;have g12:w1.drew.cell? _=_:=g12;have g13:w1.drew.cell? _=_:=g13;go_simp;try with_reducible rfl)
   try simp only [Act.put,List.setIfInBounds_toArray,List.set_cons_zero,List.set_cons_succ]
   refine wpAnyH_ready (rs:=[2]) (by kernel_rfl) (by simp) ?_
   refine AllReadyH.cons rfl (fun K hK=>?_) AllReadyH.nil
   rw [if_pos (by rfl)]
   go_simp
   refine (C2.out _).mono ?_
   rintro e wq ⟨rfl,rfl⟩
   go_simp
   refine hK.out _ _ rfl (fun hHeld=>?_)
   try simp only [Act.put,List.setIfInBounds_toArray,List.set_cons_zero,List.set_cons_succ]
   clear hK K
   refine takeR (i:=3) (v:=?v3_5) rfl (by kernel_rfl) (by kernel_rfl) (by kernel_rfl) (fun _ _ _ h=>h) (by rfl) ?hy3_5 (by assumption) ?rest3_5
   case hy3_5=>(intro W hSw;subst hSw;go_simp;try with_reducible rfl)
   try simp only [Act.put,List.setIfInBounds_toArray,List.set_cons_zero,List.set_cons_succ]
   refine takeR (i:=4) (v:=?v4_6) rfl (by kernel_rfl) (by kernel_rfl) (by kernel_rfl) (fun _ _ _ h=>h) (by rfl) ?hy4_6 (by assumption) ?rest4_6
   case hy4_6=>(intro W hSw;subst hSw;go_simp;try with_reducible rfl)
   try simp only [Act.put,List.setIfInBounds_toArray,List.set_cons_zero,List.set_cons_succ]
   refine wpAnyH_ready (rs:=[7]) (by kernel_rfl) (by simp) ?_
   refine AllReadyH.cons rfl (fun K hK=>?_) AllReadyH.nil
   rw [if_pos (by rfl)]
   go_simp
   refine (C3.out _).mono ?_
   rintro e wq ⟨rfl,rfl⟩
   go_simp
   refine hK.out _ _ rfl (fun hHeld=>?_)
   try simp only [Act.put,List.setIfInBounds_toArray,List.set_cons_zero,List.set_cons_succ]
   clear hK K
   refine takeR (i:=8) (v:=?v8_7) rfl (by kernel_rfl) (by kernel_rfl) (by kernel_rfl) (fun _ _ _ h=>h) (by rfl) ?hy8_7 (by assumption) ?rest8_7
   case hy8_7=>(intro W hSw;subst hSw;go_simp;try with_reducible rfl)
   try simp only [Act.put,List.setIfInBounds_toArray,List.set_cons_zero,List.set_cons_succ]
   refine takeR (i:=9) (v:=?v9_8) rfl (by kernel_rfl) (by kernel_rfl) (by kernel_rfl) (fun _ _ _ h=>h) (by rfl) ?hy9_8 (by assumption) ?rest9_8
   case hy9_8=>(intro W hSw;subst hSw;go_simp;try with_reducible rfl)
   try simp only [Act.put,List.setIfInBounds_toArray,List.set_cons_zero,List.set_cons_succ]
   refine wpAnyH_done (by kernel_rfl) ?_ _
   go_wp2_with fail
   go_ret
   exact ⟨rfl,((Below.refl _ _).alloc nlr _).trans (HB.out.drew.mono (le_alloc _ _))⟩
end Go.Proofs.YtlecbblmaadpiaaGreatDoor
