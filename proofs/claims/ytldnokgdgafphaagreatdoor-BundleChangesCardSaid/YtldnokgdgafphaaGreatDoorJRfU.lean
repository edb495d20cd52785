/- append of a slice, perhaps of no element, onto one that the call owns; rows beside. No program's functions. -/
import Derived.Test.YtldnokgdgafphaaGreatDoorJBlkD
import Derived.Test.YtldnokgdgafphaaGreatDoorJBunD
import Derived.Test.YtldnokgdgafphaaGreatDoorJKRd
import Derived.Test.YtldnokgdgafphaaGreatDoorJRfF
import Derived.Deep.AppendLies
import Derived.Deep.RegionHeld3
import Derived.Below
import Derived.BigQuiet
import Derived.Deep.QuietTactic
namespace Go.Proofs.YtldnokgdgafphaaGreatDoor
open Go.RowKit
theorem run_append_z {P:Program} (w:World) (t ty:TypeId) (base:Nat) (e:TypeId) (i:TypeInfo) (z:Value) (size bytes:Nat) (ht:P.underlying t=some (.slice e)) (hi:P.info? e=some i) (hz:i.zero=some z)
    (hsize:i.size=size) (hby:i.bytes=bytes) (hzs:z.cells.size=size) (hsz:0<size)
    (g0 cap0 n:Nat) (xs:List Value) (hown:w.ownsRow base e size (.slice (some ⟨g0,0,none⟩) n cap0) n xs)
    (ad:Addr) (m c:Nat) (news:List Value) (hl:news.length=m * size) (hnews:∀ j u,news[j]?=some u→w.cell? (ad.add j)=some u) (h1:∀ u∈news,u.oneCell'=true)
    (h63:n+m≤maxLen) (hbytes:(n+m) * bytes≤140737488355328) (hbase:base≤w.heap.size) :
    ∃ g cap w',(Builtin.append_ #[t,t] ty #[.slice (some ⟨g0,0,none⟩) n cap0,.slice (some ad) m c]).run P w=.ok (.slice (some ⟨g,0,none⟩) (n+m) cap) w' ∧
      w'.ownsRow base e size (.slice (some ⟨g,0,none⟩) (n+m) cap) (n+m) (xs++news)∧w.grownBy w' (some g0)∧(g=g0∨g=w.heap.size)∧g<w'.heap.size:=by
  obtain ⟨v',w',hr,h2,h3,h4,h5⟩:=run_append_own_at (P:=P) w base t ty e i z size bytes ht hi hz hsize hby hzs hsz _ n xs hown ad m c news hl hnews h1 h63 hbytes hbase
  rcases h2.2 with ⟨rfl,_⟩ | ⟨g,cap,cur,rfl,hb,hg,_⟩
  · have:=(h4.1 rfl).1
    cases this
  refine ⟨g,cap,w',hr,h2,h3,?_,?_⟩
  · rcases h5 with h5 | h5
    · left;simpa [Value.ownBlock] using h5
    · right;simpa [Value.ownBlock] using h5
  · rcases Nat.lt_or_ge g w'.heap.size with hlt | hge
    · exact hlt
    · rw [Array.getElem?_eq_none hge] at hg;cases hg
theorem step_append_z {P:Program} {w:World} {ops:Array Oper} {o:Oper} {a:Act} {K:Act→World→Prop} {Q:Exit→Act→World→Prop} {E:Prop} (hgd:o.guard=none) (s x:Operand) (t:TypeId)
    (ho:o.op=.call { callee:=.builtin .append,args:=#[s,x],argTypes:=#[t,t] })
    (base:Nat) (e:TypeId) (i:TypeInfo) (z:Value) (size bytes:Nat) (ht:P.underlying t=some (.slice e)) (hi:P.info? e=some i) (hz:i.zero=some z)
    (hsize:i.size=size) (hby:i.bytes=bytes) (hzs:z.cells.size=size) (hsz:0<size)
    (g0 cap0 n:Nat) (xs:List Value) (hs:a.eval s=.slice (some ⟨g0,0,none⟩) n cap0) (hown:w.ownsRow base e size (.slice (some ⟨g0,0,none⟩) n cap0) n xs)
    (ad:Addr) (m c:Nat) (news:List Value) (hx:a.eval x=.slice (some ad) m c) (hl:news.length=m * size) (hnews:∀ j u,news[j]?=some u→w.cell? (ad.add j)=some u) (h1:∀ u∈news,u.oneCell'=true)
    (h63:n+m≤maxLen) (hbytes:(n+m) * bytes≤140737488355328) (hbase:base≤w.heap.size)
    (h:∀ g cap w',w'.ownsRow base e size (.slice (some ⟨g,0,none⟩) (n+m) cap) (n+m) (xs++news)→w.grownBy w' (some g0)→(g=g0∨g=w.heap.size)→g<w'.heap.size→K (a.put o.dst (.slice (some ⟨g,0,none⟩) (n+m) cap)) w') :
    if Region.wanted o (yielded ops a.tmps)=true then Oper.wp P o a w K Q else E:=by
  have hw:Region.wanted o (yielded ops a.tmps)=true:=by simp [Region.wanted,hgd]
  rw [if_pos hw]
  obtain ⟨g,cap,w',hr,h2,h3,h4,h5⟩:=run_append_z (P:=P) w t o.type base e i z size bytes ht hi hz hsize hby hzs hsz g0 cap0 n xs hown ad m c news hl hnews h1 h63 hbytes hbase
  unfold Oper.wp execOp
  simp only [ho,resolve,invoke,builtin,Sem.run_bind,Sem.run_pure,Result.andThen_ok,List.map_toArray,List.map_cons,List.map_nil,hs,hx,hr]
  exact h g cap w' h2 h3 h4 h5
def RowAt (w:World) (g:Nat) (cs:List Value):Prop:=g<w.heap.size∧∀ j u,cs[j]?=some u→w.cell? ((⟨g,0,none⟩:Addr).add j)=some u
theorem addr0 (g j:Nat):(⟨g,0,none⟩:Addr).add j=⟨g,j,none⟩:=by unfold Addr.add;split <;> simp_all
theorem addr_add (b o j:Nat):(⟨b,o,none⟩:Addr).add j=⟨b,o+j,none⟩:=by unfold Addr.add;split <;> simp_all
theorem RowAt.made (w:World) (cs:Array Value) (t:TypeId):RowAt (w.alloc (.cells cs t)) w.heap.size cs.toList :=
  ⟨by simp,fun j u hj=>by
    rw [addr0,World.cell?_alloc_at _ _ _ _ rfl]
    simpa using hj⟩
theorem RowAt.below {w w':World} {g:Nat} {cs:List Value} (h:RowAt w g cs) (hb:Below w.heap.size w w'):RowAt w' g cs :=
  ⟨Nat.lt_of_lt_of_le h.1 hb.size,fun j u hj=>by rw [addr0,hb.cell (p:=⟨g,j,none⟩) h.1,← addr0];exact h.2 j u hj⟩
theorem RowAt.alloc {w:World} {g:Nat} {cs:List Value} (h:RowAt w g cs) (o:Obj):RowAt (w.alloc o) g cs:=h.below ((Below.refl _ _).alloc (Nat.le_refl _) o)
theorem RowAt.grown {w w':World} {g g0:Nat} {cs:List Value} (h:RowAt w g cs) (hg:w.grownBy w' (some g0)) (hne:g≠g0):RowAt w' g cs :=
  ⟨Nat.lt_of_lt_of_le h.1 hg.size,fun j u hj=>by rw [addr0,hg.cell_far ⟨g,j,none⟩ h.1 (fun e=>hne (Option.some.inj e)),← addr0];exact h.2 j u hj⟩
theorem ne_grown {w:World} {gx g g':Nat} (hne:gx≠g) (hlt:gx<w.heap.size) (hat:g'=g∨g'=w.heap.size):gx≠g':=by omega
theorem owns_lt {w:World} {base g n cap size:Nat} {e:TypeId} {xs:List Value} (h:w.ownsRow base e size (.slice (some ⟨g,0,none⟩) n cap) n xs):g<w.heap.size:=(World.ownsRow.lt h g rfl).2
theorem owns_base {w:World} {base g n cap size:Nat} {e:TypeId} {xs:List Value} (h:w.ownsRow base e size (.slice (some ⟨g,0,none⟩) n cap) n xs):base≤g:=(World.ownsRow.lt h g rfl).1
theorem owns_cap {w:World} {base g n cap size:Nat} {e:TypeId} {xs:List Value} (h:w.ownsRow base e size (.slice (some ⟨g,0,none⟩) n cap) n xs):n≤cap:=by
  rcases h.2 with ⟨hv,_⟩ | ⟨g',cap',cur,hv,_,_,hnc,_⟩
  · cases hv
  · injection hv with _ _ h3
    omega
theorem grownOwn {w a w':World} {base g:Nat} (h:Below base w a) (hb:base≤a.heap.size) (hg:a.grownBy w' (some g)) (hbg:base≤g):Below base w w' :=
  h.grown hg hb (fun k e=>by cases e;exact hbg)
theorem takeR {P:Program} {md:Region.Mode} {l:List Oper} {Q:Exit→Act→World→Prop} {S:World→Prop} {i:Nat} {oi:Oper} {v:Value} {fuel:Nat} {listed:Array Bool} {a:Act} {w:World} (hi:l[i]?=some oi)
    (hs:Region.noSelect l.toArray=true) (hf:Region.free md l.toArray listed i=true) (hr:(Region.ready md l.toArray listed).contains i=true)
    (hQ:∀ c a w,Q (.panic c) (a.put oi.dst v) w→Q (.panic c) a w) (hw:Region.wanted oi (yielded l.toArray a.tmps)=true) (hy:∀ w,S w→(execOp a.eval oi).run P w=.ok (.value v) w) (hS:S w)
    (h:wpAnyH P md l.toArray Q S fuel (listed.setIfInBounds i true) (a.put oi.dst v) w):wpAnyH P md l.toArray Q S (fuel+1) listed a w :=
  wpAnyH_take (oi:=oi) (v:=v) (by simpa using hi) hs hf hr hQ (Or.inl ⟨hw,hy⟩) hS h
end Go.Proofs.YtldnokgdgafphaaGreatDoor
/- What Check and items of layer 5's reference return. (Made by gen/BlkW1.py.) -/
namespace Go.Proofs.YtldnokgdgafphaaGreatDoor
open Go.RowKit
theorem RdIs.unmask {S:Nat→Bool} {w:World} {B b o:Nat} {l:List Itm} (hb:b<B) (h:RdIs (mask S w) B b o l):RdIs w B b o l:=h.sub (Nat.le_refl _) (fun _ _ _ hc=>mask_sub hc) hb
set_option maxRecDepth 100000 in
set_option maxHeartbeats 2000000 in
theorem rcheckB_any (t n f:Nat) (c:Int) (A:Option Addr) (nd cd:Nat) (d:List UInt8) (w:World) (hd:d.length=nd) :
    Calls Tryz.prog 49 #[blkV t n f c A nd cd] w fun e w'=>e=.returned (.bool (blkOk ⟨t,n,f,c,d⟩))∧Below w.heap.size w w':=by
  obtain ⟨R,hR⟩:∃ R,R=blkOk ⟨t,n,f,c,d⟩:=⟨_,rfl⟩
  rw [← hR]
  have hR2:R=true↔((1≤(t:Int)∧(t:Int)≤255)∧¬ (n:Int)=0∧(¬ (t:Int)=1∨(n:Int)=1)∧(0≤c∧c≤2)∧(nd:Int)≤4096):=by
    rw [hR,← hd,blkOk_iff]
    simp only
    omega
  clear hR hd
  have hN0:0≤(n:Int):=by omega
  unfold blkV
  generalize (t:Int)=T at *
  generalize (n:Int)=N at *
  have no:∀ (_:¬ R=true),R=false:=fun h=>by simpa using h
  by_cases h1:T<1
  · obtain rfl:=no (by rw [hR2];omega)
    clear hR2 no
    have h1n:¬ 1≤T:=by omega
    go_enter Tryz.func49,Tryz.ntmps49
    go_wp2_with fail
    go_ret
    exact ⟨rfl,(Below.refl _ _).alloc (Nat.le_refl _) _⟩
  have h1p:1≤T:=by omega
  by_cases h2:255<T
  · obtain rfl:=no (by rw [hR2];omega)
    clear hR2 no
    have h2n:¬ T≤255:=by omega
    go_enter Tryz.func49,Tryz.ntmps49
    go_wp2_with fail
    go_ret
    exact ⟨rfl,(Below.refl _ _).alloc (Nat.le_refl _) _⟩
  have h2p:T≤255:=by omega
  by_cases h3:N=0
  · obtain rfl:=no (by rw [hR2];omega)
    clear hR2 no
    have h3n:¬ 0<N:=by omega
    go_enter Tryz.func49,Tryz.ntmps49
    go_wp2_with fail
    go_ret
    exact ⟨rfl,(Below.refl _ _).alloc (Nat.le_refl _) _⟩
  have h3p:0<N:=by omega
  by_cases h4:c<0
  · obtain rfl:=no (by rw [hR2];omega)
    clear hR2 no
    have h4n:¬ 0≤c:=by omega
    go_enter Tryz.func49,Tryz.ntmps49
    go_wp2_with fail
    go_ret
    exact ⟨rfl,(Below.refl _ _).alloc (Nat.le_refl _) _⟩
  have h4p:0≤c:=by omega
  by_cases h5:2<c
  · obtain rfl:=no (by rw [hR2];omega)
    clear hR2 no
    have h5n:¬ c≤2:=by omega
    go_enter Tryz.func49,Tryz.ntmps49
    go_wp2_with fail
    go_ret
    exact ⟨rfl,(Below.refl _ _).alloc (Nat.le_refl _) _⟩
  have h5p:c≤2:=by omega
  by_cases h6:(4096:Int)<nd
  · obtain rfl:=no (by rw [hR2];omega)
    clear hR2 no
    have h6n:¬ (nd:Int)≤4096:=by omega
    have h6m:4096<nd:=by omega
    go_enter Tryz.func49,Tryz.ntmps49
    go_wp2_with fail
    go_ret
    exact ⟨rfl,(Below.refl _ _).alloc (Nat.le_refl _) _⟩
  have h6p:(nd:Int)≤4096:=by omega
  have h6q:nd≤4096:=by omega
  have h6d:decide ((nd:Int)≤4096)=true:=by simpa using h6p
  by_cases h7:T=1
  · subst h7
    by_cases h8:N=1
    · subst h8
      obtain rfl:R=true:=by rw [hR2];omega
      clear hR2 no
      go_enter Tryz.func49,Tryz.ntmps49
      go_wp2_with fail
      go_ret
      exact ⟨rfl,(Below.refl _ _).alloc (Nat.le_refl _) _⟩
    · obtain rfl:=no (by rw [hR2];omega)
      have h8b:(N==1)=false:=by rw [beq_eq_false_iff_ne];exact h8
      clear hR2 no
      go_enter Tryz.func49,Tryz.ntmps49
      go_wp2_with fail
      go_ret
      exact ⟨rfl,(Below.refl _ _).alloc (Nat.le_refl _) _⟩
  · obtain rfl:R=true:=by rw [hR2];omega
    have h7b:(T==1)=false:=by rw [beq_eq_false_iff_ne];exact h7
    clear hR2 no
    go_enter Tryz.func49,Tryz.ntmps49
    go_wp2_with fail
    go_ret
    exact ⟨rfl,(Below.refl _ _).alloc (Nat.le_refl _) _⟩
end Go.Proofs.YtldnokgdgafphaaGreatDoor
/- What once of layer 6's reference returns. (Made by gen/RfU.py, gen/bun.py.) -/
namespace Go.Proofs.YtldnokgdgafphaaGreatDoor
open Go.RowKit
theorem any_step (l:List Blk) (p:Blk→Bool) (k:Nat) (hk:k<l.length):(l.take (k+1)).any p=((l.take k).any p||p (l[k]'hk)):=by
  rw [List.take_succ_eq_append_getElem hk,List.any_append]
  simp
set_option maxRecDepth 100000 in
set_option maxHeartbeats 16000000 in
theorem ronce_any (A:Option Addr) (n c B:Nat) (l:List Blk) (w:World) (h:RdL w B A n l) (hB:B≤w.heap.size) (h1:1≤n) (hcap:n≤1000) :
    Calls Tryz.prog 36 #[.slice A n c] w fun e w'=>e=.returned (.bool (frm [] l))∧Below w.heap.size w w':=by
  obtain ⟨R,hR⟩:∃ R,R=frm [] l:=⟨_,rfl⟩
  rw [← hR]
  obtain ⟨M,hM⟩:∃ M,n=M+1:=⟨n - 1,by omega⟩
  have hM1:(n:Int) - 1=(M:Int):=by omega
  have hwM:wrap64 (M:Int)=(M:Int):=by unfold wrap64;omega
  obtain ⟨b,o,rfl,hbB,hks⟩:=h.2.1 (by omega)
  have HL:Hid (l.length=n):=h.1
  have HK:=Lib.hid (fun (W:World) (hb:Below w.heap.size w W) (j:Nat) (hj:j<l.length)=>(show ∃ A1 nd cd,RdK W B b (o+j * 5) (l[j]'hj) A1 nd cd from by obtain ⟨A1,nd,cd,hk⟩:=hks.get j hj;exact ⟨A1,nd,cd,hk.below (hb.mono hB) hbB⟩))
  have HR:=Lib.hid hR
  have HM:=Lib.hid hM
  clear hR h hB hks hbB hM h1
  go_enter Tryz.func36,Tryz.ntmps36
  go_wp2_with fail
  go_loopw [3] (fun v wl=>∃ i:Nat,i≤n∧v=.int .i64 (i:Int)∧Hid (Below w.heap.size w wl)∧Hid (frm (l.take i) (l.drop i)=R)) (fun v _=>n - (intOf v).toNat)
  case atStart=>exact ⟨0,Nat.zero_le _,rfl,Below.refl _ _,HR.out.symm⟩
  case round =>
    obtain ⟨i,hi,rfl,HB,HP⟩:=hrel
    by_cases hlt:i<n
    · have hil:i<l.length:=by rw [HL.out];exact hlt
      obtain ⟨A1,nd,cd,hk⟩:=HK.out wr HB.out i hil
      have hp:=frm_step l i n HL.out hlt
      rw [HP.out] at hp
      have HXT:=Lib.hid (fun (W:World) (hb:Below w.heap.size w W)=>(show W.cell? ⟨b,o+i * 5,none⟩=some (.int .u64 ((l[i]'hil).typ:Int))∧W.cell? ⟨b,o+i * 5+1,none⟩=some (.int .u64 ((l[i]'hil).num:Int)) from by obtain ⟨_,_,_,hk⟩:=HK.out W hb i hil;exact ⟨hk.k0,hk.k1⟩))
      generalize l[i]=x at *
      have g0:=hk.k0
      have g1:=hk.k1
      have g2:=hk.k2
      have g3:=hk.k3
      have g4:=hk.k4
      have KB:=Lib.hid (fun W=>rcheckB_any x.typ x.num x.flg x.crc A1 nd cd x.dat W hk.rd.1)
      have eob:(⟨x.typ,x.num,x.flg,x.crc,x.dat⟩:Blk)=x:=rfl
      rw [eob] at KB
      unfold blkV at KB
      generalize blkOk x=o1 at *
      obtain ⟨R',hR'⟩:∃ R',R'=frm (l.take (i+1)) (l.drop (i+1)):=⟨_,rfl⟩
      rw [← hR'] at hp
      have HR':=Lib.hid hR'
      clear hR'
      have hii:(i:Int)<(n:Int):=by omega
      have hbi:((i:Int)==(M:Int))=decide (i+1=n):=by rw [Bool.eq_iff_iff];simp;have:=HM.out;omega
      have hbt:((x.typ:Int)==1)=decide (x.typ=1):=by rw [Bool.eq_iff_iff];simp;omega
      generalize decide (i+1=n)=bi at *
      generalize decide (x.typ=1)=bt at *
      have HPR:=Lib.hid hp
      have HLT:=Lib.hid hlt
      clear hp hk eob hil hlt
      cases o1 with
      | false =>
        obtain rfl:R=false:=by rw [HPR.out];rfl
        go_wp2_with fail
        refine (KB.out _).mono ?_
        rintro e w1 ⟨rfl,hb⟩
        have B1:=Lib.hid (HB.out.trans (hb.mono HB.out.size))
        clear hb g0 g1 g2 g3 g4
        go_wp2_with fail
        go_ret
        exact ⟨rfl,B1.out⟩
      | true =>
      go_wp2_with fail
      refine (KB.out _).mono ?_
      rintro e w1 ⟨rfl,hb⟩
      have B1:=Lib.hid (HB.out.trans (hb.mono HB.out.size))
      clear hb g0 g1 g2 g3 g4
      obtain ⟨g0,g1⟩:=HXT.out w1 B1.out
      cases bt <;> cases bi
      case false.true =>
        obtain rfl:R=false:=by rw [HPR.out];rfl
        go_wp2_with fail
        go_ret
        exact ⟨rfl,B1.out⟩
      case true.false =>
        obtain rfl:R=false:=by rw [HPR.out];rfl
        go_wp2_with fail
        go_ret
        exact ⟨rfl,B1.out⟩
      case false.false =>
        have HPQ:Hid (R=((!((l.take i).any (pNum x.num)))&&((!(singB x.typ&&(l.take i).any (pTyp x.typ)))&&R'))):=by show _=_;rw [HPR.out];rfl
        go_wp2_with fail
        clear g0 g1
        go_loopw [5] (fun v wl=>∃ k:Nat,k≤i∧v=.int .i64 (k:Int)∧Hid (Below w.heap.size w wl)∧Hid ((l.take k).any (pNum x.num)=false)∧Hid ((singB x.typ&&(l.take k).any (pTyp x.typ))=false)) (fun v _=>i - (intOf v).toNat)
        case atStart=>exact ⟨0,Nat.zero_le _,rfl,B1.out,by show _=_;simp,by show _=_;simp⟩
        case round =>
          obtain ⟨k,hk,rfl,HBk,HN,HT⟩:=hrel
          by_cases hlt:k<i
          · have hkl:k<l.length:=by rw [HL.out];have:=HLT.out;omega
            obtain ⟨A2,nd2,cd2,hk2⟩:=HK.out wr HBk.out k hkl
            obtain ⟨g0,g1⟩:=HXT.out wr HBk.out
            have y0:=hk2.k0
            have y1:=hk2.k1
            have hsN:=any_step l (pNum x.num) k hkl
            have hsT:=any_step l (pTyp x.typ) k hkl
            rw [HN.out,Bool.false_or] at hsN
            generalize l[k]=y at *
            have hkk:(k:Int)<(i:Int):=by omega
            have hkn:(k:Int)<(n:Int):=by have:=HLT.out;omega
            have HSN:=Lib.hid hsN
            have HST:=Lib.hid hsT
            have HKI:=Lib.hid hlt
            have HKT:Hid ((l.take k).any (pTyp x.typ)=true→singB x.typ=false):=fun hh=>by have:=HT.out;rw [hh,Bool.and_true] at this;exact this
            have hfin1:Hid ((l.take (k+1)).any (pNum x.num)=true→(l.take i).any (pNum x.num)=true):=fun hh=>by
              rw [List.any_eq_true] at hh ⊢
              obtain ⟨z,hz,hz2⟩:=hh
              exact ⟨z,(List.take_subset_take_left l (show k+1≤i by have:=HKI.out;omega)) hz,hz2⟩
            have hfin2:Hid ((l.take (k+1)).any (pTyp x.typ)=true→(l.take i).any (pTyp x.typ)=true):=fun hh=>by
              rw [List.any_eq_true] at hh ⊢
              obtain ⟨z,hz,hz2⟩:=hh
              exact ⟨z,(List.take_subset_take_left l (show k+1≤i by have:=HKI.out;omega)) hz,hz2⟩
            clear hsN hsT hk2 hkl hlt
            by_cases hnum:y.num=x.num
            · -- one number
              have en:((x.num:Int)==(y.num:Int))=true:=by simp [hnum]
              obtain rfl:R=false:=by
                rw [HPQ.out,hfin1.out (by rw [HSN.out];unfold pNum;simp [hnum])]
                rfl
              clear hnum
              by_cases q10:x.typ=10
              · have t10:((x.typ:Int)==10)=true:=by simp;omega
                clear HPQ HPR hfin1 hfin2 HT HKT
                go_wp2_with fail
                go_quiet (fail)
                go_wp2_with fail
                go_ret
                exact ⟨rfl,HBk.out.trans (drewN_below _)⟩
              have t10:((x.typ:Int)==10)=false:=by simp;omega
              by_cases q7:x.typ=7
              · have t7:((x.typ:Int)==7)=true:=by simp;omega
                clear HPQ HPR hfin1 hfin2 HT HKT
                go_wp2_with fail
                go_quiet (fail)
                go_wp2_with fail
                go_ret
                exact ⟨rfl,HBk.out.trans (drewN_below _)⟩
              have t7:((x.typ:Int)==7)=false:=by simp;omega
              by_cases q6:x.typ=6
              · have t6:((x.typ:Int)==6)=true:=by simp;omega
                clear HPQ HPR hfin1 hfin2 HT HKT
                go_wp2_with fail
                go_quiet (fail)
                go_wp2_with fail
                go_ret
                exact ⟨rfl,HBk.out.trans (drewN_below _)⟩
              have t6:((x.typ:Int)==6)=false:=by simp;omega
              clear HPQ HPR hfin1 hfin2 HT HKT
              go_wp2_with fail
              go_quiet (fail)
              go_wp2_with fail
              go_ret
              exact ⟨rfl,HBk.out.trans (drewN_below _)⟩
            · have en:((x.num:Int)==(y.num:Int))=false:=by simp;omega
              have HN2:Hid ((l.take (k+1)).any (pNum x.num)=false):=by show _=_;rw [HSN.out];unfold pNum;simpa using hnum
              clear hnum
              by_cases q10:x.typ=10
              · have t10:((x.typ:Int)==10)=true:=by simp;omega
                have hsg:singB x.typ=true:=by unfold singB;simp only [Bool.or_eq_true,decide_eq_true_eq];omega
                by_cases htyp:y.typ=x.typ
                · have et:((x.typ:Int)==(y.typ:Int))=true:=by simp [htyp]
                  obtain rfl:R=false:=by
                    rw [HPQ.out,hsg,hfin2.out (by rw [HST.out];unfold pTyp;simp [htyp])]
                    try simp
                  clear htyp hsg HPQ HPR hfin1 hfin2 HT HKT
                  go_wp2_with fail
                  go_quiet (fail)
                  go_wp2_with fail
                  go_ret
                  exact ⟨rfl,HBk.out.trans (drewN_below _)⟩
                · have et:((x.typ:Int)==(y.typ:Int))=false:=by simp;omega
                  have hno:(l.take k).any (pTyp x.typ)=false:=by
                    cases hh:(l.take k).any (pTyp x.typ) with
                    | false=>rfl
                    | true=>have:=HKT.out hh;rw [hsg] at this;cases this
                  have HT2':(l.take (k+1)).any (pTyp x.typ)=false:=by rw [HST.out,hno,Bool.false_or];unfold pTyp;simpa using htyp
                  have HT3:=Lib.hid HT2'
                  clear hno HT2' htyp hsg
                  have HT2:Hid ((singB x.typ&&(l.take (k+1)).any (pTyp x.typ))=false):=by show _=_;rw [HT3.out];simp
                  clear HPQ HPR hfin1 hfin2 HT HKT HST HSN
                  go_wp2_with fail
                  go_quiet (fail)
                  go_wp2_with fail
                  go_roundw
                  case rel=>exact ⟨k+1,by have:=HKI.out;omega,by go_num,HBk.out.trans (drewN_below _),HN2.out,HT2.out⟩
                  case measure=>simp [intOf];have:=HKI.out;omega
              have t10:((x.typ:Int)==10)=false:=by simp;omega
              by_cases q7:x.typ=7
              · have t7:((x.typ:Int)==7)=true:=by simp;omega
                have hsg:singB x.typ=true:=by unfold singB;simp only [Bool.or_eq_true,decide_eq_true_eq];omega
                by_cases htyp:y.typ=x.typ
                · have et:((x.typ:Int)==(y.typ:Int))=true:=by simp [htyp]
                  obtain rfl:R=false:=by
                    rw [HPQ.out,hsg,hfin2.out (by rw [HST.out];unfold pTyp;simp [htyp])]
                    try simp
                  clear htyp hsg HPQ HPR hfin1 hfin2 HT HKT
                  go_wp2_with fail
                  go_quiet (fail)
                  go_wp2_with fail
                  go_ret
                  exact ⟨rfl,HBk.out.trans (drewN_below _)⟩
                · have et:((x.typ:Int)==(y.typ:Int))=false:=by simp;omega
                  have hno:(l.take k).any (pTyp x.typ)=false:=by
                    cases hh:(l.take k).any (pTyp x.typ) with
                    | false=>rfl
                    | true=>have:=HKT.out hh;rw [hsg] at this;cases this
                  have HT2':(l.take (k+1)).any (pTyp x.typ)=false:=by rw [HST.out,hno,Bool.false_or];unfold pTyp;simpa using htyp
                  have HT3:=Lib.hid HT2'
                  clear hno HT2' htyp hsg
                  have HT2:Hid ((singB x.typ&&(l.take (k+1)).any (pTyp x.typ))=false):=by show _=_;rw [HT3.out];simp
                  clear HPQ HPR hfin1 hfin2 HT HKT HST HSN
                  go_wp2_with fail
                  go_quiet (fail)
                  go_wp2_with fail
                  go_roundw
                  case rel=>exact ⟨k+1,by have:=HKI.out;omega,by go_num,HBk.out.trans (drewN_below _),HN2.out,HT2.out⟩
                  case measure=>simp [intOf];have:=HKI.out;omega
              have t7:((x.typ:Int)==7)=false:=by simp;omega
              by_cases q6:x.typ=6
              · have t6:((x.typ:Int)==6)=true:=by simp;omega
                have hsg:singB x.typ=true:=by unfold singB;simp only [Bool.or_eq_true,decide_eq_true_eq];omega
                by_cases htyp:y.typ=x.typ
                · have et:((x.typ:Int)==(y.typ:Int))=true:=by simp [htyp]
                  obtain rfl:R=false:=by
                    rw [HPQ.out,hsg,hfin2.out (by rw [HST.out];unfold pTyp;simp [htyp])]
                    try simp
                  clear htyp hsg HPQ HPR hfin1 hfin2 HT HKT
                  go_wp2_with fail
                  go_quiet (fail)
                  go_wp2_with fail
                  go_ret
                  exact ⟨rfl,HBk.out.trans (drewN_below _)⟩
                · have et:((x.typ:Int)==(y.typ:Int))=false:=by simp;omega
                  have hno:(l.take k).any (pTyp x.typ)=false:=by
                    cases hh:(l.take k).any (pTyp x.typ) with
                    | false=>rfl
                    | true=>have:=HKT.out hh;rw [hsg] at this;cases this
                  have HT2':(l.take (k+1)).any (pTyp x.typ)=false:=by rw [HST.out,hno,Bool.false_or];unfold pTyp;simpa using htyp
                  have HT3:=Lib.hid HT2'
                  clear hno HT2' htyp hsg
                  have HT2:Hid ((singB x.typ&&(l.take (k+1)).any (pTyp x.typ))=false):=by show _=_;rw [HT3.out];simp
                  clear HPQ HPR hfin1 hfin2 HT HKT HST HSN
                  go_wp2_with fail
                  go_quiet (fail)
                  go_wp2_with fail
                  go_roundw
                  case rel=>exact ⟨k+1,by have:=HKI.out;omega,by go_num,HBk.out.trans (drewN_below _),HN2.out,HT2.out⟩
                  case measure=>simp [intOf];have:=HKI.out;omega
              have t6:((x.typ:Int)==6)=false:=by simp;omega
              have HT2:Hid ((singB x.typ&&(l.take (k+1)).any (pTyp x.typ))=false):=by show _=_;unfold singB;simp [q10,q7,q6]
              clear HPQ HPR hfin1 hfin2 HT HKT HST HSN
              go_wp2_with fail
              go_quiet (fail)
              go_wp2_with fail
              go_roundw
              case rel=>exact ⟨k+1,by have:=HKI.out;omega,by go_num,HBk.out.trans (drewN_below _),HN2.out,HT2.out⟩
              case measure=>simp [intOf];have:=HKI.out;omega
          · obtain rfl:k=i:=by omega
            have hkk:¬ (k:Int)<(k:Int):=by omega
            have HF:Hid (R'=R):=by show _=_;rw [HPQ.out,HN.out,HT.out];rfl
            have HF2:Hid (frm (l.take (k+1)) (l.drop (k+1))=R):=by show _=_;rw [← HR'.out];exact HF.out
            clear HPQ HPR HT HN
            go_wp2_with fail
            go_roundw
            case rel=>exact ⟨k+1,by have:=HLT.out;omega,by go_num,HBk.out,HF2.out⟩
            case measure=>simp [intOf];have:=HLT.out;omega
      case true.true =>
        have HPQ:Hid (R=((!((l.take i).any (pNum x.num)))&&((!(singB x.typ&&(l.take i).any (pTyp x.typ)))&&R'))):=by show _=_;rw [HPR.out];rfl
        go_wp2_with fail
        clear g0 g1
        go_loopw [5] (fun v wl=>∃ k:Nat,k≤i∧v=.int .i64 (k:Int)∧Hid (Below w.heap.size w wl)∧Hid ((l.take k).any (pNum x.num)=false)∧Hid ((singB x.typ&&(l.take k).any (pTyp x.typ))=false)) (fun v _=>i - (intOf v).toNat)
        case atStart=>exact ⟨0,Nat.zero_le _,rfl,B1.out,by show _=_;simp,by show _=_;simp⟩
        case round =>
          obtain ⟨k,hk,rfl,HBk,HN,HT⟩:=hrel
          by_cases hlt:k<i
          · have hkl:k<l.length:=by rw [HL.out];have:=HLT.out;omega
            obtain ⟨A2,nd2,cd2,hk2⟩:=HK.out wr HBk.out k hkl
            obtain ⟨g0,g1⟩:=HXT.out wr HBk.out
            have y0:=hk2.k0
            have y1:=hk2.k1
            have hsN:=any_step l (pNum x.num) k hkl
            have hsT:=any_step l (pTyp x.typ) k hkl
            rw [HN.out,Bool.false_or] at hsN
            generalize l[k]=y at *
            have hkk:(k:Int)<(i:Int):=by omega
            have hkn:(k:Int)<(n:Int):=by have:=HLT.out;omega
            have HSN:=Lib.hid hsN
            have HST:=Lib.hid hsT
            have HKI:=Lib.hid hlt
            have HKT:Hid ((l.take k).any (pTyp x.typ)=true→singB x.typ=false):=fun hh=>by have:=HT.out;rw [hh,Bool.and_true] at this;exact this
            have hfin1:Hid ((l.take (k+1)).any (pNum x.num)=true→(l.take i).any (pNum x.num)=true):=fun hh=>by
              rw [List.any_eq_true] at hh ⊢
              obtain ⟨z,hz,hz2⟩:=hh
              exact ⟨z,(List.take_subset_take_left l (show k+1≤i by have:=HKI.out;omega)) hz,hz2⟩
            have hfin2:Hid ((l.take (k+1)).any (pTyp x.typ)=true→(l.take i).any (pTyp x.typ)=true):=fun hh=>by
              rw [List.any_eq_true] at hh ⊢
              obtain ⟨z,hz,hz2⟩:=hh
              exact ⟨z,(List.take_subset_take_left l (show k+1≤i by have:=HKI.out;omega)) hz,hz2⟩
            clear hsN hsT hk2 hkl hlt
            by_cases hnum:y.num=x.num
            · -- one number
              have en:((x.num:Int)==(y.num:Int))=true:=by simp [hnum]
              obtain rfl:R=false:=by
                rw [HPQ.out,hfin1.out (by rw [HSN.out];unfold pNum;simp [hnum])]
                rfl
              clear hnum
              have q1:x.typ=1:=by have:=hbt;simp at this;omega
              have q10:¬ x.typ=10:=by omega
              have t10:((x.typ:Int)==10)=false:=by simp;omega
              have q7:¬ x.typ=7:=by omega
              have t7:((x.typ:Int)==7)=false:=by simp;omega
              have q6:¬ x.typ=6:=by omega
              have t6:((x.typ:Int)==6)=false:=by simp;omega
              clear HPQ HPR hfin1 hfin2 HT HKT
              go_wp2_with fail
              go_quiet (fail)
              go_wp2_with fail
              go_ret
              exact ⟨rfl,HBk.out.trans (drewN_below _)⟩
            · have en:((x.num:Int)==(y.num:Int))=false:=by simp;omega
              have HN2:Hid ((l.take (k+1)).any (pNum x.num)=false):=by show _=_;rw [HSN.out];unfold pNum;simpa using hnum
              clear hnum
              have q1:x.typ=1:=by have:=hbt;simp at this;omega
              have q10:¬ x.typ=10:=by omega
              have t10:((x.typ:Int)==10)=false:=by simp;omega
              have q7:¬ x.typ=7:=by omega
              have t7:((x.typ:Int)==7)=false:=by simp;omega
              have q6:¬ x.typ=6:=by omega
              have t6:((x.typ:Int)==6)=false:=by simp;omega
              have HT2:Hid ((singB x.typ&&(l.take (k+1)).any (pTyp x.typ))=false):=by show _=_;unfold singB;simp [q10,q7,q6]
              clear HPQ HPR hfin1 hfin2 HT HKT HST HSN
              go_wp2_with fail
              go_quiet (fail)
              go_wp2_with fail
              go_roundw
              case rel=>exact ⟨k+1,by have:=HKI.out;omega,by go_num,HBk.out.trans (drewN_below _),HN2.out,HT2.out⟩
              case measure=>simp [intOf];have:=HKI.out;omega
          · obtain rfl:k=i:=by omega
            have hkk:¬ (k:Int)<(k:Int):=by omega
            have HF:Hid (R'=R):=by show _=_;rw [HPQ.out,HN.out,HT.out];rfl
            have HF2:Hid (frm (l.take (k+1)) (l.drop (k+1))=R):=by show _=_;rw [← HR'.out];exact HF.out
            clear HPQ HPR HT HN
            go_wp2_with fail
            go_roundw
            case rel=>exact ⟨k+1,by have:=HLT.out;omega,by go_num,HBk.out,HF2.out⟩
            case measure=>simp [intOf];have:=HLT.out;omega
    · obtain rfl:i=n:=by omega
      have hii:¬ (i:Int)<(i:Int):=by omega
      have hp:=HP.out
      rw [List.drop_of_length_le (by rw [HL.out];exact Nat.le_refl _),frm] at hp
      subst hp
      go_wp2_with fail
      go_ret
      exact ⟨rfl,HB.out⟩
end Go.Proofs.YtldnokgdgafphaaGreatDoor
