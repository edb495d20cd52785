import Derived.Test.YtlecbblmaadpiaaGreatDoorKBlkF
import Derived.Test.YtlecbblmaadpiaaGreatDoorKBlkF2
import Derived.Test.YtlecbblmaadpiaaGreatDoorKBunA
import Derived.Test.YtlecbblmaadpiaaGreatDoorKBunM
import Derived.Test.YtlecbblmaadpiaaGreatDoorKEidR
import Derived.Test.YtlecbblmaadpiaaGreatDoorKKDecL
import Derived.Test.YtlecbblmaadpiaaGreatDoorKNumE
import Derived.BigQuiet
import Derived.Deep.QuietTactic
import Derived.Deep.RegionHeld3
namespace Go.Proofs.YtlecbblmaadpiaaGreatDoor
set_option maxRecDepth 100000
set_option maxHeartbeats 16000000
open Go.RowKit
open Go.Lib (hid)
def WhyN (z:Int) (w:World) (e:Ending) (w':World):Prop:=Below w.heap.size w w'∧((z=0∧e=.returned .nilIface)∨(z≠0∧∃ s,e=.returned (bfl z s)))
theorem below_qN (B:Nat) (w:World) (k:Nat):Below B w (w.drewN k):=⟨rfl,rfl,rfl,Nat.le_refl _,fun _ _=>rfl⟩
theorem compare_any (A A':Option Addr) (n c n' c' B s:Nat) (u v:List UInt8) (w:World) (h:Rd w B A n u) (hc:n≤c) (h':Rd w B A' n' v) (hc':n'≤c') (hs:s≤n') (hn:n≤140737488355328) (hn':n'≤140737488355328) :
  Calls Tryz.prog 127 #[.slice A n c,.slice A' n' c',.int .i64 (s:Int)] w (WhyN (cmpB u v s) w):=by
 have hl:=h.1
 have hl':=h'.1
 by_cases e1:n=n'
 ·
  subst e1
  obtain ⟨M,hM⟩:∃ M,M=n - s:=⟨_,rfl⟩
  have hMn:M≤n:=by omega
  obtain ⟨D1,d1,k1,-,-,r1⟩:=cut_h (P:=Tryz.prog) 27 5 Tryz.underlying27 size_u8 c h ((n:Int) - (s:Int)) M (by omega) hMn hc
  obtain ⟨D2,d2,k2,-,-,r2⟩:=cut_h (P:=Tryz.prog) 27 5 Tryz.underlying27 size_u8 c' h' ((n:Int) - (s:Int)) M (by omega) hMn hc'
  obtain ⟨D3,d3,k3,-,-,r3⟩:=cut_l (P:=Tryz.prog) 27 5 Tryz.underlying27 size_u8 c h ((n:Int) - (s:Int)) M (by omega) hMn hc
  obtain ⟨D4,d4,k4,-,-,r4⟩:=cut_l (P:=Tryz.prog) 27 5 Tryz.underlying27 size_u8 c' h' ((n:Int) - (s:Int)) M (by omega) hMn hc'
  have C1:=hid (fun W k (hb:Below B w W)=>Calls.quiet_of_same (n:=k) ((bequal_any D1 D2 M d1 M d2 B _ _ (W.drewN k) (r1.below (hb.trans (below_qN B W k))) (r2.below (hb.trans (below_qN B W k)))).mono (fun _ _ h=>⟨h.1,h.2.symm⟩)))
  have C2:=hid (fun W k (hb:Below B w W)=>Calls.quiet_of_same (n:=k) ((bequal_any D3 D4 (n - M) d3 (n - M) d4 B _ _ (W.drewN k) (r3.below (hb.trans (below_qN B W k))) (r4.below (hb.trans (below_qN B W k)))).mono (fun _ _ h=>⟨h.1,h.2.symm⟩)))
  have hcmp:cmpB u v s=if (u.take M==v.take M)=false then 50 else if (u.drop M==v.drop M)=false then 51 else 0:=by
   unfold cmpB
   rw [hl',← hM]
   by_cases q1:u.take M=v.take M
   ·
    rw [if_neg (by simp [hl,q1])]
    by_cases q2:u.drop M=v.drop M
    ·
     rw [if_neg (by simp [q2]),if_neg (by simp [q1]),if_neg (by simp [q2])]
    ·
     rw [if_pos q2,if_neg (by simp [q1]),if_pos (by simpa using q2)]
   ·
    rw [if_pos (.inr q1),if_pos (by simpa using q1)]
  rw [hcmp]
  generalize (u.take M==v.take M)=b1 at *
  generalize (u.drop M==v.drop M)=b2 at *
  have HB:=hid (below_qN w.heap.size w)
  clear hcmp r1 r2 r3 r4 h h' hl hl' hc hc' hM
  cases b1 with
  | false =>
   rw [if_pos rfl]
   have Q1:=hid (fun k=>C1.out w k (Below.refl _ _))
   go_enter Tryz.func127,Tryz.ntmps127
   go_wp2_with fail
   go_quiet (first|(go_at_call 158;exact Q1.out _)|fail)
   go_wp2_with fail
   go_ret
   exact ⟨HB.out _,.inr ⟨by decide,_,rfl⟩⟩
  | true =>
   rw [if_neg (by decide)]
   have Q1:=hid (fun k=>C1.out w k (Below.refl _ _))
   have Q2:=hid (fun W (hb:Below B w W) k=>C2.out W k hb)
   have HQ:=hid (below_qN B w)
   clear C1 C2
   cases b2 with
   | false =>
    rw [if_pos rfl]
    go_enter Tryz.func127,Tryz.ntmps127
    go_wp2_with fail
    go_quiet (first|(go_at_call 158;exact Q1.out _)|fail)
    go_wp2_with fail
    have Q3:=hid (Q2.out _ (HQ.out nq))
    have HB1:=hid (HB.out nq)
    generalize w.drewN nq=W1 at *
    go_quiet (first|(go_at_call 158;exact Q3.out _)|fail)
    go_wp2_with fail
    go_ret
    exact ⟨HB1.out.trans (below_qN _ _ _),.inr ⟨by decide,_,rfl⟩⟩
   | true =>
    rw [if_neg (by decide)]
    go_enter Tryz.func127,Tryz.ntmps127
    go_wp2_with fail
    go_quiet (first|(go_at_call 158;exact Q1.out _)|fail)
    go_wp2_with fail
    have Q3:=hid (Q2.out _ (HQ.out nq))
    have HB1:=hid (HB.out nq)
    generalize w.drewN nq=W1 at *
    go_quiet (first|(go_at_call 158;exact Q3.out _)|fail)
    go_wp2_with fail
    go_ret
    exact ⟨HB1.out.trans (below_qN _ _ _),.inl ⟨rfl,rfl⟩⟩
 ·
  have hcmp:cmpB u v s=50:=by unfold cmpB;rw [if_pos (.inl (by rw [hl,hl'];exact e1))]
  rw [hcmp]
  have hne:((n:Int)==(n':Int))=false:=by rw [beq_eq_false_iff_ne];omega
  have hne2:¬ (n:Int)=(n':Int):=by omega
  have HB:=hid (below_qN w.heap.size w)
  clear hcmp h h' hl hl'
  generalize (n' - s:Nat)=M at *
  go_enter Tryz.func127,Tryz.ntmps127
  go_wp2_with fail
  go_quiet (fail)
  go_wp2_with fail
  go_ret
  exact ⟨HB.out _,.inr ⟨by decide,_,rfl⟩⟩
theorem Rd.off5 {W:World} {g n B:Nat} {t:TypeId} {A:Option Addr} {l:List UInt8} (hW:W.heap[g]?=some (.cells #[.int .u64 0,.int .u64 0,.int .u64 0,.int .i64 0,.slice none 0 0] t)) (h:Rd W B A n l):0<n→∀ b o,A=some ⟨b,o,none⟩→¬ g=b:=by
 intro hn b o hA e
 obtain ⟨b',o',e',_,hc⟩:=h.2 hn
 rw [hA] at e'
 cases e'
 subst e
 have h0:=hc 0 hn
 rw [Nat.add_zero] at h0
 unfold World.cell? at h0
 simp only [hW] at h0
 match o,h0 with
 | 0,h=>simp at h
 | 1,h=>simp at h
 | 2,h=>simp at h
 | 3,h=>simp at h
 | 4,h=>simp at h
 | _+5,h=>simp at h
theorem Rd.put5 {W:World} {B B' n g:Nat} {A:Option Addr} {l:List UInt8} {u0 u1 u2 u3 u4:Value} (h:Rd W B A n l) (hB:B≤B') (hA:0<n→∀ b o,A=some ⟨b,o,none⟩→¬ g=b) :
  Rd (((((W.setCell ⟨g,0,none⟩ u0).setCell ⟨g,1,none⟩ u1).setCell ⟨g,2,none⟩ u2).setCell ⟨g,3,none⟩ u3).setCell ⟨g,4,none⟩ u4) B' A n l :=
 ⟨h.1,fun hn=>by
  obtain ⟨b,o,e,hb,hc⟩:=h.2 hn
  exact ⟨b,o,e,by omega,fun i hi=>put5_cell (hc i hi) (hA hn b o e)⟩⟩
theorem compare_ok (A A':Option Addr) (n c n' c' s:Nat) (u v:List UInt8) (w:World) (h:Rd w w.heap.size A n u) (hc:n≤c) (h':Rd w w.heap.size A' n' v) (hc':n'≤c') (hs:s≤n') (hn:n≤140737488355328) (hn':n'≤140737488355328) (hz:cmpB u v s=0) :
  Calls Tryz.prog 127 #[.slice A n c,.slice A' n' c',.int .i64 (s:Int)] w fun e w'=>e=.returned .nilIface∧Below w.heap.size w w' :=
 (compare_any A A' n c n' c' w.heap.size s u v w h hc h' hc' hs hn hn').mono fun e w' hh=>by
  rw [hz] at hh
  rcases hh.2 with ⟨-,h2⟩|⟨h2,-⟩
  ·
   exact ⟨h2,hh.1⟩
  ·
   exact absurd rfl h2
theorem compare_no (A A':Option Addr) (n c n' c' s:Nat) (u v:List UInt8) (w:World) (h:Rd w w.heap.size A n u) (hc:n≤c) (h':Rd w w.heap.size A' n' v) (hc':n'≤c') (hs:s≤n') (hn:n≤140737488355328) (hn':n'≤140737488355328) (hz:cmpB u v s≠0) :
  Calls Tryz.prog 127 #[.slice A n c,.slice A' n' c',.int .i64 (s:Int)] w fun e w'=>∃ q,e=.returned (bfl (cmpB u v s) q)∧Below w.heap.size w w' :=
 (compare_any A A' n c n' c' w.heap.size s u v w h hc h' hc' hs hn hn').mono fun e w' hh=>by
  rcases hh.2 with ⟨h2,-⟩|⟨-,q,h2⟩
  ·
   exact absurd h2 hz
  ·
   exact ⟨q,h2,hh.1⟩
theorem decB_err {l:List UInt8} {z:Int} (h:decode l=(.zero,0,z)) (hz:z≠0):decB l=(.zero,0,z):=by
 unfold decB;rw [h];rw [if_pos hz]
theorem decB_not {l:List UInt8} {x:Itm} {n:Int} (h:decode l=(x,n,0)) (hz:blkOk (takenB x)=false):decB l=(.zero,0,50):=by
 unfold decB;rw [h];rw [if_neg (by simp),if_pos hz]
theorem decB_cmp {l:List UInt8} {x:Itm} {n:Nat} (h:decode l=(x,(n:Int),0)) (hz:blkOk (takenB x)=true) :
  decB l=if cmpB (l.take n) (blkW (takenB x)) (sumN (takenB x).crc)≠0 then (.zero,0,cmpB (l.take n) (blkW (takenB x)) (sumN (takenB x).crc)) else (takenB x,(n:Int),0):=by
 unfold decB;rw [h];simp only [Int.toNat_natCast];rw [if_neg (by simp),if_neg (by rw [hz];decide)]
def Eqs (x y:Itm) (w:World) (e:Ending) (w':World):Prop:=∃ r:Bool,e=.returned (.bool r)∧(r=true↔x=y)∧Below w.heap.size w w'
theorem csame_n:∀ (m:Nat) (x y:Itm) (v v':Value) (w:World) (B:Nat),par y<m→B≤w.heap.size→RdI w B v x→RdI w B v' y →
  Calls Tryz.prog 124 #[v,v'] w (Eqs x y w)
 | 0,_,_,_,_,_,_,h,_,_,_=>absurd h (Nat.not_lt_zero _)
 | m+1,.mk k n d l,.mk k' n' d' l',v,v',w,B,hm,hB,h,h'=>by
  obtain ⟨A,nd,cd,AL,cl,rfl,h1,h2,h3,h4,h5,h7⟩:=h.open
  obtain ⟨A',nd',cd',AL',cl',rfl,h1',h2',h3',h4',h5',h7'⟩:=h'.open
  have IH:=hid (csame_n m)
  have H7:=hid h7
  have H7':=hid h7'
  have C1:=hid (fun W (hb:Below w.heap.size w W)=>bequal_any A A' nd cd nd' cd' B d d' W (h4.below (hb.mono hB)) (h4'.below (hb.mono hB)))
  have HM:Hid (pars l'<m):=by show _<_;rw [par] at hm;omega
  have HBW:=hid hB
  have XY:Hid (Itm.mk k n d l=Itm.mk k' n' d' l'↔k=k'∧(n:Int)=(n':Int)∧d=d'∧l=l'):=by
   show _↔_
   rw [Itm.mk.injEq]
   constructor
   ·
    rintro ⟨a,b,c,e⟩;exact ⟨a,by rw [b],c,e⟩
   ·
    rintro ⟨a,b,c,e⟩;exact ⟨a,by omega,c,e⟩
  have HL5:=hid h5.2
  clear h1 h4 h7 h h1' h4' h7' h' h2' h2 h3 h3' h5 h5' hm hB
  generalize hL:l.length=N at *
  generalize hL':l'.length=N' at *
  have HL:=hid hL
  have HL':=hid hL'
  clear hL hL'
  generalize (n:Int)=nn at *
  generalize (n':Int)=nn' at *
  have HB0:=hid (((Below.refl w.heap.size w).alloc nlr (.cells #[.int .i64 k,.int .u64 nn,.slice A nd cd,.slice AL N cl] 30)).alloc (le_alloc _ _) (.cells #[.int .i64 k',.int .u64 nn',.slice A' nd' cd',.slice AL' N' cl'] 30))
  by_cases e1:k=k'
  case neg =>
   have HF:Hid (∀ w',Below w.heap.size w w'→Eqs (.mk k n d l) (.mk k' n' d' l') w (.returned (.bool false)) w'):=fun w' hb=>⟨false,rfl,by rw [XY.out];simp [e1],hb⟩
   clear IH H7 H7' C1
   go_enter Tryz.func124,Tryz.ntmps124
   go_wp2_with fail
   go_ret
   exact HF.out _ HB0.out
  subst e1
  by_cases e2:nn=nn'
  case neg =>
   have HF:Hid (∀ w',Below w.heap.size w w'→Eqs (.mk k n d l) (.mk k n' d' l') w (.returned (.bool false)) w'):=fun w' hb=>⟨false,rfl,by rw [XY.out];simp [e2],hb⟩
   clear IH H7 H7' C1
   go_enter Tryz.func124,Tryz.ntmps124
   go_wp2_with fail
   go_ret
   exact HF.out _ HB0.out
  subst e2
  by_cases e3:d=d'
  case neg =>
   have HF:Hid (∀ w',Below w.heap.size w w'→Eqs (.mk k n d l) (.mk k n' d' l') w (.returned (.bool false)) w'):=fun w' hb=>⟨false,rfl,by rw [XY.out];simp [e3],hb⟩
   have e3':(d==d')=false:=beq_eq_false_iff_ne.2 e3
   rw [e3'] at C1
   clear IH H7 H7' e3'
   go_enter Tryz.func124,Tryz.ntmps124
   go_wp2_with fail
   refine (C1.out _ HB0.out).mono ?_
   rintro e w1 ⟨rfl,rfl⟩
   go_wp2_with fail
   go_ret
   exact HF.out _ HB0.out
  subst e3
  rw [show (d==d)=true by simp] at C1
  by_cases e4:N=N'
  case neg =>
   have HF:Hid (∀ w',Below w.heap.size w w'→Eqs (.mk k n d l) (.mk k n' d l') w (.returned (.bool false)) w'):=fun w' hb=>⟨false,rfl,by rw [XY.out];simp;intro h;exact e4 (by rw [← HL.out,← HL'.out,h]),hb⟩
   have e4i:((N:Int)==(N':Int))=false:=by rw [beq_eq_false_iff_ne];omega
   clear IH H7 H7' e4
   go_enter Tryz.func124,Tryz.ntmps124
   go_wp2_with fail
   refine (C1.out _ HB0.out).mono ?_
   rintro e w1 ⟨rfl,rfl⟩
   go_wp2_with fail
   go_ret
   exact HF.out _ HB0.out
  subst e4
  have HT:Hid (∀ (r:Bool) w',(r=true↔l=l')→Below w.heap.size w w'→Eqs (.mk k n d l) (.mk k n' d l') w (.returned (.bool r)) w'):=fun r w' hr hb=>⟨r,rfl,by rw [XY.out,hr];simp,hb⟩
  clear XY
  go_enter Tryz.func124,Tryz.ntmps124
  go_wp2_with fail
  refine (C1.out _ HB0.out).mono ?_
  rintro e w1 ⟨rfl,rfl⟩
  clear C1
  go_wp2_with fail
  have f1:((w.alloc (.cells #[.int .i64 k,.int .u64 nn,.slice A nd cd,.slice AL N cl] 30)).alloc (.cells #[.int .i64 k,.int .u64 nn,.slice A' nd' cd',.slice AL' N cl'] 30)).cell? ⟨w.heap.size,3,none⟩=some (.slice AL N cl):=by simp
  have f2:((w.alloc (.cells #[.int .i64 k,.int .u64 nn,.slice A nd cd,.slice AL N cl] 30)).alloc (.cells #[.int .i64 k,.int .u64 nn,.slice A' nd' cd',.slice AL' N cl'] 30)).cell? ⟨w.heap.size+1,3,none⟩=some (.slice AL' N cl'):=by simp
  have fz:((w.alloc (.cells #[.int .i64 k,.int .u64 nn,.slice A nd cd,.slice AL N cl] 30)).alloc (.cells #[.int .i64 k,.int .u64 nn,.slice A' nd' cd',.slice AL' N cl'] 30)).heap.size=w.heap.size+2:=by simp
  have F1:=hid f1
  have F2:=hid f2
  have FZ:=hid fz
  clear f1 f2 fz
  generalize ((w.alloc (.cells #[.int .i64 k,.int .u64 nn,.slice A nd cd,.slice AL N cl] 30)).alloc (.cells #[.int .i64 k,.int .u64 nn,.slice A' nd' cd',.slice AL' N cl'] 30))=W0 at *
  go_loopw [38] (fun i wr=>∃ j:Nat,j≤N∧i=.int .i64 j∧Hid (Below (w.heap.size+2) W0 wr)∧Hid (l.take j=l'.take j))
   (fun i _=>N - (intOf i).toNat)
  case atStart=>exact ⟨0,Nat.zero_le _,rfl,Below.refl _ _,by show _=_;simp⟩
  case round =>
   obtain ⟨j,hj,rfl,hbel,htake⟩:=hrel
   have q1:wr.cell? ⟨w.heap.size,3,none⟩=some (.slice AL N cl):=(hbel.out.cell (p:=⟨w.heap.size,3,none⟩) (by simp)).trans F1.out
   have q2:wr.cell? ⟨w.heap.size+1,3,none⟩=some (.slice AL' N cl'):=(hbel.out.cell (p:=⟨w.heap.size+1,3,none⟩) (by simp)).trans F2.out
   have hsz:w.heap.size+2≤wr.heap.size:=by have:=hbel.out.size;have:=FZ.out;omega
   have hs':Below w.heap.size w wr:=HB0.out.trans (hbel.out.mono (by omega))
   have HS:=hid hs'
   by_cases hlt:j<N
   ·
    obtain ⟨b,o,rfl,hb,hs⟩:=H7.out (by omega)
    obtain ⟨b',o',rfl,hb',hs2⟩:=H7'.out (by omega)
    have hjl:j<l.length:=by rw [HL.out];exact hlt
    have hjl':j<l'.length:=by rw [HL'.out];exact hlt
    obtain ⟨c0,c1,c2,c3,g0,g1,g2,g3,gx⟩:=hs.get j hjl
    obtain ⟨x0,x1,x2,x3,p0,p1,p2,p3,px⟩:=hs2.get j hjl'
    have hB:=HBW.out
    have e0:wr.cell? ⟨b,o+j*4,none⟩=some c0:=(hs'.cell (p:=⟨b,o+j*4,none⟩) (by show b<_;omega)).trans g0
    have e1:wr.cell? ⟨b,o+j*4+1,none⟩=some c1:=(hs'.cell (p:=⟨b,o+j*4+1,none⟩) (by show b<_;omega)).trans g1
    have e2:wr.cell? ⟨b,o+j*4+2,none⟩=some c2:=(hs'.cell (p:=⟨b,o+j*4+2,none⟩) (by show b<_;omega)).trans g2
    have e3:wr.cell? ⟨b,o+j*4+3,none⟩=some c3:=(hs'.cell (p:=⟨b,o+j*4+3,none⟩) (by show b<_;omega)).trans g3
    have r0:wr.cell? ⟨b',o'+j*4,none⟩=some x0:=(hs'.cell (p:=⟨b',o'+j*4,none⟩) (by show b'<_;omega)).trans p0
    have r1:wr.cell? ⟨b',o'+j*4+1,none⟩=some x1:=(hs'.cell (p:=⟨b',o'+j*4+1,none⟩) (by show b'<_;omega)).trans p1
    have r2:wr.cell? ⟨b',o'+j*4+2,none⟩=some x2:=(hs'.cell (p:=⟨b',o'+j*4+2,none⟩) (by show b'<_;omega)).trans p2
    have r3:wr.cell? ⟨b',o'+j*4+3,none⟩=some x3:=(hs'.cell (p:=⟨b',o'+j*4+3,none⟩) (by show b'<_;omega)).trans p3
    have hpg:par (l'[j]'hjl')≤pars l':=par_get _
    have hmm:=HM.out
    have C1:=hid (IH.out (l[j]'hjl) (l'[j]'hjl') _ _ wr.drew B (by omega) (by show B≤wr.heap.size;omega) ((gx.below (hs'.mono hB)).below Below.drew_) ((px.below (hs'.mono hB)).below Below.drew_))
    have HE1:Hid (l[j]'hjl=l'[j]'hjl'→l.take (j+1)=l'.take (j+1)):=fun he=>by rw [List.take_succ_eq_append_getElem hjl,List.take_succ_eq_append_getElem hjl',htake.out,he]
    have HE2:Hid (l[j]'hjl≠l'[j]'hjl'→l≠l'):=fun he h=>he (by subst h;rfl)
    generalize l[j]'hjl=xj at *
    generalize l'[j]'hjl'=yj at *
    clear g0 g1 g2 g3 gx hs hs' p0 p1 p2 p3 px hs2 hpg hmm hjl hjl'
    have i0:(0:Int)≤(j:Int):=by omega
    have i1:(j:Int)<(N:Int):=by omega
    have i2:(N:Int)≤140737488355328:=by have:=HL5.out;omega
    have HHB:=hid hB
    have HZ:=hid hsz
    have HBb:=hid hb
    have HBb':=hid hb'
    clear hB hsz hb hb'
    go_wp2_with fail
    go_region_held3 (fun W=>W.cell? ⟨w.heap.size,3,none⟩=some (.slice (some ⟨b,o,none⟩) N cl)∧W.cell? ⟨w.heap.size+1,3,none⟩=some (.slice (some ⟨b',o',none⟩) N cl') ∧
      W.cell? ⟨b,o+j*4,none⟩=some c0∧W.cell? ⟨b,o+j*4+1,none⟩=some c1∧W.cell? ⟨b,o+j*4+2,none⟩=some c2∧W.cell? ⟨b,o+j*4+3,none⟩=some c3 ∧
      W.cell? ⟨b',o'+j*4,none⟩=some x0∧W.cell? ⟨b',o'+j*4+1,none⟩=some x1∧W.cell? ⟨b',o'+j*4+2,none⟩=some x2∧W.cell? ⟨b',o'+j*4+3,none⟩=some x3)
     (first|(exact ⟨q1,q2,e0,e1,e2,e3,r0,r1,r2,r3⟩)|(exact ⟨(HB1.out.cell (p:=⟨w.heap.size,3,none⟩) (by have:=HZ.out;show w.heap.size<_;omega)).trans q1,(HB1.out.cell (p:=⟨w.heap.size+1,3,none⟩) (by have:=HZ.out;show w.heap.size+1<_;omega)).trans q2,
       (HB1.out.cell (p:=⟨b,o+j*4,none⟩) HLb.out).trans e0,(HB1.out.cell (p:=⟨b,o+j*4+1,none⟩) HLb.out).trans e1,(HB1.out.cell (p:=⟨b,o+j*4+2,none⟩) HLb.out).trans e2,(HB1.out.cell (p:=⟨b,o+j*4+3,none⟩) HLb.out).trans e3,
       (HB1.out.cell (p:=⟨b',o'+j*4,none⟩) HLb'.out).trans r0,(HB1.out.cell (p:=⟨b',o'+j*4+1,none⟩) HLb'.out).trans r1,(HB1.out.cell (p:=⟨b',o'+j*4+2,none⟩) HLb'.out).trans r2,(HB1.out.cell (p:=⟨b',o'+j*4+3,none⟩) HLb'.out).trans r3⟩)|fail)
     (first
      | (go_at_call 124;refine C1.out.mono ?_;rintro e w1 ⟨rr,rfl,hrr,hb1⟩;have HRR:=hid hrr;have HB1:=hid (((Below.refl wr.heap.size wr).drew).trans hb1);have HLb:Hid (b<wr.heap.size):=Nat.lt_of_lt_of_le HBb.out (Nat.le_trans HHB.out (Nat.le_trans (Nat.le_add_right _ 2) HZ.out));have HLb':Hid (b'<wr.heap.size):=Nat.lt_of_lt_of_le HBb'.out (Nat.le_trans HHB.out (Nat.le_trans (Nat.le_add_right _ 2) HZ.out));clear hb1 hrr)
      | fail)
    cases rr with
    | true =>
     have HEQ:Hid (l.take (j+1)=l'.take (j+1)):=HE1.out (HRR.out.1 rfl)
     go_wp2_with fail
     go_roundw
     case rel=>exact ⟨j+1,by omega,by go_num,hbel.out.trans (HB1.out.mono HZ.out),HEQ.out⟩
     case measure=>simp [intOf];omega
    | false =>
     have HNE:Hid (l≠l'):=HE2.out (fun h=>by have:=HRR.out.2 h;cases this)
     go_wp2_with fail
     go_ret
     exact HT.out _ _ (by simp;exact HNE.out) (HS.out.trans (HB1.out.mono HS.out.size))
   ·
    obtain rfl:j=N:=by omega
    have HEQ:Hid (l=l'):=by
     have h:=htake.out
     rw [List.take_of_length_le (Nat.le_of_eq HL.out),List.take_of_length_le (Nat.le_of_eq HL'.out)] at h
     exact h
    clear hs'
    have hjj:decide ((j:Int)<(j:Int))=false:=by simp
    go_wp2_with fail
    go_ret
    exact HT.out _ _ (by simp;exact HEQ.out) HS.out
def Red (A:Snt) (x:Itm) (w:World) (e:Ending) (w':World):Prop:=Below w.heap.size w w' ∧
 ((∃ (sc:Int) (s:ByteArray) (n v:Nat),e=.returned (.tuple #[epdV sc s n v,.nilIface])∧s.size≤140737488355328∧n<18446744073709551616∧v<18446744073709551616∧checkB (ep sc s n v)=true∧itemE (ep sc s n v)=x) ∨
  ((∀ e0,checkB e0=true→itemE e0≠x)∧∃ (a:Addr) (j:Nat) (E:Value),Ch A j E a∧j≤2∧e=.returned (.tuple #[epdV 0 ⟨#[]⟩ 0 0,E])))
theorem read_any (A:Snt) (x:Itm) (v0:Value) (B:Nat) (w:World) (hA:Lds A w) (hB:B≤w.heap.size) (h:RdI w B v0 x) :
  Calls Tryz.prog 75 #[v0] w (Red A x w):=by
 obtain ⟨k,m,D,nd,cd,AL,nl,cl,rfl⟩:=h.form
 have HB0:Hid (Below w.heap.size w ((w.alloc (.cells #[.int .i64 k,.int .u64 (m:Int),.slice D nd cd,.slice AL nl cl] 30)).alloc (.cells #[.int .i64 0,.string ⟨#[]⟩,.int .u64 0,.int .u64 0] 25))):=((Below.refl _ _).alloc nlr _).alloc (le_alloc _ _) _
 have HA1:=hid ((hA.alloc (.cells #[.int .i64 k,.int .u64 (m:Int),.slice D nd cd,.slice AL nl cl] 30)).alloc (.cells #[.int .i64 0,.string ⟨#[]⟩,.int .u64 0,.int .u64 0] 25))
 have hs1:((w.alloc (.cells #[.int .i64 k,.int .u64 (m:Int),.slice D nd cd,.slice AL nl cl] 30)).alloc (.cells #[.int .i64 0,.string ⟨#[]⟩,.int .u64 0,.int .u64 0] 25)).heap.size=w.heap.size+2:=by simp
 have C1:=hid (taken_any x _ B ((w.alloc (.cells #[.int .i64 k,.int .u64 (m:Int),.slice D nd cd,.slice AL nl cl] 30)).alloc (.cells #[.int .i64 0,.string ⟨#[]⟩,.int .u64 0,.int .u64 0] 25)) (by rw [hs1];omega) (h.below (HB0.out.mono hB)))
 have HX:=hid h
 have HBW:=hid hB
 have q1:=fun (W:World) (u:TypeId) (x:Value)=>run_neq_iface_nil (P:=Tryz.prog) (w:=W) 95 (by kernel_rfl) u x
 have q2:=fun (W:World) (u:TypeId) (x:Value)=>run_eql_iface_nil (P:=Tryz.prog) (w:=W) 95 (by kernel_rfl) u x
 clear h hA hB hs1
 go_enter Tryz.func75,Tryz.ntmps75
 go_wp2_with fail
 refine C1.out.mono ?_
 rintro e w1 ⟨hb,sc,s,n,v,rfl,h1,h2,h3,h4⟩
 have hb12:=hb.mono (show w.heap.size+2≤_ by simp)
 have HZ1:Hid (w.heap.size+2≤w1.heap.size):=by show _≤_;have h:=hb.size;simpa using h
 have HL1:=hid (HA1.out.below hb nlr)
 have HH:=hid h4
 have HBD:=hid (And.intro h1 (And.intro h2 h3))
 have HL2:=hid (HL1.out.alloc (.cells #[.int .i64 sc,.string s,.int .u64 (n:Int),.int .u64 (v:Int)] 25))
 have C2:=hid (written_any A sc s n v _ HL2.out h1 h2 h3)
 have HB1:=hid hb12
 have hs2:(w1.alloc (.cells #[.int .i64 sc,.string s,.int .u64 (n:Int),.int .u64 (v:Int)] 25)).heap.size=w1.heap.size+1:=by simp
 clear hb hb12 h1 h2 h3 h4 C1
 unfold epdV at *
 go_wp2_with fail
 refine C2.out.mono ?_
 rintro e w2 ⟨hb,hcase⟩
 have HZ2:Hid (w1.heap.size+1≤w2.heap.size):=by show _≤_;have h:=hb.size;rw [hs2] at h;exact h
 have HL3:=hid (HL2.out.below hb nlr)
 have pe:=box_cells4 hb
 have HB2:=hid (HB1.out.trans ((((Below.refl w1.heap.size w1).alloc nlr (.cells #[.int .i64 sc,.string s,.int .u64 (n:Int),.int .u64 (v:Int)] 25)).mono HZ1.out).trans (hb.mono (by rw [hs2];have:=HZ1.out;omega))))
 clear hb C2
 obtain ⟨hc,vy,rfl,hry⟩|⟨hc,a,tx,ha,rfl⟩:=hcase
 ·
  rw [hs2] at hry
  obtain ⟨k2,m2,D2,nd2,cd2,AL2,nl2,cl2,rfl⟩:=hry.form
  have hbI:=(Below.refl w2.heap.size w2).alloc nlr (.cells #[.int .i64 k2,.int .u64 (m2:Int),.slice D2 nd2 cd2,.slice AL2 nl2 cl2] 30)
  have hry5:=(hry.grow hbI (Nat.zero_le _)).unmask
  have HB5:=hid (HB2.out.trans (hbI.mono (by have:=HZ1.out;have:=HZ2.out;omega)))
  have HL5:=hid (HL3.out.alloc (.cells #[.int .i64 k2,.int .u64 (m2:Int),.slice D2 nd2 cd2,.slice AL2 nl2 cl2] 30))
  have hs3:(w2.alloc (.cells #[.int .i64 k2,.int .u64 (m2:Int),.slice D2 nd2 cd2,.slice AL2 nl2 cl2] 30)).heap.size=w2.heap.size+1:=by simp
  have hx5:=(HX.out.below ((HB0.out.trans (HB5.out.mono (Nat.le_add_right _ 2))).mono HBW.out)).more (show B≤(w2.alloc (.cells #[.int .i64 k2,.int .u64 (m2:Int),.slice D2 nd2 cd2,.slice AL2 nl2 cl2] 30)).heap.size by rw [hs3];have:=HZ1.out;have:=HZ2.out;have:=HBW.out;omega)
  have C3:=hid (csame_n (par (itemE (ep sc s n v))+1) x (itemE (ep sc s n v)) _ _ _ _ (Nat.lt_succ_self _) nlr hx5 hry5)
  have px:=box_cells4 (((Below.refl (w.alloc (.cells #[.int .i64 k,.int .u64 (m:Int),.slice D nd cd,.slice AL nl cl] 30)).heap.size (w.alloc (.cells #[.int .i64 k,.int .u64 (m:Int),.slice D nd cd,.slice AL nl cl] 30))).alloc nlr (.cells #[.int .i64 0,.string ⟨#[]⟩,.int .u64 0,.int .u64 0] 25)).trans (HB5.out.mono (by simp)))
  have pe5:∀ (p:Addr) (u:Value),w2.cell? p=some u→(w2.alloc (.cells #[.int .i64 k2,.int .u64 (m2:Int),.slice D2 nd2 cd2,.slice AL2 nl2 cl2] 30)).cell? p=some u:=fun p u hc=>(World.cell?_alloc_lt _ _ _ (World.block_lt_of_cell? w2 _ hc)).trans hc
  obtain ⟨e0,e1,e2,e3⟩:=pe
  have E0:=hid (pe5 _ _ e0)
  have E1:=hid (pe5 _ _ e1)
  have E2:=hid (pe5 _ _ e2)
  have E3:=hid (pe5 _ _ e3)
  have HC:=hid hc
  have HW5:Hid (w1.heap.size<(w2.alloc (.cells #[.int .i64 k2,.int .u64 (m2:Int),.slice D2 nd2 cd2,.slice AL2 nl2 cl2] 30)).heap.size):=by show _<_;rw [hs3];have:=HZ2.out;omega
  have HW6:Hid (w.heap.size+2≤(w2.alloc (.cells #[.int .i64 k2,.int .u64 (m2:Int),.slice D2 nd2 cd2,.slice AL2 nl2 cl2] 30)).heap.size):=by show _≤_;rw [hs3];have:=HZ1.out;have:=HZ2.out;omega
  obtain ⟨x0,x1,x2,x3⟩:=px
  clear hc hry hbI hry5 hs3 hx5 pe5 e0 e1 e2 e3 hs2
  go_wp2_with fail
  refine C3.out.mono ?_
  rintro e w3 ⟨r,rfl,hr,hb⟩
  have HRR:=hid hr
  have HB6:=hid (HB5.out.trans (hb.mono HW6.out))
  have hL6:=HL5.out.below hb nlr
  have e0:=(hb.cell (p:=⟨w1.heap.size,0,none⟩) HW5.out).trans E0.out
  have e1:=(hb.cell (p:=⟨w1.heap.size,1,none⟩) HW5.out).trans E1.out
  have e2:=(hb.cell (p:=⟨w1.heap.size,2,none⟩) HW5.out).trans E2.out
  have e3:=(hb.cell (p:=⟨w1.heap.size,3,none⟩) HW5.out).trans E3.out
  have gf:=hL6.cf
  unfold snt at gf
  clear hb hr hL6 x0 x1 x2 x3
  obtain ⟨⟨z0,z1,z2,z3⟩,f0,f1,f2,f3⟩:=zeroE (g:=w.heap.size+1) (by simp) HB6.out
  cases r with
  | true =>
   go_wp2_with fail
   refine bodyPost_ret (v:=.tuple #[epdV sc s n v,.nilIface]) (by simp [results,Tryz.results75,go_sem,z0,z1,z2,z3,epdV]) rfl ⟨below_put4 (HB0.out.trans (HB6.out.mono (Nat.le_add_right _ 2))) (Nat.le_succ _),.inl ⟨sc,s,n,v,rfl,HBD.out.1,HBD.out.2.1,HBD.out.2.2,HC.out,(HRR.out.1 trivial).symm⟩⟩
  | false =>
   have HNO:Hid (∀ e0,checkB e0=true→itemE e0≠x):=fun e0 hc0 hi0=>by
    have h:=HH.out e0 hc0 hi0
    rw [h] at hi0
    have:=HRR.out.2 hi0.symm
    cases this
   go_wp2_with fail
   refine bodyPost_ret (v:=.tuple #[epdV 0 ⟨#[]⟩ 0 0,eflt ⟨#[105,116,101,109]⟩ (snt A.f)]) (by simp [results,Tryz.results75,go_sem,z0,z1,z2,z3,epdV,snt,eflt]) rfl ⟨below_put4 (HB0.out.trans (HB6.out.mono (Nat.le_add_right _ 2))) (Nat.le_succ _),.inr ⟨HNO.out,A.f,_,_,.wrap 0 _ _ _ _ (.leaf A.f (.inr (.inr (.inr rfl)))),by decide,rfl⟩⟩
 ·
  have hbI:=(Below.refl w2.heap.size w2).alloc nlr (.cells #[.int .i64 0,.int .u64 0,.slice none 0 0,.slice none 0 0] 30)
  have HB5:=hid (HB2.out.trans (hbI.mono (by have:=HZ1.out;have:=HZ2.out;omega)))
  have HNO:Hid (∀ e0,checkB e0=true→itemE e0≠x):=fun e0 hc0 hi0=>by
   have h:=HH.out e0 hc0 hi0
   rw [h,hc] at hc0
   cases hc0
  have HO:=hid ha
  clear hbI hc ha pe hs2
  obtain ⟨⟨z0,z1,z2,z3⟩,f0,f1,f2,f3⟩:=zeroE (g:=w.heap.size+1) (by simp) HB5.out
  unfold zeroItem eflt snt at *
  go_wp2_with fail
  refine bodyPost_ret (v:=.tuple #[epdV 0 ⟨#[]⟩ 0 0,eflt ⟨#[105,116,101,109]⟩ (eflt tx (snt a))]) (by simp [results,Tryz.results75,go_sem,z0,z1,z2,z3,epdV,snt,eflt]) rfl ⟨below_put4 (HB0.out.trans (HB5.out.mono (Nat.le_add_right _ 2))) (Nat.le_succ _),.inr ⟨HNO.out,a,_,_,.wrap 1 _ _ _ _ (.wrap 0 _ _ _ _ (.leaf a HO.out)),by decide,rfl⟩⟩
def FromE (x:Itm) (w:World) (e:Ending) (w':World):Prop:=Below w.heap.size w w' ∧
 ((∃ (sc:Int) (s:ByteArray) (n v:Nat),e=.returned (.tuple #[epdV sc s n v,.int .i64 0])∧s.size≤140737488355328∧n<18446744073709551616∧v<18446744073709551616∧checkB (ep sc s n v)=true∧itemE (ep sc s n v)=x) ∨
  ((∀ e0,checkB e0=true→itemE e0≠x)∧e=.returned (.tuple #[epdV 0 ⟨#[]⟩ 0 0,.int .i64 40])))
theorem from_any (A:Snt) (x:Itm) (v0:Value) (B:Nat) (w:World) (hA:Lds A w) (hB:B≤w.heap.size) (h:RdI w B v0 x) :
  Calls Tryz.prog 27 #[v0] w (FromE x w):=by
 obtain ⟨k,m,D,nd,cd,AL,nl,cl,rfl⟩:=h.form
 have HB0:Hid (Below w.heap.size w ((w.alloc (.cells #[.int .i64 k,.int .u64 (m:Int),.slice D nd cd,.slice AL nl cl] 30)).alloc (.cells #[.int .i64 0,.string ⟨#[]⟩,.int .u64 0,.int .u64 0] 25))):=((Below.refl _ _).alloc nlr _).alloc (le_alloc _ _) _
 have HA1:=hid ((hA.alloc (.cells #[.int .i64 k,.int .u64 (m:Int),.slice D nd cd,.slice AL nl cl] 30)).alloc (.cells #[.int .i64 0,.string ⟨#[]⟩,.int .u64 0,.int .u64 0] 25))
 have C1:=hid (read_any A x _ B _ HA1.out (by have h1:=HB0.out.size;omega) (h.below (HB0.out.mono hB)))
 clear hA h hB
 go_enter Tryz.func27,Tryz.ntmps27
 go_wp2_with fail
 refine C1.out.mono ?_
 rintro e w1 ⟨hb,hcase⟩
 have HL1:=hid (HA1.out.below hb nlr)
 have HB1:=hid (hb.mono (show w.heap.size+2≤_ by simp))
 have HZ1:Hid (w.heap.size+2≤w1.heap.size):=by show _≤_;have h:=hb.size;simpa using h
 have HNE:Hid (¬ w.heap.size+1=w1.heap.size):=fun h=>by have:=HZ1.out;omega
 clear hb
 obtain ⟨sc,s,n,v,rfl,h2,h3,h4,h5,h6⟩|⟨h5,a,j,E,hch,hj,rfl⟩:=hcase
 ·
  have H:=hid (And.intro h2 (And.intro h3 (And.intro h4 (And.intro h5 h6))))
  have CN:=hid (fun W (hW:Lds A W)=>number_nilB A W hW)
  clear h2 h3 h4 h5 h6
  unfold epdV at *
  go_wp2_with fail
  have HA2:=hid (HL1.out.alloc (.cells #[.int .i64 sc,.string s,.int .u64 (n:Int),.int .u64 (v:Int)] 25))
  have HB2:=hid (HB1.out.trans (((Below.refl w1.heap.size w1).alloc nlr (.cells #[.int .i64 sc,.string s,.int .u64 (n:Int),.int .u64 (v:Int)] 25)).mono HZ1.out))
  have HLT:Hid (w1.heap.size<(w1.alloc (.cells #[.int .i64 sc,.string s,.int .u64 (n:Int),.int .u64 (v:Int)] 25)).heap.size):=by show _<_;simp
  obtain ⟨p0,p1,p2,p3⟩:=box_cells4 (Below.refl _ (w1.alloc (.cells #[.int .i64 sc,.string s,.int .u64 (n:Int),.int .u64 (v:Int)] 25)))
  generalize w1.alloc (.cells #[.int .i64 sc,.string s,.int .u64 (n:Int),.int .u64 (v:Int)] 25)=W1 at *
  have HD:=hid (HA2.out.below (Below.drew_ (B:=W1.heap.size)) nlr)
  have HZ2:=hid (Nat.le_trans HZ1.out (Nat.le_of_lt HLT.out))
  go_region_held3 (fun W=>W.cell? ⟨w1.heap.size,0,none⟩=some (.int .i64 sc)∧W.cell? ⟨w1.heap.size,1,none⟩=some (.string s)∧W.cell? ⟨w1.heap.size,2,none⟩=some (.int .u64 (n:Int))∧W.cell? ⟨w1.heap.size,3,none⟩=some (.int .u64 (v:Int)))
   (first|(with_reducible exact ⟨put4_cell_ x0 HNE.out,put4_cell_ x1 HNE.out,put4_cell_ x2 HNE.out,put4_cell_ x3 HNE.out⟩)|(with_reducible exact ⟨x0,x1,x2,x3⟩)|(exact ⟨p0,p1,p2,p3⟩)|fail)
   (first
    | (go_at_call 66;refine (CN.out _ HD.out).mono ?_;rintro e w2 ⟨rfl,hb2⟩;have hb2':Below W1.heap.size W1 w2:=Below.drew_.trans hb2;have x0:=(hb2'.cell (p:=⟨w1.heap.size,0,none⟩) HLT.out).trans p0;have x1:=(hb2'.cell (p:=⟨w1.heap.size,1,none⟩) HLT.out).trans p1;have x2:=(hb2'.cell (p:=⟨w1.heap.size,2,none⟩) HLT.out).trans p2;have x3:=(hb2'.cell (p:=⟨w1.heap.size,3,none⟩) HLT.out).trans p3;have hb3:=HB2.out.trans (hb2'.mono HZ2.out);have BX:=hid hb2';obtain ⟨⟨z0,z1,z2,z3⟩,f0,f1,f2,f3⟩:=zeroE (g:=w.heap.size+1) (by simp) hb3;have B3:=hid hb3;clear hb2 hb2' hb3)
    | fail)
  go_wp2_with fail
  refine bodyPost_ret (v:=.tuple #[epdV sc s n v,.int .i64 0]) (by simp [results,Tryz.results27,go_sem,z0,z1,z2,z3,epdV]) rfl ⟨below_put4 (HB0.out.trans (B3.out.mono (Nat.le_add_right _ 2))) (Nat.le_succ _),.inl ⟨sc,s,n,v,rfl,H.out.1,H.out.2.1,H.out.2.2.1,H.out.2.2.2.1,H.out.2.2.2.2⟩⟩
 ·
  have H:=hid h5
  have CN:=hid (fun W (hW:Lds A W)=>number_ch A j E a W hW hch (by omega))
  clear h5 hch hj
  unfold epdV at *
  go_wp2_with fail
  have HA2:=hid (HL1.out.alloc (.cells #[.int .i64 0,.string ⟨#[]⟩,.int .u64 0,.int .u64 0] 25))
  have HB2:=hid (HB1.out.trans (((Below.refl w1.heap.size w1).alloc nlr (.cells #[.int .i64 0,.string ⟨#[]⟩,.int .u64 0,.int .u64 0] 25)).mono HZ1.out))
  have HLT:Hid (w1.heap.size<(w1.alloc (.cells #[.int .i64 0,.string ⟨#[]⟩,.int .u64 0,.int .u64 0] 25)).heap.size):=by show _<_;simp
  obtain ⟨p0,p1,p2,p3⟩:=box_cells4 (Below.refl _ (w1.alloc (.cells #[.int .i64 0,.string ⟨#[]⟩,.int .u64 0,.int .u64 0] 25)))
  generalize w1.alloc (.cells #[.int .i64 0,.string ⟨#[]⟩,.int .u64 0,.int .u64 0] 25)=W1 at *
  have HD:=hid (HA2.out.below (Below.drew_ (B:=W1.heap.size)) nlr)
  have HZ2:=hid (Nat.le_trans HZ1.out (Nat.le_of_lt HLT.out))
  go_region_held3 (fun W=>W.cell? ⟨w1.heap.size,0,none⟩=some (.int .i64 0)∧W.cell? ⟨w1.heap.size,1,none⟩=some (.string ⟨#[]⟩)∧W.cell? ⟨w1.heap.size,2,none⟩=some (.int .u64 0)∧W.cell? ⟨w1.heap.size,3,none⟩=some (.int .u64 0))
   (first|(with_reducible exact ⟨put4_cell_ x0 HNE.out,put4_cell_ x1 HNE.out,put4_cell_ x2 HNE.out,put4_cell_ x3 HNE.out⟩)|(with_reducible exact ⟨x0,x1,x2,x3⟩)|(exact ⟨p0,p1,p2,p3⟩)|fail)
   (first
    | (go_at_call 66;refine (CN.out _ HD.out).mono ?_;rintro e w2 ⟨rfl,hb2⟩;have hb2':Below W1.heap.size W1 w2:=Below.drew_.trans hb2;have x0:=(hb2'.cell (p:=⟨w1.heap.size,0,none⟩) HLT.out).trans p0;have x1:=(hb2'.cell (p:=⟨w1.heap.size,1,none⟩) HLT.out).trans p1;have x2:=(hb2'.cell (p:=⟨w1.heap.size,2,none⟩) HLT.out).trans p2;have x3:=(hb2'.cell (p:=⟨w1.heap.size,3,none⟩) HLT.out).trans p3;have hb3:=HB2.out.trans (hb2'.mono HZ2.out);have BX:=hid hb2';obtain ⟨⟨z0,z1,z2,z3⟩,f0,f1,f2,f3⟩:=zeroE (g:=w.heap.size+1) (by simp) hb3;have B3:=hid hb3;clear hb2 hb2' hb3)
    | fail)
  go_wp2_with fail
  refine bodyPost_ret (v:=.tuple #[epdV 0 ⟨#[]⟩ 0 0,.int .i64 40]) (by simp [results,Tryz.results27,go_sem,z0,z1,z2,z3,epdV]) rfl ⟨below_put4 (HB0.out.trans (B3.out.mono (Nat.le_add_right _ 2))) (Nat.le_succ _),.inr ⟨H.out,rfl⟩⟩
/-! ### Blocks in memory -/
structure RdK (w:World) (B b o:Nat) (x:Blk) (A:Option Addr) (nd cd:Nat):Prop where
 k0:w.cell? ⟨b,o,none⟩=some (.int .u64 (x.typ:Int))
 k1:w.cell? ⟨b,o+1,none⟩=some (.int .u64 (x.num:Int))
 k2:w.cell? ⟨b,o+2,none⟩=some (.int .u64 (x.flg:Int))
 k3:w.cell? ⟨b,o+3,none⟩=some (.int .i64 x.crc)
 k4:w.cell? ⟨b,o+4,none⟩=some (.slice A nd cd)
 bd:Bd x
 le:nd≤cd∧nd≤140737488355328
 rd:Rd w B A nd x.dat
theorem RdK.below {w w':World} {B b o nd cd:Nat} {x:Blk} {A:Option Addr} (h:RdK w B b o x A nd cd) (hb:Below B w w') (hB:b<B):RdK w' B b o x A nd cd :=
 ⟨(hb.cell hB).trans h.k0,(hb.cell hB).trans h.k1,(hb.cell hB).trans h.k2,(hb.cell hB).trans h.k3,(hb.cell hB).trans h.k4,h.bd,h.le,h.rd.below hb⟩
theorem RdK.more {w:World} {B B' b o nd cd:Nat} {x:Blk} {A:Option Addr} (h:RdK w B b o x A nd cd) (hB:B≤B'):RdK w B' b o x A nd cd :=
 ⟨h.k0,h.k1,h.k2,h.k3,h.k4,h.bd,h.le,h.rd.more hB⟩
def RdKs (w:World) (B b:Nat):Nat→List Blk→Prop
 | _,[]=>True
 | o,x::r=>(∃ A nd cd,RdK w B b o x A nd cd)∧RdKs w B b (o+5) r
theorem RdKs.below {w w':World} {B b:Nat} (hb:Below B w w') (hB:b<B):∀ {l:List Blk} {o:Nat},RdKs w B b o l→RdKs w' B b o l
 | [],_,_=>trivial
 | _::_,_,⟨⟨A,nd,cd,h⟩,hr⟩=>⟨⟨A,nd,cd,h.below hb hB⟩,RdKs.below hb hB hr⟩
theorem RdKs.more {w:World} {B B' b:Nat} (hB:B≤B'):∀ {l:List Blk} {o:Nat},RdKs w B b o l→RdKs w B' b o l
 | [],_,_=>trivial
 | _::_,_,⟨⟨A,nd,cd,h⟩,hr⟩=>⟨⟨A,nd,cd,h.more hB⟩,RdKs.more hB hr⟩
theorem RdKs.get {w:World} {B b:Nat}:∀ {l:List Blk} {o:Nat},RdKs w B b o l→∀ i (hi:i<l.length),∃ A nd cd,RdK w B b (o+i*5) (l[i]'hi) A nd cd
 | x::r,o,⟨h,hr⟩,0,_=>by simpa using h
 | x::r,o,⟨h,hr⟩,i+1,hi=>by
  have:=RdKs.get hr i (Nat.lt_of_succ_lt_succ hi)
  rw [show o+(i+1)*5=o+5+i*5 by omega]
  simpa using this
theorem RdKs.of_get {w:World} {B b:Nat}:∀ {l:List Blk} {o:Nat},(∀ i (hi:i<l.length),∃ A nd cd,RdK w B b (o+i*5) (l[i]'hi) A nd cd)→RdKs w B b o l
 | [],_,_=>trivial
 | x::r,o,h=>⟨by have:=h 0 (by simp);rw [Nat.zero_mul,Nat.add_zero] at this;exact this,RdKs.of_get fun i hi=>by
   have:=h (i+1) (by simpa using hi)
   rw [show o+(i+1)*5=o+5+i*5 by omega] at this
   simpa using this⟩
theorem RdKs.app {w:World} {B b:Nat}:∀ {l m:List Blk} {o:Nat},RdKs w B b o l→RdKs w B b (o+l.length*5) m→RdKs w B b o (l++m)
 | [],m,o,_,h=>by simpa using h
 | x::r,m,o,⟨h,hr⟩,hm=>⟨h,RdKs.app hr (by rw [show o+5+r.length*5=o+(x::r).length*5 by simp;omega];exact hm)⟩
def RdL (w:World) (B:Nat) (A:Option Addr) (n:Nat) (l:List Blk):Prop:=l.length=n∧(0<n→∃ b o,A=some ⟨b,o,none⟩∧b<B∧RdKs w B b o l)∧n≤140737488355328
theorem RdL.below {w w':World} {B n:Nat} {A:Option Addr} {l:List Blk} (h:RdL w B A n l) (hb:Below B w w'):RdL w' B A n l :=
 ⟨h.1,fun hn=>by obtain ⟨b,o,e,h1,h2⟩:=h.2.1 hn;exact ⟨b,o,e,h1,h2.below hb h1⟩,h.2.2⟩
theorem RdL.more {w:World} {B B' n:Nat} {A:Option Addr} {l:List Blk} (h:RdL w B A n l) (hB:B≤B'):RdL w B' A n l :=
 ⟨h.1,fun hn=>by obtain ⟨b,o,e,h1,h2⟩:=h.2.1 hn;exact ⟨b,o,e,Nat.lt_of_lt_of_le h1 hB,h2.more hB⟩,h.2.2⟩
theorem RdL.nil_ {w:World} {B:Nat} {A:Option Addr}:RdL w B A 0 []:=⟨rfl,fun h=>absurd h (Nat.lt_irrefl 0),Nat.zero_le _⟩
theorem RdL.take {w:World} {B n:Nat} {A:Option Addr} {l:List Blk} (h:RdL w B A n l) (i:Nat) (hi:i≤n):RdL w B A i (l.take i):=by
 obtain ⟨h1,h2,h3⟩:=h
 refine ⟨by rw [List.length_take];omega,fun h0=>?_,by omega⟩
 obtain ⟨b,o,e,hb,hk⟩:=h2 (by omega)
 refine ⟨b,o,e,hb,RdKs.of_get fun j hj=>?_⟩
 have hjl:j<l.length:=by rw [List.length_take] at hj;omega
 have:=hk.get j hjl
 rw [List.getElem_take]
 exact this
/-! ### Bundles' heads: all but the blocks -/
structure BH where
 flg:Nat
 crc:Int
 dsc:Int
 dnm:ByteArray
 dn:Nat
 dv:Nat
 ssc:Int
 snm:ByteArray
 sn:Nat
 sv:Nat
 rsc:Int
 rnm:ByteArray
 rn:Nat
 rv:Nat
 tim:Nat
 seq:Nat
 lif:Nat
def BH.zero:BH:=⟨0,0,0,⟨#[]⟩,0,0,0,⟨#[]⟩,0,0,0,⟨#[]⟩,0,0,0,0,0⟩
def BH.dst (h:BH):Epd:=ep h.dsc h.dnm h.dn h.dv
def BH.src (h:BH):Epd:=ep h.ssc h.snm h.sn h.sv
def BH.rep (h:BH):Epd:=ep h.rsc h.rnm h.rn h.rv
def BH.bun (h:BH) (l:List Blk):Bun:=⟨h.flg,h.crc,h.dst,h.src,h.rep,h.tim,h.seq,h.lif,l⟩
structure BH.Bd (h:BH):Prop where
 flg:h.flg<18446744073709551616
 dnm:h.dnm.size≤140737488355328
 dn:h.dn<18446744073709551616
 dv:h.dv<18446744073709551616
 snm:h.snm.size≤140737488355328
 sn:h.sn<18446744073709551616
 sv:h.sv<18446744073709551616
 rnm:h.rnm.size≤140737488355328
 rn:h.rn<18446744073709551616
 rv:h.rv<18446744073709551616
 tim:h.tim<18446744073709551616
 seq:h.seq<18446744073709551616
 lif:h.lif<18446744073709551616
def bunV (h:BH) (A:Option Addr) (n c:Nat):Value:=.agg #[.int .u64 (h.flg:Int),.int .i64 h.crc,.int .i64 h.dsc,.string h.dnm,.int .u64 (h.dn:Int),.int .u64 (h.dv:Int),.int .i64 h.ssc,.string h.snm,.int .u64 (h.sn:Int),.int .u64 (h.sv:Int),.int .i64 h.rsc,.string h.rnm,.int .u64 (h.rn:Int),.int .u64 (h.rv:Int),.int .u64 (h.tim:Int),.int .u64 (h.seq:Int),.int .u64 (h.lif:Int),.slice A n c]
theorem box18 {w w':World} {c0:Value} {c1:Value} {c2:Value} {c3:Value} {c4:Value} {c5:Value} {c6:Value} {c7:Value} {c8:Value} {c9:Value} {c10:Value} {c11:Value} {c12:Value} {c13:Value} {c14:Value} {c15:Value} {c16:Value} {c17:Value} {t:TypeId} {g:Nat} (hg:g=w.heap.size) (h:Below (g+1) (w.alloc (.cells #[c0,c1,c2,c3,c4,c5,c6,c7,c8,c9,c10,c11,c12,c13,c14,c15,c16,c17] t)) w') :
  w'.cell? ⟨g,0,none⟩=some c0∧w'.cell? ⟨g,1,none⟩=some c1∧w'.cell? ⟨g,2,none⟩=some c2∧w'.cell? ⟨g,3,none⟩=some c3∧w'.cell? ⟨g,4,none⟩=some c4∧w'.cell? ⟨g,5,none⟩=some c5∧w'.cell? ⟨g,6,none⟩=some c6∧w'.cell? ⟨g,7,none⟩=some c7∧w'.cell? ⟨g,8,none⟩=some c8∧w'.cell? ⟨g,9,none⟩=some c9∧w'.cell? ⟨g,10,none⟩=some c10∧w'.cell? ⟨g,11,none⟩=some c11∧w'.cell? ⟨g,12,none⟩=some c12∧w'.cell? ⟨g,13,none⟩=some c13∧w'.cell? ⟨g,14,none⟩=some c14∧w'.cell? ⟨g,15,none⟩=some c15∧w'.cell? ⟨g,16,none⟩=some c16∧w'.cell? ⟨g,17,none⟩=some c17:=by
 subst hg
 refine ⟨?_,?_,?_,?_,?_,?_,?_,?_,?_,?_,?_,?_,?_,?_,?_,?_,?_,?_⟩ <;> (rw [h.cell (Nat.lt_succ_self _),World.cell?_alloc_at _ _ _ _ rfl];rfl)
theorem zero18 {w W':World} {g:Nat} (hg:g=w.heap.size) (h:Below (g+1) (w.alloc (.cells #[.int .u64 0,.int .i64 0,.int .i64 0,.string ⟨#[]⟩,.int .u64 0,.int .u64 0,.int .i64 0,.string ⟨#[]⟩,.int .u64 0,.int .u64 0,.int .i64 0,.string ⟨#[]⟩,.int .u64 0,.int .u64 0,.int .u64 0,.int .u64 0,.int .u64 0,.slice none 0 0] 73)) W') :
  (W'.frozen? ⟨g,0,none⟩=false∧W'.frozen? ⟨g,1,none⟩=false∧W'.frozen? ⟨g,2,none⟩=false∧W'.frozen? ⟨g,3,none⟩=false∧W'.frozen? ⟨g,4,none⟩=false∧W'.frozen? ⟨g,5,none⟩=false∧W'.frozen? ⟨g,6,none⟩=false∧W'.frozen? ⟨g,7,none⟩=false∧W'.frozen? ⟨g,8,none⟩=false∧W'.frozen? ⟨g,9,none⟩=false∧W'.frozen? ⟨g,10,none⟩=false∧W'.frozen? ⟨g,11,none⟩=false∧W'.frozen? ⟨g,12,none⟩=false∧W'.frozen? ⟨g,13,none⟩=false∧W'.frozen? ⟨g,14,none⟩=false∧W'.frozen? ⟨g,15,none⟩=false∧W'.frozen? ⟨g,16,none⟩=false∧W'.frozen? ⟨g,17,none⟩=false):=by
 subst hg
 exact ⟨(h.frozen (p:=⟨w.heap.size,0,none⟩) (Nat.lt_succ_self _)).trans (by simp),(h.frozen (p:=⟨w.heap.size,1,none⟩) (Nat.lt_succ_self _)).trans (by simp),(h.frozen (p:=⟨w.heap.size,2,none⟩) (Nat.lt_succ_self _)).trans (by simp),(h.frozen (p:=⟨w.heap.size,3,none⟩) (Nat.lt_succ_self _)).trans (by simp),(h.frozen (p:=⟨w.heap.size,4,none⟩) (Nat.lt_succ_self _)).trans (by simp),(h.frozen (p:=⟨w.heap.size,5,none⟩) (Nat.lt_succ_self _)).trans (by simp),(h.frozen (p:=⟨w.heap.size,6,none⟩) (Nat.lt_succ_self _)).trans (by simp),(h.frozen (p:=⟨w.heap.size,7,none⟩) (Nat.lt_succ_self _)).trans (by simp),(h.frozen (p:=⟨w.heap.size,8,none⟩) (Nat.lt_succ_self _)).trans (by simp),(h.frozen (p:=⟨w.heap.size,9,none⟩) (Nat.lt_succ_self _)).trans (by simp),(h.frozen (p:=⟨w.heap.size,10,none⟩) (Nat.lt_succ_self _)).trans (by simp),(h.frozen (p:=⟨w.heap.size,11,none⟩) (Nat.lt_succ_self _)).trans (by simp),(h.frozen (p:=⟨w.heap.size,12,none⟩) (Nat.lt_succ_self _)).trans (by simp),(h.frozen (p:=⟨w.heap.size,13,none⟩) (Nat.lt_succ_self _)).trans (by simp),(h.frozen (p:=⟨w.heap.size,14,none⟩) (Nat.lt_succ_self _)).trans (by simp),(h.frozen (p:=⟨w.heap.size,15,none⟩) (Nat.lt_succ_self _)).trans (by simp),(h.frozen (p:=⟨w.heap.size,16,none⟩) (Nat.lt_succ_self _)).trans (by simp),(h.frozen (p:=⟨w.heap.size,17,none⟩) (Nat.lt_succ_self _)).trans (by simp)⟩
/-! ### The world -/
structure Wd (S:Snt) (w:World):Prop where
 lds:Lds S w
 laid:LaidE w
theorem Wd.below {S:Snt} {w w':World} {B:Nat} (h:Wd S w) (hb:Below B w w') (hB:w.heap.size≤B):Wd S w' :=
 ⟨h.lds.below hb hB,h.laid.below hb (Nat.lt_of_lt_of_le h.laid.lt hB)⟩
theorem Wd.alloc {S:Snt} {w:World} (h:Wd S w) (o:Obj):Wd S (w.alloc o):=h.below ((Below.refl _ _).alloc nlr o) nlr
theorem Below.push {B:Nat} {W0 w1 w2:World} (h:Below B W0 w1) (hB:B≤W0.heap.size) (h2:Below w1.heap.size w1 w2):Below B W0 w2 :=
 h.trans (h2.mono (Nat.le_trans hB h.size))
def WhyU (z:Int) (w:World) (e:Ending) (w':World):Prop:=Below w.heap.size w w'∧((z=0∧e=.returned .nilIface)∨(z≠0∧∃ s,e=.returned (ufl z s)))
def cmpU (u w:List UInt8) (s:Nat):Int:=if u.length≠w.length∨u.take (w.length - s)≠w.take (w.length - s) then 60 else if u.drop (w.length - s)≠w.drop (w.length - s) then 51 else 0
theorem cmpU_0 {u w:List UInt8} {s:Nat} (h:cmpU u w s=0):u=w:=by
 unfold cmpU at h
 split at h
 ·
  cases h
 ·
  split at h
  ·
   cases h
  ·
   rename_i h1 h2
   have a1:u.take (w.length - s)=w.take (w.length - s):=Classical.not_not.1 fun hh=>h1 (.inr hh)
   have a2:u.drop (w.length - s)=w.drop (w.length - s):=Classical.not_not.1 h2
   rw [← List.take_append_drop (w.length - s) w,← a1,← a2,List.take_append_drop]
theorem cmpU_same (u:List UInt8) (s:Nat):cmpU u u s=0:=by unfold cmpU;simp
theorem ucompare_any (A A':Option Addr) (n c n' c' B s:Nat) (u v:List UInt8) (w:World) (h:Rd w B A n u) (hc:n≤c) (h':Rd w B A' n' v) (hc':n'≤c') (hs:s≤n') (hn:n≤140737488355328) (hn':n'≤140737488355328) :
  Calls Tryz.prog 210 #[.slice A n c,.slice A' n' c',.int .i64 (s:Int)] w (WhyU (cmpU u v s) w):=by
 have CN:=hid unone_any
 have hl:=h.1
 have hl':=h'.1
 by_cases e1:n=n'
 ·
  subst e1
  obtain ⟨M,hM⟩:∃ M,M=n - s:=⟨_,rfl⟩
  have hMn:M≤n:=by omega
  obtain ⟨D1,d1,k1,-,-,r1⟩:=cut_h (P:=Tryz.prog) 27 5 Tryz.underlying27 size_u8 c h ((n:Int) - (s:Int)) M (by omega) hMn hc
  obtain ⟨D2,d2,k2,-,-,r2⟩:=cut_h (P:=Tryz.prog) 27 5 Tryz.underlying27 size_u8 c' h' ((n:Int) - (s:Int)) M (by omega) hMn hc'
  obtain ⟨D3,d3,k3,-,-,r3⟩:=cut_l (P:=Tryz.prog) 27 5 Tryz.underlying27 size_u8 c h ((n:Int) - (s:Int)) M (by omega) hMn hc
  obtain ⟨D4,d4,k4,-,-,r4⟩:=cut_l (P:=Tryz.prog) 27 5 Tryz.underlying27 size_u8 c' h' ((n:Int) - (s:Int)) M (by omega) hMn hc'
  have C1:=hid (fun W k (hb:Below B w W)=>Calls.quiet_of_same (n:=k) ((bequal_any D1 D2 M d1 M d2 B _ _ (W.drewN k) (r1.below (hb.trans (below_qN B W k))) (r2.below (hb.trans (below_qN B W k)))).mono (fun _ _ h=>⟨h.1,h.2.symm⟩)))
  have C2:=hid (fun W k (hb:Below B w W)=>Calls.quiet_of_same (n:=k) ((bequal_any D3 D4 (n - M) d3 (n - M) d4 B _ _ (W.drewN k) (r3.below (hb.trans (below_qN B W k))) (r4.below (hb.trans (below_qN B W k)))).mono (fun _ _ h=>⟨h.1,h.2.symm⟩)))
  have hcmp:cmpU u v s=if (u.take M==v.take M)=false then 60 else if (u.drop M==v.drop M)=false then 51 else 0:=by
   unfold cmpU
   rw [hl',← hM]
   by_cases q1:u.take M=v.take M
   ·
    rw [if_neg (by simp [hl,q1])]
    by_cases q2:u.drop M=v.drop M
    ·
     rw [if_neg (by simp [q2]),if_neg (by simp [q1]),if_neg (by simp [q2])]
    ·
     rw [if_pos q2,if_neg (by simp [q1]),if_pos (by simpa using q2)]
   ·
    rw [if_pos (.inr q1),if_pos (by simpa using q1)]
  rw [hcmp]
  generalize (u.take M==v.take M)=b1 at *
  generalize (u.drop M==v.drop M)=b2 at *
  have HB:=hid (below_qN w.heap.size w)
  clear hcmp r1 r2 r3 r4 h h' hl hl' hc hc' hM
  cases b1 with
  | false =>
   rw [if_pos rfl]
   have Q1:=hid (fun k=>C1.out w k (Below.refl _ _))
   go_enter Tryz.func210,Tryz.ntmps210
   go_wp2_with (first|(go_at_call 142;refine (CN.out _ _).mono ?_;rintro e w1 ⟨rfl,rfl⟩)|fail)
   go_quiet (first|(go_at_call 158;exact Q1.out _)|fail)
   go_wp2_with (first|(go_at_call 142;refine (CN.out _ _).mono ?_;rintro e w1 ⟨rfl,rfl⟩)|fail)
   go_ret
   exact ⟨HB.out _,.inr ⟨by decide,_,rfl⟩⟩
  | true =>
   rw [if_neg (by decide)]
   have Q1:=hid (fun k=>C1.out w k (Below.refl _ _))
   have Q2:=hid (fun W (hb:Below B w W) k=>C2.out W k hb)
   have HQ:=hid (below_qN B w)
   clear C1 C2
   cases b2 with
   | false =>
    rw [if_pos rfl]
    go_enter Tryz.func210,Tryz.ntmps210
    go_wp2_with (first|(go_at_call 142;refine (CN.out _ _).mono ?_;rintro e w1 ⟨rfl,rfl⟩)|fail)
    go_quiet (first|(go_at_call 158;exact Q1.out _)|fail)
    go_wp2_with (first|(go_at_call 142;refine (CN.out _ _).mono ?_;rintro e w1 ⟨rfl,rfl⟩)|fail)
    have Q3:=hid (Q2.out _ (HQ.out nq))
    have HB1:=hid (HB.out nq)
    generalize w.drewN nq=W1 at *
    go_quiet (first|(go_at_call 158;exact Q3.out _)|fail)
    go_wp2_with (first|(go_at_call 142;refine (CN.out _ _).mono ?_;rintro e w1 ⟨rfl,rfl⟩)|fail)
    go_ret
    exact ⟨HB1.out.trans (below_qN _ _ _),.inr ⟨by decide,_,rfl⟩⟩
   | true =>
    rw [if_neg (by decide)]
    go_enter Tryz.func210,Tryz.ntmps210
    go_wp2_with (first|(go_at_call 142;refine (CN.out _ _).mono ?_;rintro e w1 ⟨rfl,rfl⟩)|fail)
    go_quiet (first|(go_at_call 158;exact Q1.out _)|fail)
    go_wp2_with (first|(go_at_call 142;refine (CN.out _ _).mono ?_;rintro e w1 ⟨rfl,rfl⟩)|fail)
    have Q3:=hid (Q2.out _ (HQ.out nq))
    have HB1:=hid (HB.out nq)
    generalize w.drewN nq=W1 at *
    go_quiet (first|(go_at_call 158;exact Q3.out _)|fail)
    go_wp2_with (first|(go_at_call 142;refine (CN.out _ _).mono ?_;rintro e w1 ⟨rfl,rfl⟩)|fail)
    go_ret
    exact ⟨HB1.out.trans (below_qN _ _ _),.inl ⟨rfl,rfl⟩⟩
 ·
  have hcmp:cmpU u v s=60:=by unfold cmpU;rw [if_pos (.inl (by rw [hl,hl'];exact e1))]
  rw [hcmp]
  have hne:((n:Int)==(n':Int))=false:=by rw [beq_eq_false_iff_ne];omega
  have hne2:¬ (n:Int)=(n':Int):=by omega
  have HB:=hid (below_qN w.heap.size w)
  clear hcmp h h' hl hl'
  generalize (n' - s:Nat)=M at *
  go_enter Tryz.func210,Tryz.ntmps210
  go_wp2_with (first|(go_at_call 142;refine (CN.out _ _).mono ?_;rintro e w1 ⟨rfl,rfl⟩)|fail)
  go_quiet (fail)
  go_wp2_with (first|(go_at_call 142;refine (CN.out _ _).mono ?_;rintro e w1 ⟨rfl,rfl⟩)|fail)
  go_ret
  exact ⟨HB.out _,.inr ⟨by decide,_,rfl⟩⟩
def verL:List Itm→Int
 | y::_=>if y.kind=0 then if y.num=7 then 0 else 61 else 60
 | []=>60
def verB (x:Itm):Int:=if x.kind=4∧8≤x.list.length∧x.list.length≤9 then verL x.list else 60
theorem verB_itmP {b:Bun} {s:List UInt8}:verB (itmP b s)=0:=by
 unfold verB itmP partsP
 by_cases h:b.crc=0
 ·
  simp only [if_pos h];rfl
 ·
  simp only [if_neg h];rfl
theorem verB_0 {x:Itm} (h:verB x=0):8≤x.list.length:=by
 unfold verB at h
 split at h
 ·
  rename_i hh;exact hh.2.1
 ·
  cases h
theorem uver_any (x:Itm) (v:Value) (B:Nat) (w:World) (hB:B≤w.heap.size) (h:RdI w B v x) :
  Calls Tryz.prog 208 #[v] w (WhyU (verB x) w):=by
 obtain ⟨k,m,d,l⟩:=x
 obtain ⟨A,nd,cd,AL,cl,rfl,-,-,-,-,hl,hrow⟩:=h.open
 have CN:=hid unone_any
 have HB0:=hid ((Below.refl w.heap.size w).alloc nlr (.cells #[.int .i64 k,.int .u64 (m:Int),.slice A nd cd,.slice AL l.length cl] 30))
 clear h
 obtain ⟨Z,hZ⟩:∃ Z,Z=verB (.mk k m d l):=⟨_,rfl⟩
 rw [← hZ]
 have hZ2:Z=if k=4∧8≤l.length∧l.length≤9 then verL l else 60:=hZ
 clear hZ
 by_cases h1:k=4
 case neg =>
  have hz:Z=60:=by rw [hZ2,if_neg (fun hh=>h1 hh.1)]
  have e1:(k==4)=false:=by simpa using h1
  have e1':(k != 4)=true:=by simpa using h1
  clear hZ2 hrow h1
  subst hz
  go_enter Tryz.func208,Tryz.ntmps208
  go_wp2_with (first|(go_at_call 142;refine (CN.out _ _).mono ?_;rintro e w1 ⟨rfl,rfl⟩)|fail)
  go_ret
  exact ⟨HB0.out,.inr ⟨by decide,_,rfl⟩⟩
 subst h1
 by_cases h8:l.length<8
 ·
  have hz:Z=60:=by rw [hZ2,if_neg (fun hh=>by omega)]
  have e1:decide ((l.length:Int)<8)=true:=decide_eq_true (by omega)
  clear hZ2 hrow
  generalize l.length=N at *
  subst hz
  go_enter Tryz.func208,Tryz.ntmps208
  go_wp2_with (first|(go_at_call 142;refine (CN.out _ _).mono ?_;rintro e w1 ⟨rfl,rfl⟩)|fail)
  go_ret
  exact ⟨HB0.out,.inr ⟨by decide,_,rfl⟩⟩
 by_cases h9:9<l.length
 ·
  have hz:Z=60:=by rw [hZ2,if_neg (fun hh=>by omega)]
  have e1:decide ((l.length:Int)<8)=false:=decide_eq_false (by omega)
  have e2:decide ((9:Int)<(l.length:Int))=true:=decide_eq_true (by omega)
  clear hZ2 hrow
  generalize l.length=N at *
  subst hz
  go_enter Tryz.func208,Tryz.ntmps208
  go_wp2_with (first|(go_at_call 142;refine (CN.out _ _).mono ?_;rintro e w1 ⟨rfl,rfl⟩)|fail)
  go_ret
  exact ⟨HB0.out,.inr ⟨by decide,_,rfl⟩⟩
 rw [if_pos ⟨rfl,by omega,by omega⟩] at hZ2
 obtain ⟨b,o,rfl,hb,hs⟩:=hrow (by omega)
 obtain ⟨y,r,rfl⟩:∃ y r,l=y::r:=by
  match l,(show ¬ l.length<8 from h8) with
  | y::r,_=>exact ⟨y,r,rfl⟩
  | [],hh=>simp at hh
 rw [RdIs] at hs
 obtain ⟨⟨c0,c1,c2,c3,g0,g1,g2,g3,hy⟩,-⟩:=hs
 obtain ⟨ky,my,dy,ly⟩:=y
 obtain ⟨Ay,ndy,cdy,ALy,cly,ey,-⟩:=hy.open
 injection ey with ey
 simp only [Array.mk.injEq,List.cons.injEq,and_true] at ey
 obtain ⟨rfl,rfl,rfl,rfl⟩:=ey
 have e1:decide ((((Itm.mk ky my dy ly)::r).length:Int)<8)=false:=decide_eq_false (by omega)
 have e2:decide ((9:Int)<(((Itm.mk ky my dy ly)::r).length:Int))=false:=decide_eq_false (by omega)
 have e3:(0:Int)<(((Itm.mk ky my dy ly)::r).length:Int):=by omega
 have hlt:b<w.heap.size:=Nat.lt_of_lt_of_le hb hB
 have x0:=(World.cell?_alloc_lt w (.cells #[.int .i64 4,.int .u64 (m:Int),.slice A nd cd,.slice (some ⟨b,o,none⟩) ((Itm.mk ky my dy ly)::r).length cl] 30) ⟨b,o,none⟩ hlt).trans g0
 have x1:=(World.cell?_alloc_lt w (.cells #[.int .i64 4,.int .u64 (m:Int),.slice A nd cd,.slice (some ⟨b,o,none⟩) ((Itm.mk ky my dy ly)::r).length cl] 30) ⟨b,o+1,none⟩ hlt).trans g1
 replace hZ2:Z=(if ky=0 then if my=7 then (0:Int) else 61 else 60):=hZ2
 generalize ((Itm.mk ky my dy ly)::r).length=N at *
 clear g0 g1 g2 g3 hy hl hrow hb h8 h9
 by_cases h0:ky=0
 case neg =>
  have hz:Z=60:=by rw [hZ2,if_neg h0]
  have e4:(ky==0)=false:=by simpa using h0
  have e4':(ky != 0)=true:=by simpa using h0
  clear hZ2 h0
  subst hz
  go_enter Tryz.func208,Tryz.ntmps208
  go_wp2_with (first|(go_at_call 142;refine (CN.out _ _).mono ?_;rintro e w1 ⟨rfl,rfl⟩)|fail)
  go_ret
  exact ⟨HB0.out,.inr ⟨by decide,_,rfl⟩⟩
 subst h0
 rw [if_pos rfl] at hZ2
 by_cases h7:my=7
 ·
  have hz:Z=0:=by rw [hZ2,if_pos h7]
  have e4:((my:Int)==7)=true:=by rw [h7];rfl
  have e4':((my:Int) != 7)=false:=by rw [h7];rfl
  clear hZ2 h7
  subst hz
  go_enter Tryz.func208,Tryz.ntmps208
  go_wp2_with (first|(go_at_call 142;refine (CN.out _ _).mono ?_;rintro e w1 ⟨rfl,rfl⟩)|fail)
  go_ret
  exact ⟨HB0.out,.inl ⟨rfl,rfl⟩⟩
 ·
  have hz:Z=61:=by rw [hZ2,if_neg h7]
  have e4:((my:Int)==7)=false:=by simp;omega
  have e4':((my:Int) != 7)=true:=by simp;omega
  clear hZ2 h7
  subst hz
  go_enter Tryz.func208,Tryz.ntmps208
  go_wp2_with (first|(go_at_call 142;refine (CN.out _ _).mono ?_;rintro e w1 ⟨rfl,rfl⟩)|fail)
  go_ret
  exact ⟨HB0.out,.inr ⟨by decide,_,rfl⟩⟩
end Go.Proofs.YtlecbblmaadpiaaGreatDoor
