/- What compare of layer 5 returns. -/
import Derived.Test.YtldnokgdgafphaaGreatDoorJBlkF
import Derived.Test.YtldnokgdgafphaaGreatDoorJBlkF2
import Derived.Test.YtldnokgdgafphaaGreatDoorJEidF
import Derived.Test.YtldnokgdgafphaaGreatDoorJEidQ
import Derived.Test.YtldnokgdgafphaaGreatDoorJKDecL
import Derived.Test.YtldnokgdgafphaaGreatDoorJKRd
import Derived.Test.YtldnokgdgafphaaGreatDoorJMask
import Derived.BigQuiet
import Derived.Deep.QuietTactic
import Derived.Deep.RegionHeld3
namespace Go.Proofs.YtldnokgdgafphaaGreatDoor
open Go.RowKit
def WhyN (z:Int) (w:World) (e:Ending) (w':World):Prop:=Below w.heap.size w w'∧((z=0∧e=.returned .nilIface)∨(z≠0∧∃ s,e=.returned (bfl z s)))
theorem below_qN (B:Nat) (w:World) (k:Nat):Below B w (w.drewN k):=⟨rfl,rfl,rfl,Nat.le_refl _,fun _ _=>rfl⟩
set_option maxRecDepth 100000 in
set_option maxHeartbeats 4000000 in
theorem compare_any (A A':Option Addr) (n c n' c' B s:Nat) (u v:List UInt8) (w:World) (h:Rd w B A n u) (hc:n≤c) (h':Rd w B A' n' v) (hc':n'≤c') (hs:s≤n') (hn:n≤140737488355328) (hn':n'≤140737488355328) :
    Calls Tryz.prog 144 #[.slice A n c,.slice A' n' c',.int .i64 (s:Int)] w (WhyN (cmpB u v s) w):=by
  have hl:=h.1
  have hl':=h'.1
  by_cases e1:n=n'
  · subst e1
    obtain ⟨M,hM⟩:∃ M,M=n - s:=⟨_,rfl⟩
    have hMn:M≤n:=by omega
    obtain ⟨D1,d1,k1,-,-,r1⟩:=cut_h (P:=Tryz.prog) 31 5 Tryz.underlying31 size_u8 c h ((n:Int) - (s:Int)) M (by omega) hMn hc
    obtain ⟨D2,d2,k2,-,-,r2⟩:=cut_h (P:=Tryz.prog) 31 5 Tryz.underlying31 size_u8 c' h' ((n:Int) - (s:Int)) M (by omega) hMn hc'
    obtain ⟨D3,d3,k3,-,-,r3⟩:=cut_l (P:=Tryz.prog) 31 5 Tryz.underlying31 size_u8 c h ((n:Int) - (s:Int)) M (by omega) hMn hc
    obtain ⟨D4,d4,k4,-,-,r4⟩:=cut_l (P:=Tryz.prog) 31 5 Tryz.underlying31 size_u8 c' h' ((n:Int) - (s:Int)) M (by omega) hMn hc'
    have C1:=Lib.hid (fun W k (hb:Below B w W)=>Calls.quiet_of_same (n:=k) ((bequal_any D1 D2 M d1 M d2 B _ _ (W.drewN k) (r1.below (hb.trans (below_qN B W k))) (r2.below (hb.trans (below_qN B W k)))).mono (fun _ _ h=>⟨h.1,h.2.symm⟩)))
    have C2:=Lib.hid (fun W k (hb:Below B w W)=>Calls.quiet_of_same (n:=k) ((bequal_any D3 D4 (n - M) d3 (n - M) d4 B _ _ (W.drewN k) (r3.below (hb.trans (below_qN B W k))) (r4.below (hb.trans (below_qN B W k)))).mono (fun _ _ h=>⟨h.1,h.2.symm⟩)))
    have hcmp:cmpB u v s=if (u.take M==v.take M)=false then 50 else if (u.drop M==v.drop M)=false then 51 else 0:=by
      unfold cmpB
      rw [hl',← hM]
      by_cases q1:u.take M=v.take M
      · rw [if_neg (by simp [hl,q1])]
        by_cases q2:u.drop M=v.drop M
        · rw [if_neg (by simp [q2]),if_neg (by simp [q1]),if_neg (by simp [q2])]
        · rw [if_pos q2,if_neg (by simp [q1]),if_pos (by simpa using q2)]
      · rw [if_pos (.inr q1),if_pos (by simpa using q1)]
    rw [hcmp]
    generalize (u.take M==v.take M)=b1 at *
    generalize (u.drop M==v.drop M)=b2 at *
    have HB:=Lib.hid (below_qN w.heap.size w)
    clear hcmp r1 r2 r3 r4 h h' hl hl' hc hc' hM
    cases b1 with
    | false =>
      rw [if_pos rfl]
      have Q1:=Lib.hid (fun k=>C1.out w k (Below.refl _ _))
      go_enter Tryz.func144,Tryz.ntmps144
      go_wp2_with fail
      go_quiet (first | (go_at_call 123;exact Q1.out _) | fail)
      go_wp2_with fail
      go_ret
      exact ⟨HB.out _,.inr ⟨by decide,_,rfl⟩⟩
    | true =>
      rw [if_neg (by decide)]
      have Q1:=Lib.hid (fun k=>C1.out w k (Below.refl _ _))
      have Q2:=Lib.hid (fun W (hb:Below B w W) k=>C2.out W k hb)
      have HQ:=Lib.hid (below_qN B w)
      clear C1 C2
      cases b2 with
      | false =>
        rw [if_pos rfl]
        go_enter Tryz.func144,Tryz.ntmps144
        go_wp2_with fail
        go_quiet (first | (go_at_call 123;exact Q1.out _) | fail)
        go_wp2_with fail
        have Q3:=Lib.hid (Q2.out _ (HQ.out nq))
        have HB1:=Lib.hid (HB.out nq)
        generalize w.drewN nq=W1 at *
        go_quiet (first | (go_at_call 123;exact Q3.out _) | fail)
        go_wp2_with fail
        go_ret
        exact ⟨HB1.out.trans (below_qN _ _ _),.inr ⟨by decide,_,rfl⟩⟩
      | true =>
        rw [if_neg (by decide)]
        go_enter Tryz.func144,Tryz.ntmps144
        go_wp2_with fail
        go_quiet (first | (go_at_call 123;exact Q1.out _) | fail)
        go_wp2_with fail
        have Q3:=Lib.hid (Q2.out _ (HQ.out nq))
        have HB1:=Lib.hid (HB.out nq)
        generalize w.drewN nq=W1 at *
        go_quiet (first | (go_at_call 123;exact Q3.out _) | fail)
        go_wp2_with fail
        go_ret
        exact ⟨HB1.out.trans (below_qN _ _ _),.inl ⟨rfl,rfl⟩⟩
  · have hcmp:cmpB u v s=50:=by unfold cmpB;rw [if_pos (.inl (by rw [hl,hl'];exact e1))]
    rw [hcmp]
    have hne:((n:Int)==(n':Int))=false:=by rw [beq_eq_false_iff_ne];omega
    have hne2:¬ (n:Int)=(n':Int):=by omega
    have HB:=Lib.hid (below_qN w.heap.size w)
    clear hcmp h h' hl hl'
    generalize (n' - s:Nat)=M at *
    go_enter Tryz.func144,Tryz.ntmps144
    go_wp2_with fail
    go_quiet (fail)
    go_wp2_with fail
    go_ret
    exact ⟨HB.out _,.inr ⟨by decide,_,rfl⟩⟩
end Go.Proofs.YtldnokgdgafphaaGreatDoor
/- What read of layer 5 returns. -/
namespace Go.Proofs.YtldnokgdgafphaaGreatDoor
open Go.RowKit
theorem Rd.off5 {W:World} {g n B:Nat} {t:TypeId} {A:Option Addr} {l:List UInt8} (hW:W.heap[g]?=some (.cells #[.int .u64 0,.int .u64 0,.int .u64 0,.int .i64 0,.slice none 0 0] t)) (h:Rd W B A n l):0<n→∀ b o,A=some ⟨b,o,none⟩→¬ g=b:=by
  intro hn b o hA e
  obtain ⟨b',o',e',_,hc⟩:=h.2 hn
  rw [hA] at e'
  cases e'
  subst e
  have h0:=hc 0 hn
  rw [Nat.add_zero] at h0
  unfold World.cell? at h0
  simp only [hW] at h0
  match o,h0 with
  | 0,h=>simp at h
  | 1,h=>simp at h
  | 2,h=>simp at h
  | 3,h=>simp at h
  | 4,h=>simp at h
  | _+5,h=>simp at h
theorem Rd.put5 {W:World} {B B' n g:Nat} {A:Option Addr} {l:List UInt8} {u0 u1 u2 u3 u4:Value} (h:Rd W B A n l) (hB:B≤B') (hA:0<n→∀ b o,A=some ⟨b,o,none⟩→¬ g=b) :
    Rd (((((W.setCell ⟨g,0,none⟩ u0).setCell ⟨g,1,none⟩ u1).setCell ⟨g,2,none⟩ u2).setCell ⟨g,3,none⟩ u3).setCell ⟨g,4,none⟩ u4) B' A n l :=
  ⟨h.1,fun hn=>by
    obtain ⟨b,o,e,hb,hc⟩:=h.2 hn
    exact ⟨b,o,e,by omega,fun i hi=>put5_cell (hc i hi) (hA hn b o e)⟩⟩
theorem compare_ok (A A':Option Addr) (n c n' c' s:Nat) (u v:List UInt8) (w:World) (h:Rd w w.heap.size A n u) (hc:n≤c) (h':Rd w w.heap.size A' n' v) (hc':n'≤c') (hs:s≤n') (hn:n≤140737488355328) (hn':n'≤140737488355328) (hz:cmpB u v s=0) :
    Calls Tryz.prog 144 #[.slice A n c,.slice A' n' c',.int .i64 (s:Int)] w fun e w'=>e=.returned .nilIface∧Below w.heap.size w w' :=
  (compare_any A A' n c n' c' w.heap.size s u v w h hc h' hc' hs hn hn').mono fun e w' hh=>by
    rw [hz] at hh
    rcases hh.2 with ⟨-,h2⟩ | ⟨h2,-⟩
    · exact ⟨h2,hh.1⟩
    · exact absurd rfl h2
theorem compare_no (A A':Option Addr) (n c n' c' s:Nat) (u v:List UInt8) (w:World) (h:Rd w w.heap.size A n u) (hc:n≤c) (h':Rd w w.heap.size A' n' v) (hc':n'≤c') (hs:s≤n') (hn:n≤140737488355328) (hn':n'≤140737488355328) (hz:cmpB u v s≠0) :
    Calls Tryz.prog 144 #[.slice A n c,.slice A' n' c',.int .i64 (s:Int)] w fun e w'=>∃ q,e=.returned (bfl (cmpB u v s) q)∧Below w.heap.size w w' :=
  (compare_any A A' n c n' c' w.heap.size s u v w h hc h' hc' hs hn hn').mono fun e w' hh=>by
    rcases hh.2 with ⟨h2,-⟩ | ⟨-,q,h2⟩
    · exact absurd h2 hz
    · exact ⟨q,h2,hh.1⟩
theorem decB_err {l:List UInt8} {z:Int} (h:decode l=(.zero,0,z)) (hz:z≠0):decB l=(.zero,0,z):=by
  unfold decB;rw [h];rw [if_pos hz]
theorem decB_not {l:List UInt8} {x:Itm} {n:Int} (h:decode l=(x,n,0)) (hz:blkOk (takenB x)=false):decB l=(.zero,0,50):=by
  unfold decB;rw [h];rw [if_neg (by simp),if_pos hz]
theorem decB_cmp {l:List UInt8} {x:Itm} {n:Nat} (h:decode l=(x,(n:Int),0)) (hz:blkOk (takenB x)=true) :
    decB l=if cmpB (l.take n) (blkW (takenB x)) (sumN (takenB x).crc)≠0 then (.zero,0,cmpB (l.take n) (blkW (takenB x)) (sumN (takenB x).crc)) else (takenB x,(n:Int),0):=by
  unfold decB;rw [h];simp only [Int.toNat_natCast];rw [if_neg (by simp),if_neg (by rw [hz];decide)]
end Go.Proofs.YtldnokgdgafphaaGreatDoor
/- What Decode of layer 5 returns. -/
namespace Go.Proofs.YtldnokgdgafphaaGreatDoor
open Go.RowKit
end Go.Proofs.YtldnokgdgafphaaGreatDoor
/- Bundles and their blocks as values and in memory. (Made by gen/bun.py.) -/
namespace Go.Proofs.YtldnokgdgafphaaGreatDoor
open Go.RowKit
/-! ### Blocks in memory -/
structure RdK (w:World) (B b o:Nat) (x:Blk) (A:Option Addr) (nd cd:Nat):Prop where
  k0:w.cell? ⟨b,o,none⟩=some (.int .u64 (x.typ:Int))
  k1:w.cell? ⟨b,o+1,none⟩=some (.int .u64 (x.num:Int))
  k2:w.cell? ⟨b,o+2,none⟩=some (.int .u64 (x.flg:Int))
  k3:w.cell? ⟨b,o+3,none⟩=some (.int .i64 x.crc)
  k4:w.cell? ⟨b,o+4,none⟩=some (.slice A nd cd)
  bd:Bd x
  le:nd≤cd∧nd≤140737488355328
  rd:Rd w B A nd x.dat
theorem RdK.below {w w':World} {B b o nd cd:Nat} {x:Blk} {A:Option Addr} (h:RdK w B b o x A nd cd) (hb:Below B w w') (hB:b<B):RdK w' B b o x A nd cd :=
  ⟨(hb.cell hB).trans h.k0,(hb.cell hB).trans h.k1,(hb.cell hB).trans h.k2,(hb.cell hB).trans h.k3,(hb.cell hB).trans h.k4,h.bd,h.le,h.rd.below hb⟩
theorem RdK.more {w:World} {B B' b o nd cd:Nat} {x:Blk} {A:Option Addr} (h:RdK w B b o x A nd cd) (hB:B≤B'):RdK w B' b o x A nd cd :=
  ⟨h.k0,h.k1,h.k2,h.k3,h.k4,h.bd,h.le,h.rd.more hB⟩
def RdKs (w:World) (B b:Nat):Nat→List Blk→Prop
  | _,[]=>True
  | o,x::r=>(∃ A nd cd,RdK w B b o x A nd cd)∧RdKs w B b (o+5) r
theorem RdKs.below {w w':World} {B b:Nat} (hb:Below B w w') (hB:b<B):∀ {l:List Blk} {o:Nat},RdKs w B b o l→RdKs w' B b o l
  | [],_,_=>trivial
  | _::_,_,⟨⟨A,nd,cd,h⟩,hr⟩=>⟨⟨A,nd,cd,h.below hb hB⟩,RdKs.below hb hB hr⟩
theorem RdKs.more {w:World} {B B' b:Nat} (hB:B≤B'):∀ {l:List Blk} {o:Nat},RdKs w B b o l→RdKs w B' b o l
  | [],_,_=>trivial
  | _::_,_,⟨⟨A,nd,cd,h⟩,hr⟩=>⟨⟨A,nd,cd,h.more hB⟩,RdKs.more hB hr⟩
theorem RdKs.get {w:World} {B b:Nat}:∀ {l:List Blk} {o:Nat},RdKs w B b o l→∀ i (hi:i<l.length),∃ A nd cd,RdK w B b (o+i * 5) (l[i]'hi) A nd cd
  | x::r,o,⟨h,hr⟩,0,_=>by simpa using h
  | x::r,o,⟨h,hr⟩,i+1,hi=>by
    have:=RdKs.get hr i (Nat.lt_of_succ_lt_succ hi)
    rw [show o+(i+1) * 5=o+5+i * 5 by omega]
    simpa using this
theorem RdKs.of_get {w:World} {B b:Nat}:∀ {l:List Blk} {o:Nat},(∀ i (hi:i<l.length),∃ A nd cd,RdK w B b (o+i * 5) (l[i]'hi) A nd cd)→RdKs w B b o l
  | [],_,_=>trivial
  | x::r,o,h=>⟨by have:=h 0 (by simp);rw [Nat.zero_mul,Nat.add_zero] at this;exact this,RdKs.of_get fun i hi=>by
      have:=h (i+1) (by simpa using hi)
      rw [show o+(i+1) * 5=o+5+i * 5 by omega] at this
      simpa using this⟩
def RdL (w:World) (B:Nat) (A:Option Addr) (n:Nat) (l:List Blk):Prop:=l.length=n∧(0<n→∃ b o,A=some ⟨b,o,none⟩∧b<B∧RdKs w B b o l)∧n≤140737488355328
theorem RdL.below {w w':World} {B n:Nat} {A:Option Addr} {l:List Blk} (h:RdL w B A n l) (hb:Below B w w'):RdL w' B A n l :=
  ⟨h.1,fun hn=>by obtain ⟨b,o,e,h1,h2⟩:=h.2.1 hn;exact ⟨b,o,e,h1,h2.below hb h1⟩,h.2.2⟩
theorem RdL.more {w:World} {B B' n:Nat} {A:Option Addr} {l:List Blk} (h:RdL w B A n l) (hB:B≤B'):RdL w B' A n l :=
  ⟨h.1,fun hn=>by obtain ⟨b,o,e,h1,h2⟩:=h.2.1 hn;exact ⟨b,o,e,Nat.lt_of_lt_of_le h1 hB,h2.more hB⟩,h.2.2⟩
theorem RdL.nil_ {w:World} {B:Nat} {A:Option Addr}:RdL w B A 0 []:=⟨rfl,fun h=>absurd h (Nat.lt_irrefl 0),Nat.zero_le _⟩
theorem RdL.take {w:World} {B n:Nat} {A:Option Addr} {l:List Blk} (h:RdL w B A n l) (i:Nat) (hi:i≤n):RdL w B A i (l.take i):=by
  obtain ⟨h1,h2,h3⟩:=h
  refine ⟨by rw [List.length_take];omega,fun h0=>?_,by omega⟩
  obtain ⟨b,o,e,hb,hk⟩:=h2 (by omega)
  refine ⟨b,o,e,hb,RdKs.of_get fun j hj=>?_⟩
  have hjl:j<l.length:=by rw [List.length_take] at hj;omega
  have:=hk.get j hjl
  rw [List.getElem_take]
  exact this
/-! ### Bundles' heads: all but the blocks -/
structure BH where
  flg:Nat
  crc:Int
  dsc:Int
  dnm:ByteArray
  dn:Nat
  dv:Nat
  ssc:Int
  snm:ByteArray
  sn:Nat
  sv:Nat
  rsc:Int
  rnm:ByteArray
  rn:Nat
  rv:Nat
  tim:Nat
  seq:Nat
  lif:Nat
def BH.zero:BH:=⟨0,0,0,⟨#[]⟩,0,0,0,⟨#[]⟩,0,0,0,⟨#[]⟩,0,0,0,0,0⟩
def BH.dst (h:BH):Epd:=ep h.dsc h.dnm h.dn h.dv
def BH.src (h:BH):Epd:=ep h.ssc h.snm h.sn h.sv
def BH.rep (h:BH):Epd:=ep h.rsc h.rnm h.rn h.rv
def BH.bun (h:BH) (l:List Blk):Bun:=⟨h.flg,h.crc,h.dst,h.src,h.rep,h.tim,h.seq,h.lif,l⟩
structure BH.Bd (h:BH):Prop where
  flg:h.flg<18446744073709551616
  dnm:h.dnm.size≤140737488355328
  dn:h.dn<18446744073709551616
  dv:h.dv<18446744073709551616
  snm:h.snm.size≤140737488355328
  sn:h.sn<18446744073709551616
  sv:h.sv<18446744073709551616
  rnm:h.rnm.size≤140737488355328
  rn:h.rn<18446744073709551616
  rv:h.rv<18446744073709551616
  tim:h.tim<18446744073709551616
  seq:h.seq<18446744073709551616
  lif:h.lif<18446744073709551616
def bunV (h:BH) (A:Option Addr) (n c:Nat):Value:=.agg #[.int .u64 (h.flg:Int),.int .i64 h.crc,.int .i64 h.dsc,.string h.dnm,.int .u64 (h.dn:Int),.int .u64 (h.dv:Int),.int .i64 h.ssc,.string h.snm,.int .u64 (h.sn:Int),.int .u64 (h.sv:Int),.int .i64 h.rsc,.string h.rnm,.int .u64 (h.rn:Int),.int .u64 (h.rv:Int),.int .u64 (h.tim:Int),.int .u64 (h.seq:Int),.int .u64 (h.lif:Int),.slice A n c]
theorem box18 {w w':World} {c0:Value} {c1:Value} {c2:Value} {c3:Value} {c4:Value} {c5:Value} {c6:Value} {c7:Value} {c8:Value} {c9:Value} {c10:Value} {c11:Value} {c12:Value} {c13:Value} {c14:Value} {c15:Value} {c16:Value} {c17:Value} {t:TypeId} {g:Nat} (hg:g=w.heap.size) (h:Below (g+1) (w.alloc (.cells #[c0,c1,c2,c3,c4,c5,c6,c7,c8,c9,c10,c11,c12,c13,c14,c15,c16,c17] t)) w') :
    w'.cell? ⟨g,0,none⟩=some c0∧w'.cell? ⟨g,1,none⟩=some c1∧w'.cell? ⟨g,2,none⟩=some c2∧w'.cell? ⟨g,3,none⟩=some c3∧w'.cell? ⟨g,4,none⟩=some c4∧w'.cell? ⟨g,5,none⟩=some c5∧w'.cell? ⟨g,6,none⟩=some c6∧w'.cell? ⟨g,7,none⟩=some c7∧w'.cell? ⟨g,8,none⟩=some c8∧w'.cell? ⟨g,9,none⟩=some c9∧w'.cell? ⟨g,10,none⟩=some c10∧w'.cell? ⟨g,11,none⟩=some c11∧w'.cell? ⟨g,12,none⟩=some c12∧w'.cell? ⟨g,13,none⟩=some c13∧w'.cell? ⟨g,14,none⟩=some c14∧w'.cell? ⟨g,15,none⟩=some c15∧w'.cell? ⟨g,16,none⟩=some c16∧w'.cell? ⟨g,17,none⟩=some c17:=by
  subst hg
  refine ⟨?_,?_,?_,?_,?_,?_,?_,?_,?_,?_,?_,?_,?_,?_,?_,?_,?_,?_⟩ <;> (rw [h.cell (Nat.lt_succ_self _),World.cell?_alloc_at _ _ _ _ rfl];rfl)
theorem zero18 {w W':World} {g:Nat} (hg:g=w.heap.size) (h:Below (g+1) (w.alloc (.cells #[.int .u64 0,.int .i64 0,.int .i64 0,.string ⟨#[]⟩,.int .u64 0,.int .u64 0,.int .i64 0,.string ⟨#[]⟩,.int .u64 0,.int .u64 0,.int .i64 0,.string ⟨#[]⟩,.int .u64 0,.int .u64 0,.int .u64 0,.int .u64 0,.int .u64 0,.slice none 0 0] 28)) W') :
    (W'.frozen? ⟨g,0,none⟩=false∧W'.frozen? ⟨g,1,none⟩=false∧W'.frozen? ⟨g,2,none⟩=false∧W'.frozen? ⟨g,3,none⟩=false∧W'.frozen? ⟨g,4,none⟩=false∧W'.frozen? ⟨g,5,none⟩=false∧W'.frozen? ⟨g,6,none⟩=false∧W'.frozen? ⟨g,7,none⟩=false∧W'.frozen? ⟨g,8,none⟩=false∧W'.frozen? ⟨g,9,none⟩=false∧W'.frozen? ⟨g,10,none⟩=false∧W'.frozen? ⟨g,11,none⟩=false∧W'.frozen? ⟨g,12,none⟩=false∧W'.frozen? ⟨g,13,none⟩=false∧W'.frozen? ⟨g,14,none⟩=false∧W'.frozen? ⟨g,15,none⟩=false∧W'.frozen? ⟨g,16,none⟩=false∧W'.frozen? ⟨g,17,none⟩=false):=by
  subst hg
  exact ⟨(h.frozen (p:=⟨w.heap.size,0,none⟩) (Nat.lt_succ_self _)).trans (by simp),(h.frozen (p:=⟨w.heap.size,1,none⟩) (Nat.lt_succ_self _)).trans (by simp),(h.frozen (p:=⟨w.heap.size,2,none⟩) (Nat.lt_succ_self _)).trans (by simp),(h.frozen (p:=⟨w.heap.size,3,none⟩) (Nat.lt_succ_self _)).trans (by simp),(h.frozen (p:=⟨w.heap.size,4,none⟩) (Nat.lt_succ_self _)).trans (by simp),(h.frozen (p:=⟨w.heap.size,5,none⟩) (Nat.lt_succ_self _)).trans (by simp),(h.frozen (p:=⟨w.heap.size,6,none⟩) (Nat.lt_succ_self _)).trans (by simp),(h.frozen (p:=⟨w.heap.size,7,none⟩) (Nat.lt_succ_self _)).trans (by simp),(h.frozen (p:=⟨w.heap.size,8,none⟩) (Nat.lt_succ_self _)).trans (by simp),(h.frozen (p:=⟨w.heap.size,9,none⟩) (Nat.lt_succ_self _)).trans (by simp),(h.frozen (p:=⟨w.heap.size,10,none⟩) (Nat.lt_succ_self _)).trans (by simp),(h.frozen (p:=⟨w.heap.size,11,none⟩) (Nat.lt_succ_self _)).trans (by simp),(h.frozen (p:=⟨w.heap.size,12,none⟩) (Nat.lt_succ_self _)).trans (by simp),(h.frozen (p:=⟨w.heap.size,13,none⟩) (Nat.lt_succ_self _)).trans (by simp),(h.frozen (p:=⟨w.heap.size,14,none⟩) (Nat.lt_succ_self _)).trans (by simp),(h.frozen (p:=⟨w.heap.size,15,none⟩) (Nat.lt_succ_self _)).trans (by simp),(h.frozen (p:=⟨w.heap.size,16,none⟩) (Nat.lt_succ_self _)).trans (by simp),(h.frozen (p:=⟨w.heap.size,17,none⟩) (Nat.lt_succ_self _)).trans (by simp)⟩
/-! ### The world -/
structure Wd (S:Snt) (w:World):Prop where
  lds:Lds S w
  laid:LaidE w
theorem Wd.below {S:Snt} {w w':World} {B:Nat} (h:Wd S w) (hb:Below B w w') (hB:w.heap.size≤B):Wd S w' :=
  ⟨h.lds.below hb hB,h.laid.below hb (Nat.lt_of_lt_of_le h.laid.lt hB)⟩
theorem Wd.alloc {S:Snt} {w:World} (h:Wd S w) (o:Obj):Wd S (w.alloc o):=h.below ((Below.refl _ _).alloc (Nat.le_refl _) o) (Nat.le_refl _)
theorem Below.push {B:Nat} {W0 w1 w2:World} (h:Below B W0 w1) (hB:B≤W0.heap.size) (h2:Below w1.heap.size w1 w2):Below B W0 w2 :=
  h.trans (h2.mono (Nat.le_trans hB h.size))
def WhyU (z:Int) (w:World) (e:Ending) (w':World):Prop:=Below w.heap.size w w'∧((z=0∧e=.returned .nilIface)∨(z≠0∧∃ s,e=.returned (ufl z s)))
end Go.Proofs.YtldnokgdgafphaaGreatDoor
/- What compare of layer 6 returns. -/
namespace Go.Proofs.YtldnokgdgafphaaGreatDoor
open Go.RowKit
def cmpU (u w:List UInt8) (s:Nat):Int:=if u.length≠w.length∨u.take (w.length - s)≠w.take (w.length - s) then 60 else if u.drop (w.length - s)≠w.drop (w.length - s) then 51 else 0
theorem cmpU_0 {u w:List UInt8} {s:Nat} (h:cmpU u w s=0):u=w:=by
  unfold cmpU at h
  split at h
  · cases h
  · split at h
    · cases h
    · rename_i h1 h2
      have a1:u.take (w.length - s)=w.take (w.length - s):=Classical.not_not.1 fun hh=>h1 (.inr hh)
      have a2:u.drop (w.length - s)=w.drop (w.length - s):=Classical.not_not.1 h2
      rw [← List.take_append_drop (w.length - s) w,← a1,← a2,List.take_append_drop]
theorem cmpU_same (u:List UInt8) (s:Nat):cmpU u u s=0:=by unfold cmpU;simp
set_option maxRecDepth 100000 in
set_option maxHeartbeats 4000000 in
theorem ucompare_any (A A':Option Addr) (n c n' c' B s:Nat) (u v:List UInt8) (w:World) (h:Rd w B A n u) (hc:n≤c) (h':Rd w B A' n' v) (hc':n'≤c') (hs:s≤n') (hn:n≤140737488355328) (hn':n'≤140737488355328) :
    Calls Tryz.prog 103 #[.slice A n c,.slice A' n' c',.int .i64 (s:Int)] w (WhyU (cmpU u v s) w):=by
  have CN:=Lib.hid unone_any
  have hl:=h.1
  have hl':=h'.1
  by_cases e1:n=n'
  · subst e1
    obtain ⟨M,hM⟩:∃ M,M=n - s:=⟨_,rfl⟩
    have hMn:M≤n:=by omega
    obtain ⟨D1,d1,k1,-,-,r1⟩:=cut_h (P:=Tryz.prog) 31 5 Tryz.underlying31 size_u8 c h ((n:Int) - (s:Int)) M (by omega) hMn hc
    obtain ⟨D2,d2,k2,-,-,r2⟩:=cut_h (P:=Tryz.prog) 31 5 Tryz.underlying31 size_u8 c' h' ((n:Int) - (s:Int)) M (by omega) hMn hc'
    obtain ⟨D3,d3,k3,-,-,r3⟩:=cut_l (P:=Tryz.prog) 31 5 Tryz.underlying31 size_u8 c h ((n:Int) - (s:Int)) M (by omega) hMn hc
    obtain ⟨D4,d4,k4,-,-,r4⟩:=cut_l (P:=Tryz.prog) 31 5 Tryz.underlying31 size_u8 c' h' ((n:Int) - (s:Int)) M (by omega) hMn hc'
    have C1:=Lib.hid (fun W k (hb:Below B w W)=>Calls.quiet_of_same (n:=k) ((bequal_any D1 D2 M d1 M d2 B _ _ (W.drewN k) (r1.below (hb.trans (below_qN B W k))) (r2.below (hb.trans (below_qN B W k)))).mono (fun _ _ h=>⟨h.1,h.2.symm⟩)))
    have C2:=Lib.hid (fun W k (hb:Below B w W)=>Calls.quiet_of_same (n:=k) ((bequal_any D3 D4 (n - M) d3 (n - M) d4 B _ _ (W.drewN k) (r3.below (hb.trans (below_qN B W k))) (r4.below (hb.trans (below_qN B W k)))).mono (fun _ _ h=>⟨h.1,h.2.symm⟩)))
    have hcmp:cmpU u v s=if (u.take M==v.take M)=false then 60 else if (u.drop M==v.drop M)=false then 51 else 0:=by
      unfold cmpU
      rw [hl',← hM]
      by_cases q1:u.take M=v.take M
      · rw [if_neg (by simp [hl,q1])]
        by_cases q2:u.drop M=v.drop M
        · rw [if_neg (by simp [q2]),if_neg (by simp [q1]),if_neg (by simp [q2])]
        · rw [if_pos q2,if_neg (by simp [q1]),if_pos (by simpa using q2)]
      · rw [if_pos (.inr q1),if_pos (by simpa using q1)]
    rw [hcmp]
    generalize (u.take M==v.take M)=b1 at *
    generalize (u.drop M==v.drop M)=b2 at *
    have HB:=Lib.hid (below_qN w.heap.size w)
    clear hcmp r1 r2 r3 r4 h h' hl hl' hc hc' hM
    cases b1 with
    | false =>
      rw [if_pos rfl]
      have Q1:=Lib.hid (fun k=>C1.out w k (Below.refl _ _))
      go_enter Tryz.func103,Tryz.ntmps103
      go_wp2_with (first | (go_at_call 47;refine (CN.out _ _).mono ?_;rintro e w1 ⟨rfl,rfl⟩) | fail)
      go_quiet (first | (go_at_call 123;exact Q1.out _) | fail)
      go_wp2_with (first | (go_at_call 47;refine (CN.out _ _).mono ?_;rintro e w1 ⟨rfl,rfl⟩) | fail)
      go_ret
      exact ⟨HB.out _,.inr ⟨by decide,_,rfl⟩⟩
    | true =>
      rw [if_neg (by decide)]
      have Q1:=Lib.hid (fun k=>C1.out w k (Below.refl _ _))
      have Q2:=Lib.hid (fun W (hb:Below B w W) k=>C2.out W k hb)
      have HQ:=Lib.hid (below_qN B w)
      clear C1 C2
      cases b2 with
      | false =>
        rw [if_pos rfl]
        go_enter Tryz.func103,Tryz.ntmps103
        go_wp2_with (first | (go_at_call 47;refine (CN.out _ _).mono ?_;rintro e w1 ⟨rfl,rfl⟩) | fail)
        go_quiet (first | (go_at_call 123;exact Q1.out _) | fail)
        go_wp2_with (first | (go_at_call 47;refine (CN.out _ _).mono ?_;rintro e w1 ⟨rfl,rfl⟩) | fail)
        have Q3:=Lib.hid (Q2.out _ (HQ.out nq))
        have HB1:=Lib.hid (HB.out nq)
        generalize w.drewN nq=W1 at *
        go_quiet (first | (go_at_call 123;exact Q3.out _) | fail)
        go_wp2_with (first | (go_at_call 47;refine (CN.out _ _).mono ?_;rintro e w1 ⟨rfl,rfl⟩) | fail)
        go_ret
        exact ⟨HB1.out.trans (below_qN _ _ _),.inr ⟨by decide,_,rfl⟩⟩
      | true =>
        rw [if_neg (by decide)]
        go_enter Tryz.func103,Tryz.ntmps103
        go_wp2_with (first | (go_at_call 47;refine (CN.out _ _).mono ?_;rintro e w1 ⟨rfl,rfl⟩) | fail)
        go_quiet (first | (go_at_call 123;exact Q1.out _) | fail)
        go_wp2_with (first | (go_at_call 47;refine (CN.out _ _).mono ?_;rintro e w1 ⟨rfl,rfl⟩) | fail)
        have Q3:=Lib.hid (Q2.out _ (HQ.out nq))
        have HB1:=Lib.hid (HB.out nq)
        generalize w.drewN nq=W1 at *
        go_quiet (first | (go_at_call 123;exact Q3.out _) | fail)
        go_wp2_with (first | (go_at_call 47;refine (CN.out _ _).mono ?_;rintro e w1 ⟨rfl,rfl⟩) | fail)
        go_ret
        exact ⟨HB1.out.trans (below_qN _ _ _),.inl ⟨rfl,rfl⟩⟩
  · have hcmp:cmpU u v s=60:=by unfold cmpU;rw [if_pos (.inl (by rw [hl,hl'];exact e1))]
    rw [hcmp]
    have hne:((n:Int)==(n':Int))=false:=by rw [beq_eq_false_iff_ne];omega
    have hne2:¬ (n:Int)=(n':Int):=by omega
    have HB:=Lib.hid (below_qN w.heap.size w)
    clear hcmp h h' hl hl'
    generalize (n' - s:Nat)=M at *
    go_enter Tryz.func103,Tryz.ntmps103
    go_wp2_with (first | (go_at_call 47;refine (CN.out _ _).mono ?_;rintro e w1 ⟨rfl,rfl⟩) | fail)
    go_quiet (fail)
    go_wp2_with (first | (go_at_call 47;refine (CN.out _ _).mono ?_;rintro e w1 ⟨rfl,rfl⟩) | fail)
    go_ret
    exact ⟨HB.out _,.inr ⟨by decide,_,rfl⟩⟩
end Go.Proofs.YtldnokgdgafphaaGreatDoor
/- What checkVersion of layer 6 returns. (Made by gen/bun.py.) -/
namespace Go.Proofs.YtldnokgdgafphaaGreatDoor
open Go.RowKit
def verL:List Itm→Int
  | y::_=>if y.kind=0 then if y.num=7 then 0 else 61 else 60
  | []=>60
def verB (x:Itm):Int:=if x.kind=4∧8≤x.list.length∧x.list.length≤9 then verL x.list else 60
theorem verB_itmP {b:Bun} {s:List UInt8}:verB (itmP b s)=0:=by
  unfold verB itmP partsP
  by_cases h:b.crc=0
  · simp only [if_pos h];rfl
  · simp only [if_neg h];rfl
theorem verB_0 {x:Itm} (h:verB x=0):8≤x.list.length:=by
  unfold verB at h
  split at h
  · rename_i hh;exact hh.2.1
  · cases h
set_option maxRecDepth 100000 in
set_option maxHeartbeats 4000000 in
theorem uver_any (x:Itm) (v:Value) (B:Nat) (w:World) (hB:B≤w.heap.size) (h:RdI w B v x) :
    Calls Tryz.prog 101 #[v] w (WhyU (verB x) w):=by
  obtain ⟨k,m,d,l⟩:=x
  obtain ⟨A,nd,cd,AL,cl,rfl,-,-,-,-,hl,hrow⟩:=h.open
  have CN:=Lib.hid unone_any
  have HB0:=Lib.hid ((Below.refl w.heap.size w).alloc (Nat.le_refl _) (.cells #[.int .i64 k,.int .u64 (m:Int),.slice A nd cd,.slice AL l.length cl] 88))
  clear h
  obtain ⟨Z,hZ⟩:∃ Z,Z=verB (.mk k m d l):=⟨_,rfl⟩
  rw [← hZ]
  have hZ2:Z=if k=4∧8≤l.length∧l.length≤9 then verL l else 60:=hZ
  clear hZ
  by_cases h1:k=4
  case neg =>
    have hz:Z=60:=by rw [hZ2,if_neg (fun hh=>h1 hh.1)]
    have e1:(k==4)=false:=by simpa using h1
    have e1':(k != 4)=true:=by simpa using h1
    clear hZ2 hrow h1
    subst hz
    go_enter Tryz.func101,Tryz.ntmps101
    go_wp2_with (first | (go_at_call 47;refine (CN.out _ _).mono ?_;rintro e w1 ⟨rfl,rfl⟩) | fail)
    go_ret
    exact ⟨HB0.out,.inr ⟨by decide,_,rfl⟩⟩
  subst h1
  by_cases h8:l.length<8
  · have hz:Z=60:=by rw [hZ2,if_neg (fun hh=>by omega)]
    have e1:decide ((l.length:Int)<8)=true:=decide_eq_true (by omega)
    clear hZ2 hrow
    generalize l.length=N at *
    subst hz
    go_enter Tryz.func101,Tryz.ntmps101
    go_wp2_with (first | (go_at_call 47;refine (CN.out _ _).mono ?_;rintro e w1 ⟨rfl,rfl⟩) | fail)
    go_ret
    exact ⟨HB0.out,.inr ⟨by decide,_,rfl⟩⟩
  by_cases h9:9<l.length
  · have hz:Z=60:=by rw [hZ2,if_neg (fun hh=>by omega)]
    have e1:decide ((l.length:Int)<8)=false:=decide_eq_false (by omega)
    have e2:decide ((9:Int)<(l.length:Int))=true:=decide_eq_true (by omega)
    clear hZ2 hrow
    generalize l.length=N at *
    subst hz
    go_enter Tryz.func101,Tryz.ntmps101
    go_wp2_with (first | (go_at_call 47;refine (CN.out _ _).mono ?_;rintro e w1 ⟨rfl,rfl⟩) | fail)
    go_ret
    exact ⟨HB0.out,.inr ⟨by decide,_,rfl⟩⟩
  rw [if_pos ⟨rfl,by omega,by omega⟩] at hZ2
  obtain ⟨b,o,rfl,hb,hs⟩:=hrow (by omega)
  obtain ⟨y,r,rfl⟩:∃ y r,l=y::r:=by
    match l,(show ¬ l.length<8 from h8) with
    | y::r,_=>exact ⟨y,r,rfl⟩
    | [],hh=>simp at hh
  rw [RdIs] at hs
  obtain ⟨⟨c0,c1,c2,c3,g0,g1,g2,g3,hy⟩,-⟩:=hs
  obtain ⟨ky,my,dy,ly⟩:=y
  obtain ⟨Ay,ndy,cdy,ALy,cly,ey,-⟩:=hy.open
  injection ey with ey
  simp only [Array.mk.injEq,List.cons.injEq,and_true] at ey
  obtain ⟨rfl,rfl,rfl,rfl⟩:=ey
  have e1:decide ((((Itm.mk ky my dy ly)::r).length:Int)<8)=false:=decide_eq_false (by omega)
  have e2:decide ((9:Int)<(((Itm.mk ky my dy ly)::r).length:Int))=false:=decide_eq_false (by omega)
  have e3:(0:Int)<(((Itm.mk ky my dy ly)::r).length:Int):=by omega
  have hlt:b<w.heap.size:=Nat.lt_of_lt_of_le hb hB
  have x0:=(World.cell?_alloc_lt w (.cells #[.int .i64 4,.int .u64 (m:Int),.slice A nd cd,.slice (some ⟨b,o,none⟩) ((Itm.mk ky my dy ly)::r).length cl] 88) ⟨b,o,none⟩ hlt).trans g0
  have x1:=(World.cell?_alloc_lt w (.cells #[.int .i64 4,.int .u64 (m:Int),.slice A nd cd,.slice (some ⟨b,o,none⟩) ((Itm.mk ky my dy ly)::r).length cl] 88) ⟨b,o+1,none⟩ hlt).trans g1
  replace hZ2:Z=(if ky=0 then if my=7 then (0:Int) else 61 else 60):=hZ2
  generalize ((Itm.mk ky my dy ly)::r).length=N at *
  clear g0 g1 g2 g3 hy hl hrow hb h8 h9
  by_cases h0:ky=0
  case neg =>
    have hz:Z=60:=by rw [hZ2,if_neg h0]
    have e4:(ky==0)=false:=by simpa using h0
    have e4':(ky != 0)=true:=by simpa using h0
    clear hZ2 h0
    subst hz
    go_enter Tryz.func101,Tryz.ntmps101
    go_wp2_with (first | (go_at_call 47;refine (CN.out _ _).mono ?_;rintro e w1 ⟨rfl,rfl⟩) | fail)
    go_ret
    exact ⟨HB0.out,.inr ⟨by decide,_,rfl⟩⟩
  subst h0
  rw [if_pos rfl] at hZ2
  by_cases h7:my=7
  · have hz:Z=0:=by rw [hZ2,if_pos h7]
    have e4:((my:Int)==7)=true:=by rw [h7];rfl
    have e4':((my:Int) != 7)=false:=by rw [h7];rfl
    clear hZ2 h7
    subst hz
    go_enter Tryz.func101,Tryz.ntmps101
    go_wp2_with (first | (go_at_call 47;refine (CN.out _ _).mono ?_;rintro e w1 ⟨rfl,rfl⟩) | fail)
    go_ret
    exact ⟨HB0.out,.inl ⟨rfl,rfl⟩⟩
  · have hz:Z=61:=by rw [hZ2,if_neg h7]
    have e4:((my:Int)==7)=false:=by simp;omega
    have e4':((my:Int) != 7)=true:=by simp;omega
    clear hZ2 h7
    subst hz
    go_enter Tryz.func101,Tryz.ntmps101
    go_wp2_with (first | (go_at_call 47;refine (CN.out _ _).mono ?_;rintro e w1 ⟨rfl,rfl⟩) | fail)
    go_ret
    exact ⟨HB0.out,.inr ⟨by decide,_,rfl⟩⟩
end Go.Proofs.YtldnokgdgafphaaGreatDoor
