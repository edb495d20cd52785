import Derived.Test.YtbnfkjkoinbkgaaGreatDoorVAbb
import Derived.Test.YtbnfkjkoinbkgaaGreatDoorVCborR
namespace Go.Proofs.YtbnfkjkoinbkgaaGreatDoor
set_option maxRecDepth 100000
set_option maxHeartbeats 16000000
open Go.RowKit
open Go.Lib (hid)
mutual
def hgt:Itm→Nat | .mk _ _ _ l=>Qsy l+1
def Qsy:List Itm→Nat | []=>0|x::r=>max (hgt x) (Qsy r)
end
theorem Qk9:∀ {l:List Itm} {i:Nat} (hi:i<l.length),hgt (l[i]'hi)≤Qsy l
 | [],_,hi=>absurd hi (Nat.not_lt_zero _)
 | x::r,0,_=>by rw[Qsy];simp;omega
 | x::r,i+1,hi=>by
  have:=Qk9 (l:=r) (i:=i) (by simpa using hi)
  rw[Qsy]
  simp;omega
theorem Qgj:∀ (a b:List Itm),Qan (a++b)=(Qan a&&Qan b)
 | [],b=>by rw[Qan];simp
 | x::r,b=>by rw[List.cons_append,Qan,Qan,Qgj r b,Bool.and_assoc]
theorem Qh7(l:List Itm)(j:Nat)(h:j<l.length):Qan (l.take (j+1))=(Qan (l.take j)&&Qbd (l[j]'h)):=by
 rw[List.take_succ_eq_append_getElem h,Qgj,Qan,Qan]
 simp
theorem Qg0(l:List Itm)(j:Nat)(h:Qan (l.take j)=false):Qan l=false:=by
 conv=>lhs;rw[← List.take_append_drop j l,Qgj,h]
 rfl
theorem Qt9{k:Int}{n:Nat}{d:LB}{l:List Itm}(h:own k n d l=false) :
  (k≠0∧k≠2∧k≠3∧k≠4∧k≠5)∨((k=2∨k=3∨k=4∨k=5)∧n≠0)∨((k=0∨((k=4∨k=5)∧n=0))∧0<d.length) ∨
  (((k=0∧d.length=0)∨((k=2∨k=3)∧n=0))∧0<l.length)∨(k=3∧n=0∧l.length=0∧plain d=false):=by
 have hd:d.isEmpty=decide (d.length=0):=by cases d <;> simp
 have hl:l.isEmpty=decide (l.length=0):=by cases l <;> simp
 unfold own at h;rw[hd,hl] at h
 generalize plain d=P at *;generalize d.length=a at *;generalize l.length=b at *;clear hd hl;by_cases h0:k=0
 ·
  simp[h0] at h ⊢;omega
 by_cases h2:k=2
 ·
  simp[h2] at h ⊢;omega
 by_cases h3:k=3
 ·
  simp[h3] at h ⊢;by_cases hn:n=0
  ·
   by_cases hb:b=0
   ·
    simp[hn,hb] at h;exact .inr (.inr ⟨hn,hb,h⟩)
   ·
    exact .inr (.inl ⟨hn,by omega⟩)
  ·
   exact .inl hn
 by_cases h4:k=4
 ·
  simp[h4] at h ⊢;omega
 by_cases h5:k=5
 ·
  simp[h5] at h ⊢;omega
 ·
  exact .inl ⟨h0,h2,h3,h4,h5⟩
theorem Qrg(k:Int)(n:Nat)(d:LB)(l:List Itm)(L:Int)(v:Value)(w:World)(B:Nat)(hB:B≤w.heap.size)(h:RdI w B v (.mk k n d l))(hb:own k n d l=false) :
  Calls Tryz.prog 101 #[v,.int .i64 L] w fun e w'=>e=.returned (.bool false)∧Below w.heap.size w w':=by
 obtain⟨A,nd,cd,AL,cl,rfl,h1,h2,h3,h4,h5,h7⟩:=h.open;have hd:=h4.1;have hc:=Qt9 hb;rw[hd] at hc
 have C1:=hid (fun W (hW:Rd W B A nd d)=>Qjv A nd cd B d W hW (by omega));generalize l.length=nl at *;clear h7 h hb hd;have H4:=hid h4;clear h4 h1;rcases hc with ⟨a0,a2,a3,a4,a5⟩|⟨hk,hn⟩|⟨hk,hn⟩|⟨hk,hn⟩|⟨hk,hn,hl,hp⟩
 ·
  have b0:(k != 0)=true:=by simp;omega
  have b2:(k==2)=false:=by simp;omega
  have b3:(k==3)=false:=by simp;omega
  have b4:(k==4)=false:=by simp;omega
  have b5:(k==5)=false:=by simp;omega
  clear a0 a2 a3 a4 a5;go_enter Tryz.func101,Tryz.ntmps101;go_wp2_with fail;go_ret;exact⟨rfl,zb⟩
 ·
  have bn:((n:Int) != 0)=true:=by simp;omega
  clear hn;rcases hk with rfl|rfl|rfl|rfl <;>
  ·
   go_enter Tryz.func101,Tryz.ntmps101;go_wp2_with fail;go_ret;exact⟨rfl,zb⟩
 ·
  rcases hk with rfl|⟨rfl|rfl,rfl⟩ <;>
  ·
   go_enter Tryz.func101,Tryz.ntmps101;go_wp2_with fail;go_ret;exact⟨rfl,zb⟩
 ·
  rcases hk with ⟨rfl,rfl⟩|⟨rfl|rfl,rfl⟩ <;>
  ·
   go_enter Tryz.func101,Tryz.ntmps101;go_wp2_with fail;go_ret;exact⟨rfl,zb⟩
 ·
  subst hk hn hl;rw[hp] at C1
  go_enter Tryz.func101,Tryz.ntmps101;go_wp2_with fail;refine(C1.out _ (H4.out.alloc hB _)).mono ?_;rintro e w1 ⟨rfl,rfl⟩;go_wp2_with fail;go_ret;exact⟨rfl,zb⟩
theorem Qxt{k:Int}{n nd N:Nat}{d:LB}{l:List Itm}(h:own k n d l=true)(hd:d.length=nd)(hl:l.length=N) :
  (k=0∧nd≤0∧N≤0)∨(k=2∧n=0∧N≤0)∨(k=3∧n=0∧N≤0∧plain d=true)∨(k=4∧n=0∧nd≤0)∨(k=5∧n=0∧nd≤0):=by
 have e1:d.isEmpty=decide (nd≤0):=by subst hd;cases d <;> simp
 have e2:l.isEmpty=decide (N≤0):=by subst hl;cases l <;> simp
 unfold own at h;rw[e1,e2] at h
 generalize plain d=P at *;by_cases h0:k=0
 ·
  simp[h0] at h ⊢;omega
 by_cases h2:k=2
 ·
  simp[h2] at h ⊢;omega
 by_cases h3:k=3
 ·
  simp[h3] at h ⊢;exact h
 by_cases h4:k=4
 ·
  simp[h4] at h ⊢;omega
 by_cases h5:k=5
 ·
  simp[h5] at h ⊢;omega
 ·
  simp[h0,h2,h3,h4,h5] at h
theorem Qju(k:Int)(hk:k=4∨k=5)(m N nd cd cl L B:Nat)(A AL:OA)(l:List Itm)(w:World)(hm:1+Qa5 l<m+1)(hg:Qsy l+1≤L+1)(hLb:L≤1000000)(hB:B≤w.heap.size)(ha:nd≤0)(h5:N≤cl∧N≤140737488355328)
  (IH:Hid (∀ (x:Itm) (L:Nat) (v:Value) (w:World) (B:Nat),par x<m→hgt x≤L+1→L≤1000000→B≤w.heap.size→RdI w B v x→Calls Tryz.prog 101 #[v,.int .i64 (L:Int)] w fun e w'=>e=.returned (.bool (Qbd x))∧Below w.heap.size w w')) (H7:Hid (0<N→∃ b o,AL=some ⟨b,o,none⟩∧b<B∧RdIs w B b o l)) (HL:Hid (l.length=N)) (HN0:Hid (0<N→0<L)) (RT:Bool) (HRT:Hid (RT=Qan l)) :
  Calls Tryz.prog 101 #[.agg #[.int .i64 k,.int .u64 0,.slice A nd cd,.slice AL N cl],.int .i64 (L:Int)] w fun e w'=>e=.returned (.bool RT)∧Below w.heap.size w w':=by
 have hnd:decide (0<nd)=false:=by simp;omega
 rcases hk with rfl|rfl
 ·
  go_enter Tryz.func101,Tryz.ntmps101;go_wp2_with fail;clear ha hnd;go_loopw [4,7] (fun rs i wr=>∃ j:Nat,j≤N∧rs=.bool false∧i=.int .i64 j∧Hid (Qan (l.take j)=true)∧Hid (Below (w.heap.size+1) (w.alloc (.cells #[.int .i64 4,.int .u64 0,Value.slice A nd cd,Value.slice AL N cl] 119)) wr))
   (fun _ i _=>N - (intOf i).toNat)
  case atStart=>exact⟨0,Nat.zero_le _,rfl,rfl,rfl,Below.refl _ _⟩
  case round =>
   obtain⟨j,hj,rfl,rfl,hrt,hbel⟩:=hrel;have hb3:wr.cell? ⟨w.heap.size,3,none⟩=some (.slice AL N cl):=(hbel.out.cell (p:=⟨w.heap.size,3,none⟩) (by simp)).trans (by simp);by_cases hlt:j<N
   ·
    obtain⟨b,o,rfl,hb,hs⟩:=H7.out (by omega);obtain⟨c0,c1,c2,c3,g0,g1,g2,g3,gx⟩:=hs.get j (by rw[HL.out];exact hlt);have hs':Below w.heap.size w wr:=zb.trans (hbel.out.mono (by omega));have hsz:w.heap.size+1≤wr.heap.size:=by have:=hbel.out.size;simpa using this
    have e0:wr.cell? ⟨b,o+j*4,none⟩=some c0:=(hs'.cell (p:=⟨b,o+j*4,none⟩) (by show b<_;omega)).trans g0;have e1:wr.cell? ⟨b,o+j*4+1,none⟩=some c1:=(hs'.cell (p:=⟨b,o+j*4+1,none⟩) (by show b<_;omega)).trans g1;have e2:wr.cell? ⟨b,o+j*4+2,none⟩=some c2:=(hs'.cell (p:=⟨b,o+j*4+2,none⟩) (by show b<_;omega)).trans g2;have e3:wr.cell? ⟨b,o+j*4+3,none⟩=some c3:=(hs'.cell (p:=⟨b,o+j*4+3,none⟩) (by show b<_;omega)).trans g3;have HS:=hid hs';have hL0:0<L:=HN0.out (by omega);have hpg:par (l[j]'(by rw[HL.out];exact hlt))≤Qa5 l:=Qdz _;have hgg:hgt (l[j]'(by rw[HL.out];exact hlt))≤Qsy l:=Qk9 _;have c1:=IH.out (l[j]'(by rw[HL.out];exact hlt)) (L - 1) _ wr B (by omega) (by omega) (by omega) (by omega) (gx.below (hs'.mono hB))
    rw[show((L - 1:Nat):Int)=(L:Int) - 1 by omega] at c1
    have hrj:=Qh7 l j (by rw[HL.out];exact hlt);rw[hrt.out,Bool.true_and] at hrj
    rcases hry:Qbd (l[j]'(by rw[HL.out];exact hlt)) with _|_
    ·
     rw[hry] at c1 hrj
     have hfin:=Qg0 l _ hrj;rw[← HRT.out] at hfin
     subst hfin;have C2:=hid c1;clear c1 g0 g1 g2 g3 gx hs hs' hrj hry hpg hgg;go_wp2_with fail;refine C2.out.mono ?_;rintro e w1 ⟨rfl,hb1⟩;have HB1:=hid hb1;clear hb1 hb3 e0 e1 e2 e3;go_wp2_with fail;go_ret;exact⟨rfl,HS.out.trans (HB1.out.mono (by omega))⟩
    ·
     rw[hry] at c1 hrj
     have C2:=hid c1;have HRJ:=hid hrj;clear c1 g0 g1 g2 g3 gx hs hs' hrj hry hpg hgg;go_wp2_with fail;refine C2.out.mono ?_;rintro e w1 ⟨rfl,hb1⟩;have HB1:=hid hb1;clear hb1 hb3 e0 e1 e2 e3;go_wp2_with fail;go_roundw
     case rel=>exact⟨j+1,by omega,rfl,by go_num,HRJ.out,hbel.out.trans (HB1.out.mono (by omega))⟩
     case measure=>simp[intOf];omega
   ·
    obtain rfl:j=N:=by omega
    have HS:=hid (((Below.refl w.heap.size w).alloc zr _).trans (hbel.out.mono (by omega)));have hfin:=hrt.out;rw[List.take_of_length_le (by rw[HL.out];exact Nat.le_refl _),← HRT.out] at hfin
    subst hfin;go_wp2_with fail;go_ret;exact⟨rfl,HS.out⟩
 ·
  go_enter Tryz.func101,Tryz.ntmps101;go_wp2_with fail;clear ha hnd;go_loopw [4,7] (fun rs i wr=>∃ j:Nat,j≤N∧rs=.bool false∧i=.int .i64 j∧Hid (Qan (l.take j)=true)∧Hid (Below (w.heap.size+1) (w.alloc (.cells #[.int .i64 5,.int .u64 0,Value.slice A nd cd,Value.slice AL N cl] 119)) wr))
   (fun _ i _=>N - (intOf i).toNat)
  case atStart=>exact⟨0,Nat.zero_le _,rfl,rfl,rfl,Below.refl _ _⟩
  case round =>
   obtain⟨j,hj,rfl,rfl,hrt,hbel⟩:=hrel;have hb3:wr.cell? ⟨w.heap.size,3,none⟩=some (.slice AL N cl):=(hbel.out.cell (p:=⟨w.heap.size,3,none⟩) (by simp)).trans (by simp);by_cases hlt:j<N
   ·
    obtain⟨b,o,rfl,hb,hs⟩:=H7.out (by omega);obtain⟨c0,c1,c2,c3,g0,g1,g2,g3,gx⟩:=hs.get j (by rw[HL.out];exact hlt);have hs':Below w.heap.size w wr:=zb.trans (hbel.out.mono (by omega));have hsz:w.heap.size+1≤wr.heap.size:=by have:=hbel.out.size;simpa using this
    have e0:wr.cell? ⟨b,o+j*4,none⟩=some c0:=(hs'.cell (p:=⟨b,o+j*4,none⟩) (by show b<_;omega)).trans g0;have e1:wr.cell? ⟨b,o+j*4+1,none⟩=some c1:=(hs'.cell (p:=⟨b,o+j*4+1,none⟩) (by show b<_;omega)).trans g1;have e2:wr.cell? ⟨b,o+j*4+2,none⟩=some c2:=(hs'.cell (p:=⟨b,o+j*4+2,none⟩) (by show b<_;omega)).trans g2;have e3:wr.cell? ⟨b,o+j*4+3,none⟩=some c3:=(hs'.cell (p:=⟨b,o+j*4+3,none⟩) (by show b<_;omega)).trans g3;have HS:=hid hs';have hL0:0<L:=HN0.out (by omega);have hpg:par (l[j]'(by rw[HL.out];exact hlt))≤Qa5 l:=Qdz _;have hgg:hgt (l[j]'(by rw[HL.out];exact hlt))≤Qsy l:=Qk9 _;have c1:=IH.out (l[j]'(by rw[HL.out];exact hlt)) (L - 1) _ wr B (by omega) (by omega) (by omega) (by omega) (gx.below (hs'.mono hB))
    rw[show((L - 1:Nat):Int)=(L:Int) - 1 by omega] at c1
    have hrj:=Qh7 l j (by rw[HL.out];exact hlt);rw[hrt.out,Bool.true_and] at hrj
    rcases hry:Qbd (l[j]'(by rw[HL.out];exact hlt)) with _|_
    ·
     rw[hry] at c1 hrj
     have hfin:=Qg0 l _ hrj;rw[← HRT.out] at hfin
     subst hfin;have C2:=hid c1;clear c1 g0 g1 g2 g3 gx hs hs' hrj hry hpg hgg;go_wp2_with fail;refine C2.out.mono ?_;rintro e w1 ⟨rfl,hb1⟩;have HB1:=hid hb1;clear hb1 hb3 e0 e1 e2 e3;go_wp2_with fail;go_ret;exact⟨rfl,HS.out.trans (HB1.out.mono (by omega))⟩
    ·
     rw[hry] at c1 hrj
     have C2:=hid c1;have HRJ:=hid hrj;clear c1 g0 g1 g2 g3 gx hs hs' hrj hry hpg hgg;go_wp2_with fail;refine C2.out.mono ?_;rintro e w1 ⟨rfl,hb1⟩;have HB1:=hid hb1;clear hb1 hb3 e0 e1 e2 e3;go_wp2_with fail;go_roundw
     case rel=>exact⟨j+1,by omega,rfl,by go_num,HRJ.out,hbel.out.trans (HB1.out.mono (by omega))⟩
     case measure=>simp[intOf];omega
   ·
    obtain rfl:j=N:=by omega
    have HS:=hid (((Below.refl w.heap.size w).alloc zr _).trans (hbel.out.mono (by omega)));have hfin:=hrt.out;rw[List.take_of_length_le (by rw[HL.out];exact Nat.le_refl _),← HRT.out] at hfin
    subst hfin;go_wp2_with fail;go_ret;exact⟨rfl,HS.out⟩
theorem Qpr:∀ (m:Nat) (x:Itm) (L:Nat) (v:Value) (w:World) (B:Nat),par x<m→hgt x≤L+1→L≤1000000→B≤w.heap.size→RdI w B v x →
  Calls Tryz.prog 101 #[v,.int .i64 (L:Int)] w fun e w'=>e=.returned (.bool (Qbd x))∧Below w.heap.size w w'
 | 0,_,_,_,_,_,h,_,_,_,_=>absurd h (Nat.not_lt_zero _)
 | m+1,.mk k n d l,L,v,w,B,hm,hg,hLb,hB,h=>by
  rcases hown:own k n d l with _|_
  ·
   rw[Qbd,hown,Bool.false_and]
   exact Qrg k n d l L v w B hB h hown
  obtain⟨A,nd,cd,AL,cl,rfl,h1,h2,h3,h4,h5,h7⟩:=h.open;have C1:=hid (fun W (hW:Rd W B A nd d)=>Qjv A nd cd B d W hW (by omega));have IH:=hid (Qpr m);have H7:=hid h7;have H4:=hid h4;have hx:Qbd (.mk k n d l)=Qan l:=by rw[Qbd,hown,Bool.true_and]
  rw[hx]
  rw[par] at hm
  rw[hgt] at hg
  have hN0:0<l.length→0<L:=by
   intro h0;have:=Qk9 (l:=l) (i:=0) h0
   have h8:1≤hgt (l[0]'h0):=by cases l[0];rw[hgt];omega
   omega
  have hc:=Qxt hown h4.1 rfl;generalize hL:l.length=N at *;have HL:=hid hL;have HN0:=hid hN0;clear h1 h7 h4 h hL hx hown hN0;obtain⟨RT,hRT⟩:∃ q,q=Qan l:=⟨_,rfl⟩
  rw[← hRT]
  have HRT:=hid hRT;clear hRT;have HT0:N≤0→RT=true:=by
   intro h0;have:l=[]:=List.eq_nil_of_length_eq_zero (by have:=HL.out;omega)
   rw[HRT.out,this,Qan]
  have HT0':=hid HT0;clear HT0;rcases hc with ⟨rfl,ha,hb⟩|⟨rfl,rfl,hb⟩|⟨rfl,rfl,hb,hp⟩|⟨rfl,rfl,ha⟩|⟨rfl,rfl,ha⟩
  ·
   obtain rfl:=HT0'.out hb;have hb':decide (0<N)=false:=by simp;omega
   go_enter Tryz.func101,Tryz.ntmps101;go_wp2_with fail;refine wp_loop_rounds 1 ?_;rw[rounds_succ]
   go_wp2_with fail;go_ret;exact⟨rfl,zb⟩
  ·
   obtain rfl:=HT0'.out hb;have hb':decide (0<N)=false:=by simp;omega
   go_enter Tryz.func101,Tryz.ntmps101;go_wp2_with fail;refine wp_loop_rounds 1 ?_;rw[rounds_succ]
   go_wp2_with fail;go_ret;exact⟨rfl,zb⟩
  ·
   obtain rfl:=HT0'.out hb;have hb':decide (0<N)=false:=by simp;omega
   rw[hp] at C1
   go_enter Tryz.func101,Tryz.ntmps101;go_wp2_with fail;refine(C1.out _ (H4.out.alloc hB _)).mono ?_;rintro e w1 ⟨rfl,rfl⟩;go_wp2_with fail;refine wp_loop_rounds 1 ?_;rw[rounds_succ]
   go_wp2_with fail;go_ret;exact⟨rfl,zb⟩
  ·
   exact Qju 4 (.inl rfl) m N nd cd cl L B A AL l w hm hg hLb hB ha h5 IH H7 HL HN0 RT HRT
  ·
   exact Qju 5 (.inr rfl) m N nd cd cl L B A AL l w hm hg hLb hB ha h5 IH H7 HL HN0 RT HRT
end Go.Proofs.YtbnfkjkoinbkgaaGreatDoor
