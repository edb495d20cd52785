import Derived.Test.YteckeagobafoiaaGreatDoorQBibY
import Derived.Test.YteckeagobafoiaaGreatDoorQBibZ
import Derived.Test.YteckeagobafoiaaGreatDoorQBihB
namespace Go.Proofs.YteckeagobafoiaaGreatDoor
open Go.RowKit
def x1 (b:Bun) (num:Nat) (sc:Int) (src:Epd) (k:List UInt8):Bb:=sgX [1] src sc (sgT b [1] num sc k).1
def nx1 (h:BH) (l:List Blk) (num:Nat) (sc:Int) (src:Epd) (k:List UInt8):List Blk:=putB l (sgK num (x1 (h.bun l) num sc src k))
def Ok1 (h:BH) (l:List Blk) (num:Nat) (sc:Int) (src:Epd) (k:List UInt8):Prop :=
 (sgT (h.bun l) [1] num sc k).2=0∧rgtB (x1 (h.bun l) num sc src k)=true∧cauU (h.bun l)=0∧cauU (h.bun (nx1 h l num sc src k))=0
theorem sgn_one {h:BH} {l:List Blk} {num:Nat} {sc:Int} {src:Epd} {k:List UInt8} {w:World} {e:Ending} {w':World} (hs:SgnE h l [1] num sc src k w e w') :
  Below w.heap.size w w'∧((¬ Ok1 h l num sc src k∧∃ z:Int,z≠0∧e=.returned (.tuple #[.agg #[.int .u64 0,.int .i64 0,.int .i64 0,.string ⟨#[]⟩,.int .u64 0,.int .u64 0,.int .i64 0,.string ⟨#[]⟩,.int .u64 0,.int .u64 0,.int .i64 0,.string ⟨#[]⟩,.int .u64 0,.int .u64 0,.int .u64 0,.int .u64 0,.int .u64 0,.slice none 0 0],.int .i64 z])) ∨
   (Ok1 h l num sc src k∧∃ (A:Option Addr) (n c:Nat),e=.returned (.tuple #[bunV h A n c,.int .i64 0])∧RdL w' w'.heap.size A n (nx1 h l num sc src k)∧n≤c)):=by
 obtain ⟨hb,⟨z,hz,hor,rfl⟩|⟨h1,h2,h3,h4,A,n,c,rfl,hr,hc⟩⟩:=hs
 ·
  refine ⟨hb,.inl ⟨?_,z,hz,rfl⟩⟩
  rintro ⟨g1,g2,g3,g4⟩
  rcases hor with ⟨h1,-⟩|⟨-,h1,-⟩|⟨-,-,h1,-⟩
  ·
   exact h1 g1
  ·
   exact absurd (g2.symm.trans h1) (by decide)
  ·
   exact h1 ⟨g3,g4⟩
 ·
  exact ⟨hb,.inr ⟨⟨h1,h2,h3,h4⟩,A,n,c,rfl,hr.unmask_,hc⟩⟩
theorem ipl_two (b:Bun) (q:Nat) (sc:Int) (k n n' f:Nat):(iplU b q sc k n f).2=(iplU b q sc k n' f).2:=by
 unfold iplU
 by_cases hz:cauU b=0
 ·
  have e0:¬ cauU b≠0:=by simpa using hz
  simp only [if_neg e0]
  split
  ·
   rfl
  ·
   split
   ·
    rfl
   ·
    split
    ·
     rfl
    ·
     split <;> rfl
 ·
  rw [if_pos hz,if_pos hz]
theorem tagsT_one (f:Nat→List UInt8×Int) (k:List UInt8) (t:Nat) (h:(f t).2=0):(tagsT f k [t]).2=0:=by
 rw [tagsT,if_neg (by simpa using h),tagsT]
 rfl
theorem sg_64:∀ t∈([1]:List Nat),t<18446744073709551616:=by decide
section
variable {n:Nat} {h:BH} {l:List Blk} {sc:Int} {src:Epd} {k1 k2:List UInt8}
theorem Ok1.v (h1:Ok1 h l n sc src k1):vrB (h.bun (nx1 h l n sc src k1)) n k1=(some (x1 (h.bun l) n sc src k1),0):=vr_sign h1.1 h1.2.1 sg_64 h1.2.2.1 h1.2.2.2
theorem Ok1.dat (h1:Ok1 h l n sc src k1) (hd:∀ x∈l,x.dat.length≤5000):∀ x∈nx1 h l n sc src k1,x.dat.length≤5000:=fun x hx=>by
 unfold nx1 putB at hx
 rw [List.mem_append,List.mem_cons] at hx
 rcases hx with hx|rfl|hx
 ·
  exact hd x (List.mem_of_mem_take hx)
 ·
  have:=bibW_len (rgt_iff.1 h1.2.1)
  show (bibW _).length≤5000
  omega
 ·
  exact hd x (List.mem_of_mem_drop hx)
theorem Ok1.cov (h1:Ok1 h l n sc src k1):covB 1 (nx1 h l n sc src k1)=covB 1 l++[n]:=by
 have e:(x1 (h.bun l) n sc src k1).tgs=[1]:=rfl
 have h64:∀ t∈(x1 (h.bun l) n sc src k1).tgs,t<18446744073709551616:=by rw [e];exact sg_64
 unfold nx1
 rw [cov_put h1.2.2.1 h1.2.1 h64,e,if_pos (by decide)]
theorem Ok1.len (h1:Ok1 h l n sc src k1):l.length+1=(nx1 h l n sc src k1).length∧(nx1 h l n sc src k1).length≤16:=by
 refine ⟨?_,(bok h1.2.2.2).1.2⟩
 unfold nx1 putB
 rw [List.length_append,List.length_cons,List.length_take,List.length_drop]
 omega
theorem rgt_one {b b':Bun} {num num':Nat} {k k':List UInt8} (hr:rgtB (x1 b num sc src k)=true) (g0:(sgT b' [1] num' sc k').2=0):rgtB (x1 b' num' sc src k')=true:=by
 obtain ⟨t1,t2⟩:=tagsT_len (fun t=>iplU b' t sc 11 num' 0) k' [1] g0
 have hr1:=rgt_iff.1 hr
 have s0:0≤sc:=hr1.s0
 have s7:sc≤7:=hr1.s7
 have ck:checkB src=true:=hr1.ck
 have nn:noneB src=false:=hr1.nn
 exact rgt_iff.2 ⟨(by decide:1≤1),(by decide:1≤15),(by decide:([1]:List Nat).Nodup),t1,t2,s0,s7,ck,nn⟩
theorem sgt_put {num num':Nat} {x:Blk} {k k':List UInt8} (h0:(sgT (h.bun l) [1] num sc k).2=0) (h1:cauU (h.bun l)=0) (h2:cauU (h.bun (putB l x))=0) (hx:x.num≠1):(sgT (h.bun (putB l x)) [1] num' sc k').2=0:=by
 have hi:(iplU (h.bun l) 1 sc 11 num 0).2=0:=tagsT_zero (fun t=>iplU (h.bun l) t sc 11 num 0) k [1] h0 1 (by simp)
 have hi2:(iplU (h.bun (putB l x)) 1 sc 11 num' 0).2=0:=by
  rw [ipl_two _ 1 sc 11 num' num 0,iplU_put h l x 1 sc 11 num 0 hx h1 h2]
  exact hi
 exact tagsT_one (fun t=>iplU (h.bun (putB l x)) t sc 11 num' 0) k' 1 hi2
theorem put_ne {x:Blk} {q:Nat} (hn:∀ y∈l,y.num≠q) (hx:x.num≠q):∀ y∈putB l x,y.num≠q:=fun y hy=>by
 unfold putB at hy
 rw [List.mem_append,List.mem_cons] at hy
 rcases hy with hy|rfl|hy
 ·
  exact hn y (List.mem_of_mem_take hy)
 ·
  exact hx
 ·
  exact hn y (List.mem_of_mem_drop hy)
theorem no_find {q:Nat} (hp:¬ 0≤plc (pNum q) l 0):∀ y∈l,y.num≠q:=fun y hy e=>by
 have hany:=plc_ge (pNum q) l 0
 rw [decide_eq_false hp] at hany
 have:=List.any_eq_false.1 hany.symm y hy
 exact this (by unfold pNum;exact decide_eq_true e)
theorem put_len_ {x:Blk}:(putB l x).length=l.length+1:=by
 unfold putB
 rw [List.length_append,List.length_cons,List.length_take,List.length_drop]
 omega
theorem two_gen {x x':Blk} (h2:cauU (h.bun (putB l x))=0) (hx':blkOk x'=true) (h11:x'.typ=11) (hn:x'.num=101) (hxn:x.num=100):cauU (h.bun (putB (putB l x) x'))=0∨(putB l x).length=16∨0≤plc (pNum 101) l 0:=by
 by_cases h16:(putB l x).length=16
 ·
  exact .inr (.inl h16)
 by_cases hp:0≤plc (pNum 101) l 0
 ·
  exact .inr (.inr hp)
 have hl:=(bok h2).1.2
 exact .inl (put_ok h2 h11 hx' (by omega) (put_ne (by rw [hn];exact no_find hp) (by rw [hn,hxn];decide)))
theorem two_no (h1:Ok1 h l 100 sc src k1) (h2:¬ Ok1 h (nx1 h l 100 sc src k1) 101 sc src k2):(nx1 h l 100 sc src k1).length=16∨0≤plc (pNum 101) l 0:=by
 obtain ⟨a1,a2,a3,a4⟩:=h1
 unfold Ok1 nx1 at h2
 unfold nx1 at a4 ⊢
 have hx:(sgK 100 (x1 (h.bun l) 100 sc src k1)).num=100:=rfl
 generalize sgK 100 (x1 (h.bun l) 100 sc src k1)=x at *
 have g0:(sgT (h.bun (putB l x)) [1] 101 sc k2).2=0:=sgt_put a1 a3 a4 (by rw [hx];decide)
 have g1:=rgt_one (src:=src) a2 g0
 have ok:=sgK_ok (num:=101) g1 (by decide)
 have e1:(sgK 101 (x1 (h.bun (putB l x)) 101 sc src k2)).typ=11:=rfl
 have e2:(sgK 101 (x1 (h.bun (putB l x)) 101 sc src k2)).num=101:=rfl
 rcases two_gen a4 ok e1 e2 hx with h|h
 ·
  exact absurd ⟨g0,g1,a4,h⟩ h2
 ·
  exact h
theorem two_v (h1:Ok1 h l 100 sc src k1) (h2:Ok1 h (nx1 h l 100 sc src k1) 101 sc src k2):vrB (h.bun (nx1 h (nx1 h l 100 sc src k1) 101 sc src k2)) 100 k1=(some (x1 (h.bun l) 100 sc src k1),0) :=
 vr_put h2.2.2.1 h2.2.2.2 (by decide:(101:Nat)≠100) h1.v
theorem two_cov (h1:Ok1 h l 100 sc src k1) (h2:Ok1 h (nx1 h l 100 sc src k1) 101 sc src k2):covB 1 (nx1 h (nx1 h l 100 sc src k1) 101 sc src k2)=covB 1 l++[100,101]:=by
 rw [h2.cov,h1.cov,List.append_assoc]
 rfl
theorem giv_ok {o:Option Bb} {z:Int} {X:Bb} {w:World} {e:Ending} {w':World} (hv:o=some X∧z=0) (hg:GivX o z w e w') :
  Below w.heap.size w w'∧∃ (A:Option Addr) (n c:Nat) (sc:Int) (s:ByteArray) (nd sv:Nat) (so:Int) (At:Option Addr) (nt ct:Nat),e=.returned (.tuple #[bibV A n c sc s nd sv so At nt ct,.int .i64 0])∧RdX w' w'.heap.size (bibV A n c sc s nd sv so At nt ct) X:=by
 obtain ⟨rfl,rfl⟩:=hv
 obtain ⟨hb,⟨x,v,hx,rfl,hr⟩|⟨hx,-⟩⟩:=hg
 ·
  obtain rfl:=Option.some.inj hx
  have hr2:=hr.unmask
  obtain ⟨A,n,c,sc,s,nd,sv,At,nt,ct,rfl,-⟩:=hr
  exact ⟨hb,A,n,c,sc,s,nd,sv,_,At,nt,ct,rfl,hr2⟩
 ·
  cases hx
theorem num_two {L M:List Nat} {w:World} {e:Ending} {w':World} (hL:L=M++[100,101]) (hg:NumsE L w e w'):Below w.heap.size w w'∧∃ (b o c:Nat),e=.returned (.slice (some ⟨b,o,none⟩) (M.length+2) c)∧w'.cell? ⟨b,o+M.length,none⟩=some (.int .u64 100)∧w'.cell? ⟨b,o+(M.length+1),none⟩=some (.int .u64 101):=by
 subst hL
 obtain ⟨hb,A,n,c,rfl,-,hr⟩:=hg
 have hn:n=M.length+2:=by rw [← hr.1];simp
 subst hn
 obtain ⟨b,o,rfl,-,hc⟩:=hr.2 (by omega)
 refine ⟨hb,b,o,c,rfl,?_,?_⟩
 ·
  rw [hc M.length (by omega)]
  simp [List.getD]
 ·
  rw [hc (M.length+1) (by omega)]
  simp [List.getD]
theorem cov_len (q:Nat) (l:List Blk):(covB q l).length≤l.length:=by
 unfold covB
 rw [List.length_map]
 exact List.length_filter_le _ _
end
end Go.Proofs.YteckeagobafoiaaGreatDoor
