import Derived.Test.YtbnfkjkoinbkgaaGreatDoorVAbb
import Derived.WalkKit
import Derived.Below
import Derived.Deep.OwnRows
import Derived.Deep.Draws
import Derived.Laws.BytesArg
import Derived.Laws.AppendOwn
import Derived.Laws.NewBlocks
import Derived.Laws.IdiomStrings
import Derived.Lib.HexFns
import Derived.Lib.ItoaNum
import Derived.Lib.Hide
import Derived.Laws.BitsAllLaws
import Derived.Lib.EndianBits
namespace Go.Proofs.YtbnfkjkoinbkgaaGreatDoor
open Go.RowKit
def bv(x:UInt8):Value:=.int .u8 (x.toNat:Int)
def Rd(w:World)(B:Nat)(A:OA)(n:Nat)(l:LB):Prop :=
 l.length=n∧(0<n→∃ b o,A=some ⟨b,o,none⟩∧b<B∧∀ i,i<n→w.cell? ⟨b,o+i,none⟩=some (.int .u8 ((l.getD i 0).toNat:Int)))
def Rb(w:World)(b:Nat)(t:TypeId)(n:Nat)(l:LB):Prop:=w.rowIs b t n (fun j=>.int .u8 ((l.getD j 0).toNat:Int))
section
variable {w w':World}{B B' n b:Nat}{A:OA}{l:LB}{t:TypeId}
theorem Rd.len(h:Rd w B A n l):l.length=n:=h.1
theorem Rd.keep(h:Rd w B A n l)(hk:∀ p:Addr,p.block<B→w'.cell? p=w.cell? p):Rd w' B A n l :=
 ⟨h.1,fun hn=>by
  obtain⟨b,o,e,hb,hc⟩:=h.2 hn;exact⟨b,o,e,hb,fun i hi=>(hk ⟨b,o+i,none⟩ hb).trans (hc i hi)⟩⟩
theorem Rd.more(h:Rd w B A n l)(hB:B≤B'):Rd w B' A n l :=
 ⟨h.1,fun hn=>by
  obtain⟨b,o,e,hb,hc⟩:=h.2 hn;exact⟨b,o,e,by omega,hc⟩⟩
theorem Rd.below(h:Rd w B A n l)(hb:Below B w w'):Rd w' B A n l:=h.keep fun _ hp=>hb.cell hp
theorem Rd.drew(h:Rd w B A n l):Rd w.drew B A n l:=h
theorem Rd.drewN(h:Rd w B A n l)(k:Nat):Rd (w.drewN k) B A n l:=h
theorem Rd.alloc(h:Rd w B A n l)(hB:B≤w.heap.size)(o:Obj):Rd (w.alloc o) B A n l:=h.keep fun p hp=>World.cell?_alloc_lt w o p (by omega)
theorem Rd.nil_:Rd w B A 0 []:=⟨rfl,fun h=>absurd h (by omega)⟩
theorem Rb.drew(h:Rb w b t n l):Rb w.drew b t n l:=h
theorem Rb.alloc(h:Rb w b t n l)(o:Obj):Rb (w.alloc o) b t n l:=World.rowIs.alloc h o
theorem Rb.below(h:Rb w b t n l)(hb:Below B w w')(hB:b<B):Rb w' b t n l:=World.rowIs.of_block h (hb.block b hB)
theorem Rb.lt(h:Rb w b t n l):b<w.heap.size:=World.rowIs.lt h
theorem Rb.rd(h:Rb w b t n l)(hl:l.length=n)(hB:b<B):Rd w B (some ⟨b,0,none⟩) n l :=
 ⟨hl,fun _=>⟨b,0,rfl,hB,fun i hi=>by rw[Nat.zero_add];exact World.rowIs.cell h hi⟩⟩
theorem Rb.made(w:World)(n:Nat)(t:TypeId):Rb (w.alloc (.cells (madeCells #[.int .u8 0] n) t)) w.heap.size t n []:=World.rowIs_made w _ n t
theorem Rb.push(h:Rb w b t n l)(x:UInt8){k:Nat}(hk:l.length=k){v:Value}(hv:v=.int .u8 (x.toNat:Int)):Rb (w.setCell ⟨b,k,none⟩ v) b t n (l++[x]):=by
 subst hk hv;refine(World.rowIs.set h l.length _).congr fun j _=>?_
 by_cases e:j=l.length
 ·
  subst e;simp[List.getD]
 ·
  simp only[if_neg e];congr 3
  rcases Nat.lt_or_ge j l.length with hl|hl
  ·
   simp[List.getD,List.getElem?_append_left hl]
  ·
   have h1:l.length+1≤j:=by omega
   simp[List.getD,List.getElem?_eq_none (l:=l) hl,List.getElem?_append_right hl,List.getElem?_eq_none (l:=[x]) (i:=j - l.length) (by simp;omega)]
end
def Qno(l:LB)(w:World)(e:Ending)(w':World):Prop :=
 ∃ (A:OA) (n c:Nat),e=.returned (.slice A n c)∧Rd w' w'.heap.size A n l∧n≤c∧Below w.heap.size w w'
theorem Qgh{P:Program}{w:World}{B:Nat}{A:OA}{n c:Nat}{l:LB}(h:Rd w B A n l)(src e dst:TypeId)(hs:P.underlying src=some (.slice e))(he:P.underlying e=some (.int .u8))(hd:P.underlying dst=some .string) :
  (convert src dst (.slice A n c)).run P w=.ok (.string ⟨l.toArray⟩) w:=by
 rcases Nat.eq_zero_or_pos n with h0|h0
 ·
  subst h0;have hl:l=[]:=List.eq_nil_of_length_eq_zero h.1;subst hl;cases A with
  | none=>exact run_convert_bytes_nil (P:=P) w src e hs he 0 c dst hd
  | some a =>
   rw[run_convert_bytes_string w src dst e _ 0 c hs he hd,run_bytesToString w a 0 c [] (by
    have:=run_loadCells_list (P:=P) w a [] (fun j v hj=>by simp at hj)
    simpa using this)]
   rfl
 ·
  obtain⟨b,o,rfl,_,hc⟩:=h.2 h0;have hlen:=h.1;have g:=run_convert_bytes_arg (P:=P) w src e hs he b o n c (l.map fun x=>(x.toNat:Int)) (by simpa using hlen) (fun i hi=>by
   rw[hc i hi]
   have hi':i<l.length:=by omega
   simp[List.getD,hi']) dst hd
  rw[g]
  congr 2
  unfold strOfNums;congr 2
  rw[List.map_map]
  conv=>rhs;rw[← List.map_id l]
  apply List.map_congr_left;intro x _;simp
theorem Rd.cut{w:World}{B n k:Nat}{A:OA}{l:LB}(h:Rd w B A n l):Rd w B (A.map (·.add k)) (n - k) (l.drop k):=by
 refine⟨by rw[List.length_drop,h.1],fun hn=>?_⟩;obtain⟨b,o,rfl,hb,hc⟩:=h.2 (by omega);refine⟨b,o+k,by unfold Addr.add;simp,hb,fun i hi=>?_⟩;rw[Nat.add_assoc,hc (k+i) (by omega)]
 simp[List.getD,List.getElem?_drop]
theorem Q01{P:Program}{w:World}{B n:Nat}{A:OA}{l:LB}(t e:TypeId)(ht:P.underlying t=some (.slice e))(hz:∀ W:World,(sizeOf e).run P W=.ok 1 W)(c:Nat)(h:Rd w B A n l)(x:Int)(k:Nat)(hx:x=(k:Int))(hk:k≤n)(hc:n≤c) :
  ∃ A' c',(∀ W:World,(Instr.slice t (.slice A n c) (some (.int .i64 x)) none none).run P W=.ok (.slice A' (n - k) c') W)∧n - k≤c'∧c'≤c∧Rd w B A' (n - k) (l.drop k):=by
 subst hx;by_cases hck:c=k
 ·
  refine⟨A,c - k,fun W=>?_,by omega,by omega,?_⟩
  ·
   subst hck;go_simp
  ·
   have hl:=h.1;have e:n - k=0:=by omega
   rw[e,List.drop_eq_nil_of_le (by omega)]
   exact Rd.nil_
 ·
  refine⟨A.map (·.add k),c - k,fun W=>?_,by omega,by omega,h.cut⟩;go_simp
theorem Rd.take{w:World}{B n k:Nat}{A:OA}{l:LB}(h:Rd w B A n l)(hk:k≤n):Rd w B A k (l.take k):=by
 have hl:=h.1;refine⟨by rw[List.length_take];omega,fun hn=>?_⟩;obtain⟨b,o,e,hb,hc⟩:=h.2 (by omega);refine⟨b,o,e,hb,fun i hi=>?_⟩;rw[hc i (by omega)]
 simp[List.getD,hi]
theorem Q4j{P:Program}{w:World}{B n:Nat}{A:OA}{l:LB}(t e:TypeId)(ht:P.underlying t=some (.slice e))(hz:∀ W:World,(sizeOf e).run P W=.ok 1 W)(c:Nat)(h:Rd w B A n l)(x:Int)(k:Nat)(hx:x=(k:Int))(hk:k≤n)(hc:n≤c) :
  ∃ A' c',(∀ W:World,(Instr.slice t (.slice A n c) none (some (.int .i64 x)) none).run P W=.ok (.slice A' k c') W)∧k≤c'∧c'≤c∧Rd w B A' k (l.take k):=by
 subst hx;by_cases hc0:c=0
 ·
  have hk0:k=0:=by omega
  subst hk0 hc0;refine⟨A,0,fun W=>?_,by omega,by omega,h.take hk⟩;go_simp
 ·
  refine⟨A,c,fun W=>?_,by omega,by omega,h.take hk⟩;go_simp
  intro h;omega
theorem Rd.litm(w:World)(g:Nat)(hg:w.heap.size=g)(l:LB)(t:TypeId)(cs:Array Value)(fr:Nat×Nat)(hcs:cs=(l.map fun x=>Value.int .u8 (x.toNat:Int)).toArray)(n:Nat)(hn:l.length=n):Rd (w.alloc (.cells cs t fr)) (g+1) (some ⟨g,0,none⟩) n l:=by
 subst hcs hg;refine⟨hn,fun _=>⟨_,0,rfl,by omega,fun i hi=>?_⟩⟩;have hi':i<l.length:=by omega
 rw[Nat.zero_add,World.cell?_alloc_mark]
 simp[List.getD,hi']
theorem Rd.lit(w:World)(g:Nat)(hg:w.heap.size=g)(l:LB)(t:TypeId)(cs:Array Value)(hcs:cs=(l.map fun x=>Value.int .u8 (x.toNat:Int)).toArray)(n:Nat)(hn:l.length=n):Rd (w.alloc (.cells cs t)) (g+1) (some ⟨g,0,none⟩) n l :=
 Rd.litm w g hg l t cs _ hcs n hn
theorem Q3p{n:Int}(h:(Lit.int .u8 n).wf=true):0≤n∧n<256:=by
 simp[Lit.wf,IntKind.min,IntKind.max,IntKind.signed,IntKind.bits] at h;omega
theorem Rd.of_ints{w:World}{x:Addr}{n c:Nat}{zs:List Int}(hn:n≤c)(hz:zs.length=c)(hcell:∀ i,i<zs.length→w.cell? (x.add i)=some (.int .u8 (zs.getD i 0)))(hw:∀ z∈zs,(Lit.int .u8 z).wf=true) :
  Rd w w.heap.size (some x) n ((zs.take n).map fun z=>UInt8.ofNat z.toNat):=by
 refine⟨by simp;omega,fun h0=>?_⟩;obtain⟨b,off,spot⟩:=x;have hc:=hcell 0 (by omega);have hspot:spot=none:=by simpa [Addr.add] using World.cell?_spot hc
 subst hspot;refine⟨b,off,rfl,?_,fun i hi=>?_⟩
 ·
  have h:=World.block_lt_of_cell? w _ hc;simpa [Addr.add] using h
 ·
  have hi':i<zs.length:=by omega
  have h:=hcell i hi';have e:(⟨b,off,none⟩:Addr).add i=⟨b,off+i,none⟩:=by unfold Addr.add;split <;> simp_all
  rw[e] at h
  rw[h]
  have hb:=Q3p (hw _ (List.getElem_mem hi'));simp[List.getD,hi,hi'];omega
def hv(c:Int):Int:=if 48≤c∧c≤57 then c - 48 else if 97≤c∧c≤102 then c - 87 else 0
theorem Qdb(l:LB)(k:Nat)(h:k<l.length):l.take (k+1)=l.take k++[l.getD k 0]:=by
 rw[List.take_succ_eq_append_getElem h]
 simp[List.getD,h]
def be(x:Nat)(n:Nat):LB:=(List.range n).map fun j=>UInt8.ofNat (x / 256 ^ (n - 1 - j))
theorem Qa9(x n:Nat):(be x n).length=n:=by simp[be]
def Qc3(l:LB):Nat:=l.foldl (fun a x=>(a*256+x.toNat) % 18446744073709551616) 0
def psz(size:Int):Nat:=(min (max size 0) 8).toNat
theorem Q14(size:Int):psz size≤8:=by unfold psz;omega
theorem Q15(size:Int):min (max size 0) 8=(psz size:Int):=by unfold psz;omega
def Qia(x n k:Nat):Nat→Value:=fun j=>if n≤j+k then .int .u8 ((UInt8.ofNat (x / 256 ^ (n - 1 - j))).toNat:Int) else .int .u8 0
theorem Qi6(x:Int)(h0:0≤x)(k:Nat):Value.int .u8 (x / 2 ^ (8*k) % 256)=.int .u8 ((UInt8.ofNat (x.toNat / 256 ^ k)).toNat:Int):=by
 obtain⟨a,rfl⟩:=Int.eq_ofNat_of_zero_le h0;rw[UInt8.toNat_ofNat',Int.toNat_natCast]
 have e:(2:Int) ^ (8*k)=((256 ^ k:Nat):Int):=by
  rw[Int.pow_mul]
  simp
 rw[e]
 congr 1
theorem Qog(x:Int)(h0:0≤x)(n k j:Nat)(hlt:k<n)(_hj:j<n) :
  (if j=n - 1 - k then Value.int .u8 (x / 2 ^ (8*k) % 256) else Qia x.toNat n k j)=Qia x.toNat n (k+1) j:=by
 unfold Qia;by_cases e:j=n - 1 - k
 ·
  subst e;rw[if_pos rfl,if_pos (by omega),Qi6 x h0,show n - 1 - (n - 1 - k)=k by omega]
 ·
  rw[if_neg e]
  by_cases h:n≤j+k
  ·
   rw[if_pos h,if_pos (by omega)]
  ·
   rw[if_neg h,if_neg (by omega)]
theorem Qrl(x n j:Nat)(hj:j<n):Qia x n n j=.int .u8 (((be x n).getD j 0).toNat:Int):=by
 unfold Qia;rw[if_pos (by omega)]
 simp[be,List.getD,hj]
theorem Q0d(a b:Int):bits BinOp.or IntKind.u64 a b=bits BinOp.or IntKind.u64 b a:=by
 unfold bits;simp[BitVec.or_comm]
theorem Q1v(a:Nat)(x:Int)(h0:0≤x)(h1:x<256):bits BinOp.or IntKind.u64 (IntKind.u64.wrap ((a:Int)*256)) x=((a:Int)*256+x) % 18446744073709551616:=by
 rw[Q0d,IntKind.wrap_u64,u64_or8 _ _ h0 h1 (by omega) (by omega) (by omega)]
 omega
theorem Qc9(l:LB)(x:UInt8):Qc3 (l++[x])=(Qc3 l*256+x.toNat) % 18446744073709551616:=by
 unfold Qc3;rw[List.foldl_append]
 rfl
theorem Qli(x n:Nat):be x (n+1)=be (x / 256) n++[UInt8.ofNat x]:=by
 unfold be;rw[List.range_succ,List.map_append]
 congr 1
 ·
  refine List.map_congr_left fun j hj=>?_
  have hj':j<n:=List.mem_range.1 hj;rw[show n+1 - 1 - j=(n - 1 - j)+1 by omega,Nat.pow_succ,Nat.mul_comm,← Nat.div_div_eq_div_mul]
 ·
  simp
theorem Qq3:∀ (n x:Nat),n≤8→Qc3 (be x n)=x % 256 ^ n
 | 0,x,_=>by simp[be,Qc3,Nat.mod_one]
 | n+1,x,h=>by
  have hp:256 ^ (n+1)≤256 ^ 8:=Nat.pow_le_pow_right (by decide) h;rw[Qli,Qc9,Qq3 n (x / 256) (by omega),UInt8.toNat_ofNat']
  have e:x % 256 ^ (n+1)=x / 256 % 256 ^ n*256+x % 256:=by
   rw[Nat.pow_succ,Nat.mul_comm,Nat.mod_mul]
   omega
  have hlt:x % 256 ^ (n+1)<256 ^ (n+1):=Nat.mod_lt _ (Nat.pow_pos (by decide));rw[show(2:Nat) ^ 8=256 from rfl,← e]
  exact Nat.mod_eq_of_lt (Nat.lt_of_lt_of_le hlt hp)
theorem Q22:∀ (n x y:Nat),x % 256 ^ n=y % 256 ^ n→be x n=be y n
 | 0,_,_,_=>rfl
 | n+1,x,y,h=>by
  rw[Nat.pow_succ,Nat.mul_comm,Nat.mod_mul,Nat.mod_mul] at h
  have h1:x % 256=y % 256:=by omega
  have h2:x / 256 % 256 ^ n=y / 256 % 256 ^ n:=by omega
  rw[Qli,Qli,Q22 n _ _ h2]
  congr 2
  apply UInt8.toNat_inj.1;rw[UInt8.toNat_ofNat',UInt8.toNat_ofNat']
  exact h1
theorem Qq2(l:LB):Qc3 l<18446744073709551616:=by
 rcases List.eq_nil_or_concat l with rfl|⟨r,x,rfl⟩
 ·
  decide
 ·
  rw[List.concat_eq_append,Qc9];exact Nat.mod_lt _ (by decide)
theorem Qq4:∀ (n:Nat) (l:LB),l.length=n→n≤8→Qc3 l<256 ^ n
 | 0,l,h,_=>by obtain rfl:=List.eq_nil_of_length_eq_zero h;decide
 | n+1,l,h,h8=>by
  rcases List.eq_nil_or_concat l with rfl|⟨r,x,rfl⟩
  ·
   simp at h
  ·
   have hr:r.length=n:=by simpa using h
   have ih:=Qq4 n r hr (by omega);have hx:=x.toNat_lt;have hp:256 ^ (n+1)≤256 ^ 8:=Nat.pow_le_pow_right (by decide) h8;have e:256 ^ (n+1)=256 ^ n*256:=Nat.pow_succ ..;rw[List.concat_eq_append,Qc9,Nat.mod_eq_of_lt (by omega)]
   omega
theorem Qq1:∀ (n:Nat) (l:LB),l.length=n→n≤8→be (Qc3 l) n=l
 | 0,l,h,_=>by obtain rfl:=List.eq_nil_of_length_eq_zero h;rfl
 | n+1,l,h,h8=>by
  rcases List.eq_nil_or_concat l with rfl|⟨r,x,rfl⟩
  ·
   simp at h
  ·
   have hr:r.length=n:=by simpa using h
   have ih:=Qq4 n r hr (by omega);have hx:=x.toNat_lt;have hp:256 ^ (n+1)≤256 ^ 8:=Nat.pow_le_pow_right (by decide) h8;have e:256 ^ (n+1)=256 ^ n*256:=Nat.pow_succ ..;rw[List.concat_eq_append,Qc9,Nat.mod_eq_of_lt (by omega),Qli,show(Qc3 r*256+x.toNat) / 256=Qc3 r by omega,Qq1 n r hr (by omega)]
   congr 2
   apply UInt8.toNat_inj.1;rw[UInt8.toNat_ofNat']
   omega
end Go.Proofs.YtbnfkjkoinbkgaaGreatDoor
