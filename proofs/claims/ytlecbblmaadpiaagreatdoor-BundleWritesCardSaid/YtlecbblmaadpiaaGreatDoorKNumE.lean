import Derived.WalkKit
import Derived.Below
import Derived.Deep.OwnRows
import Derived.Deep.Draws
import Derived.Laws.BytesArg
import Derived.Laws.AppendOwn
import Derived.Laws.NewBlocks
import Derived.Laws.IdiomStrings
import Derived.Lib.HexFns
import Derived.Lib.ItoaNum
import Derived.Lib.Hide
import Derived.Test.YtlecbblmaadpiaaGreatDoorRows
import Derived.WalkLawsBesides
import Derived.BigGuardPart
import Derived.BigQuiet
import Derived.Deep.QuietTactic
import Derived.Deep.DeepFit
import Derived.Deep.DeepCutAuto
import Derived.Outline
import Derived.Lib.Walk
import Derived.Lib.Strings
import Derived.Lib.SlBytesConst
import Derived.BigCall
import Derived.BigGuard
import Derived.Laws.Strings3
import Derived.Lib.EndianBits
import Derived.Laws.BitsAllLaws
import Derived.Maps.AppendAt
import Derived.Laws.OwnMore
import Derived.OwnWalk
import Derived.RegionTactic
namespace Go.Proofs.YtlecbblmaadpiaaGreatDoor
theorem nlr {n:Nat}:n≤n:=Nat.le_refl n
set_option maxRecDepth 100000
set_option maxHeartbeats 16000000
open Go.RowKit
def bv (x:UInt8):Value:=.int .u8 (x.toNat:Int)
def Rd (w:World) (B:Nat) (A:Option Addr) (n:Nat) (l:List UInt8):Prop :=
 l.length=n∧(0<n→∃ b o,A=some ⟨b,o,none⟩∧b<B∧∀ i,i<n→w.cell? ⟨b,o+i,none⟩=some (.int .u8 ((l.getD i 0).toNat:Int)))
def Rb (w:World) (b:Nat) (t:TypeId) (n:Nat) (l:List UInt8):Prop:=w.rowIs b t n (fun j=>.int .u8 ((l.getD j 0).toNat:Int))
section
variable {w w':World} {B B' n b:Nat} {A:Option Addr} {l:List UInt8} {t:TypeId}
theorem Rd.len (h:Rd w B A n l):l.length=n:=h.1
theorem Rd.keep (h:Rd w B A n l) (hk:∀ p:Addr,p.block<B→w'.cell? p=w.cell? p):Rd w' B A n l :=
 ⟨h.1,fun hn=>by
  obtain ⟨b,o,e,hb,hc⟩:=h.2 hn
  exact ⟨b,o,e,hb,fun i hi=>(hk ⟨b,o+i,none⟩ hb).trans (hc i hi)⟩⟩
theorem Rd.more (h:Rd w B A n l) (hB:B≤B'):Rd w B' A n l :=
 ⟨h.1,fun hn=>by
  obtain ⟨b,o,e,hb,hc⟩:=h.2 hn
  exact ⟨b,o,e,by omega,hc⟩⟩
theorem Rd.below (h:Rd w B A n l) (hb:Below B w w'):Rd w' B A n l:=h.keep fun _ hp=>hb.cell hp
theorem Rd.drew (h:Rd w B A n l):Rd w.drew B A n l:=h
theorem Rd.drewN (h:Rd w B A n l) (k:Nat):Rd (w.drewN k) B A n l:=h
theorem Rd.alloc (h:Rd w B A n l) (hB:B≤w.heap.size) (o:Obj):Rd (w.alloc o) B A n l:=h.keep fun p hp=>World.cell?_alloc_lt w o p (by omega)
theorem Rd.nil_:Rd w B A 0 []:=⟨rfl,fun h=>absurd h (by omega)⟩
theorem Rb.drew (h:Rb w b t n l):Rb w.drew b t n l:=h
theorem Rb.alloc (h:Rb w b t n l) (o:Obj):Rb (w.alloc o) b t n l:=World.rowIs.alloc h o
theorem Rb.below (h:Rb w b t n l) (hb:Below B w w') (hB:b<B):Rb w' b t n l:=World.rowIs.of_block h (hb.block b hB)
theorem Rb.lt (h:Rb w b t n l):b<w.heap.size:=World.rowIs.lt h
theorem Rb.rd (h:Rb w b t n l) (hl:l.length=n) (hB:b<B):Rd w B (some ⟨b,0,none⟩) n l :=
 ⟨hl,fun _=>⟨b,0,rfl,hB,fun i hi=>by rw [Nat.zero_add];exact World.rowIs.cell h hi⟩⟩
theorem Rb.made (w:World) (n:Nat) (t:TypeId):Rb (w.alloc (.cells (madeCells #[.int .u8 0] n) t)) w.heap.size t n []:=World.rowIs_made w _ n t
theorem Rb.push (h:Rb w b t n l) (x:UInt8) {k:Nat} (hk:l.length=k) {v:Value} (hv:v=.int .u8 (x.toNat:Int)):Rb (w.setCell ⟨b,k,none⟩ v) b t n (l++[x]):=by
 subst hk hv
 refine (World.rowIs.set h l.length _).congr fun j _=>?_
 by_cases e:j=l.length
 ·
  subst e;simp [List.getD]
 ·
  simp only [if_neg e]
  congr 3
  rcases Nat.lt_or_ge j l.length with hl|hl
  ·
   simp [List.getD,List.getElem?_append_left hl]
  ·
   have h1:l.length+1≤j:=by omega
   simp [List.getD,List.getElem?_eq_none (l:=l) hl,List.getElem?_append_right hl,List.getElem?_eq_none (l:=[x]) (i:=j - l.length) (by simp;omega)]
end
def Gives (l:List UInt8) (w:World) (e:Ending) (w':World):Prop :=
 ∃ (A:Option Addr) (n c:Nat),e=.returned (.slice A n c)∧Rd w' w'.heap.size A n l∧n≤c∧Below w.heap.size w w'
theorem run_str {P:Program} {w:World} {B:Nat} {A:Option Addr} {n c:Nat} {l:List UInt8} (h:Rd w B A n l) (src e dst:TypeId) (hs:P.underlying src=some (.slice e)) (he:P.underlying e=some (.int .u8)) (hd:P.underlying dst=some .string) :
  (convert src dst (.slice A n c)).run P w=.ok (.string ⟨l.toArray⟩) w:=by
 rcases Nat.eq_zero_or_pos n with h0|h0
 ·
  subst h0
  have hl:l=[]:=List.eq_nil_of_length_eq_zero h.1
  subst hl
  cases A with
  | none=>exact run_convert_bytes_nil (P:=P) w src e hs he 0 c dst hd
  | some a =>
   rw [run_convert_bytes_string w src dst e _ 0 c hs he hd,run_bytesToString w a 0 c [] (by
    have:=run_loadCells_list (P:=P) w a [] (fun j v hj=>by simp at hj)
    simpa using this)]
   rfl
 ·
  obtain ⟨b,o,rfl,_,hc⟩:=h.2 h0
  have hlen:=h.1
  have g:=run_convert_bytes_arg (P:=P) w src e hs he b o n c (l.map fun x=>(x.toNat:Int)) (by simpa using hlen) (fun i hi=>by
   rw [hc i hi]
   have hi':i<l.length:=by omega
   simp [List.getD,hi']) dst hd
  rw [g]
  congr 2
  unfold strOfNums
  congr 2
  rw [List.map_map]
  conv=>rhs;rw [← List.map_id l]
  apply List.map_congr_left
  intro x _
  simp
theorem Rd.cut {w:World} {B n k:Nat} {A:Option Addr} {l:List UInt8} (h:Rd w B A n l):Rd w B (A.map (·.add k)) (n - k) (l.drop k):=by
 refine ⟨by rw [List.length_drop,h.1],fun hn=>?_⟩
 obtain ⟨b,o,rfl,hb,hc⟩:=h.2 (by omega)
 refine ⟨b,o+k,by unfold Addr.add;simp,hb,fun i hi=>?_⟩
 rw [Nat.add_assoc,hc (k+i) (by omega)]
 simp [List.getD,List.getElem?_drop]
theorem cut_l {P:Program} {w:World} {B n:Nat} {A:Option Addr} {l:List UInt8} (t e:TypeId) (ht:P.underlying t=some (.slice e)) (hz:∀ W:World,(sizeOf e).run P W=.ok 1 W) (c:Nat) (h:Rd w B A n l) (x:Int) (k:Nat) (hx:x=(k:Int)) (hk:k≤n) (hc:n≤c) :
  ∃ A' c',(∀ W:World,(Instr.slice t (.slice A n c) (some (.int .i64 x)) none none).run P W=.ok (.slice A' (n - k) c') W)∧n - k≤c'∧c'≤c∧Rd w B A' (n - k) (l.drop k):=by
 subst hx
 by_cases hck:c=k
 ·
  refine ⟨A,c - k,fun W=>?_,by omega,by omega,?_⟩
  ·
   subst hck
   go_simp
  ·
   have hl:=h.1
   have e:n - k=0:=by omega
   rw [e,List.drop_eq_nil_of_le (by omega)]
   exact Rd.nil_
 ·
  refine ⟨A.map (·.add k),c - k,fun W=>?_,by omega,by omega,h.cut⟩
  go_simp
theorem Rd.take {w:World} {B n k:Nat} {A:Option Addr} {l:List UInt8} (h:Rd w B A n l) (hk:k≤n):Rd w B A k (l.take k):=by
 have hl:=h.1
 refine ⟨by rw [List.length_take];omega,fun hn=>?_⟩
 obtain ⟨b,o,e,hb,hc⟩:=h.2 (by omega)
 refine ⟨b,o,e,hb,fun i hi=>?_⟩
 rw [hc i (by omega)]
 simp [List.getD,hi]
theorem cut_h {P:Program} {w:World} {B n:Nat} {A:Option Addr} {l:List UInt8} (t e:TypeId) (ht:P.underlying t=some (.slice e)) (hz:∀ W:World,(sizeOf e).run P W=.ok 1 W) (c:Nat) (h:Rd w B A n l) (x:Int) (k:Nat) (hx:x=(k:Int)) (hk:k≤n) (hc:n≤c) :
  ∃ A' c',(∀ W:World,(Instr.slice t (.slice A n c) none (some (.int .i64 x)) none).run P W=.ok (.slice A' k c') W)∧k≤c'∧c'≤c∧Rd w B A' k (l.take k):=by
 subst hx
 by_cases hc0:c=0
 ·
  have hk0:k=0:=by omega
  subst hk0 hc0
  refine ⟨A,0,fun W=>?_,by omega,by omega,h.take hk⟩
  go_simp
 ·
  refine ⟨A,c,fun W=>?_,by omega,by omega,h.take hk⟩
  go_simp
  intro h
  omega
theorem sliceAt_l {P:Program} (t e:TypeId) (N:Nat) (ht:P.underlying t=some (.array (P.arrayLen t) (P.elem t))) (hN:P.arrayLen t=N) (he:P.elem t=e) (hz:∀ W:World,(sizeOf e).run P W=.ok 1 W) (b f:Nat) (x:Int) (hx:x=(f:Int)) (hf:f<N) (W:World) :
  (Instr.sliceAt t (.pointer (some ⟨b,0,none⟩)) (some (.int .i64 x)) none none).run P W=.ok (.slice (some ⟨b,f,none⟩) (N - f) (N - f)) W:=by
 subst hx
 rw [run_sliceAt_array_l W t ⟨b,0,none⟩ ht .i64 (f:Int) (by omega) (by omega),he,hz,hN]
 have hne:¬ N=f:=by omega
 by_cases h0:f=0
 ·
  subst h0
  simp [Result.andThen,slicedAt,Addr.add]
 ·
  simp [Result.andThen,slicedAt,Addr.add,hne,h0]
theorem rowIs_rd {w:World} {B b N f n:Nat} {t:TypeId} {F:Nat→Value} {l:List UInt8} (h:w.rowIs b t N F) (hl:l.length=n) (hn:f+n≤N) (hB:b<B) (hF:∀ i,i<n→F (f+i)=.int .u8 ((l.getD i 0).toNat:Int)) :
  Rd w B (some ⟨b,f,none⟩) n l :=
 ⟨hl,fun _=>⟨b,f,rfl,hB,fun i hi=>by rw [h.cell (by omega),hF i hi]⟩⟩
theorem Rd.litm (w:World) (g:Nat) (hg:w.heap.size=g) (l:List UInt8) (t:TypeId) (cs:Array Value) (fr:Nat×Nat) (hcs:cs=(l.map fun x=>Value.int .u8 (x.toNat:Int)).toArray) (n:Nat) (hn:l.length=n):Rd (w.alloc (.cells cs t fr)) (g+1) (some ⟨g,0,none⟩) n l:=by
 subst hcs hg
 refine ⟨hn,fun _=>⟨_,0,rfl,by omega,fun i hi=>?_⟩⟩
 have hi':i<l.length:=by omega
 rw [Nat.zero_add,World.cell?_alloc_mark]
 simp [List.getD,hi']
theorem Rd.lit (w:World) (g:Nat) (hg:w.heap.size=g) (l:List UInt8) (t:TypeId) (cs:Array Value) (hcs:cs=(l.map fun x=>Value.int .u8 (x.toNat:Int)).toArray) (n:Nat) (hn:l.length=n):Rd (w.alloc (.cells cs t)) (g+1) (some ⟨g,0,none⟩) n l :=
 Rd.litm w g hg l t cs _ hcs n hn
theorem wf_u8 {n:Int} (h:(Lit.int .u8 n).wf=true):0≤n∧n<256:=by
 simp [Lit.wf,IntKind.min,IntKind.max,IntKind.signed,IntKind.bits] at h
 omega
theorem Rd.of_ints {w:World} {x:Addr} {n c:Nat} {zs:List Int} (hn:n≤c) (hz:zs.length=c) (hcell:∀ i,i<zs.length→w.cell? (x.add i)=some (.int .u8 (zs.getD i 0))) (hw:∀ z∈zs,(Lit.int .u8 z).wf=true) :
  Rd w w.heap.size (some x) n ((zs.take n).map fun z=>UInt8.ofNat z.toNat):=by
 refine ⟨by simp;omega,fun h0=>?_⟩
 obtain ⟨b,off,spot⟩:=x
 have hc:=hcell 0 (by omega)
 have hspot:spot=none:=by simpa [Addr.add] using World.cell?_spot hc
 subst hspot
 refine ⟨b,off,rfl,?_,fun i hi=>?_⟩
 ·
  have h:=World.block_lt_of_cell? w _ hc
  simpa [Addr.add] using h
 ·
  have hi':i<zs.length:=by omega
  have h:=hcell i hi'
  have e:(⟨b,off,none⟩:Addr).add i=⟨b,off+i,none⟩:=by unfold Addr.add;split <;> simp_all
  rw [e] at h
  rw [h]
  have hb:=wf_u8 (hw _ (List.getElem_mem hi'))
  simp [List.getD,hi,hi']
  omega
/-! ### The plain functions -/
def hv (c:Int):Int:=if 48≤c∧c≤57 then c - 48 else if 97≤c∧c≤102 then c - 87 else 0
theorem take_more (l:List UInt8) (k:Nat) (h:k<l.length):l.take (k+1)=l.take k++[l.getD k 0]:=by
 rw [List.take_succ_eq_append_getElem h]
 simp [List.getD,h]
def be (x:Nat) (n:Nat):List UInt8:=(List.range n).map fun j=>UInt8.ofNat (x / 256 ^ (n - 1 - j))
theorem be_length (x n:Nat):(be x n).length=n:=by simp [be]
def beNat (l:List UInt8):Nat:=l.foldl (fun a x=>(a*256+x.toNat) % 18446744073709551616) 0
theorem ret_int {k:IntKind} {a b:Int} (h:a=b):Ending.returned (.int k a)=.returned (.int k b):=by rw [h]
theorem info_u8:(Tryz.prog.info? 5).map (fun i=>(i.zero,i.size,i.bytes))=some (some (.int .u8 0),1,1):=by kernel_rfl
theorem size_u8 (W:World):(sizeOf 5).run Tryz.prog W=.ok 1 W:=by kernel_rfl
theorem run_const (w:World) (C:Array Value) (n c:Nat):(convert 27 27 (.slice (some ⟨w.heap.size,0,none⟩) n c)).run Tryz.prog (w.alloc (.cells C 5))=.ok (.slice (some ⟨w.heap.size,0,none⟩) n c) (w.alloc (.cells C 5 (C.size,C.size+1))) :=
 Lib.run_convert_bytes_const w _ _ C n c (by kernel_rfl) (by kernel_rfl)
def psz (size:Int):Nat:=(min (max size 0) 8).toNat
theorem psz_le (size:Int):psz size≤8:=by unfold psz;omega
theorem psz_eq (size:Int):min (max size 0) 8=(psz size:Int):=by unfold psz;omega
def putRow (x n k:Nat):Nat→Value:=fun j=>if n≤j+k then .int .u8 ((UInt8.ofNat (x / 256 ^ (n - 1 - j))).toNat:Int) else .int .u8 0
theorem byte_at_pow (x:Int) (h0:0≤x) (k:Nat):Value.int .u8 (x / 2 ^ (8*k) % 256)=.int .u8 ((UInt8.ofNat (x.toNat / 256 ^ k)).toNat:Int):=by
 obtain ⟨a,rfl⟩:=Int.eq_ofNat_of_zero_le h0
 rw [UInt8.toNat_ofNat',Int.toNat_natCast]
 have e:(2:Int) ^ (8*k)=((256 ^ k:Nat):Int):=by
  rw [Int.pow_mul]
  simp
 rw [e]
 congr 1
theorem putRow_step (x:Int) (h0:0≤x) (n k j:Nat) (hlt:k<n) (_hj:j<n) :
  (if j=n - 1 - k then Value.int .u8 (x / 2 ^ (8*k) % 256) else putRow x.toNat n k j)=putRow x.toNat n (k+1) j:=by
 unfold putRow
 by_cases e:j=n - 1 - k
 ·
  subst e
  rw [if_pos rfl,if_pos (by omega),byte_at_pow x h0,show n - 1 - (n - 1 - k)=k by omega]
 ·
  rw [if_neg e]
  by_cases h:n≤j+k
  ·
   rw [if_pos h,if_pos (by omega)]
  ·
   rw [if_neg h,if_neg (by omega)]
theorem putRow_end (x n j:Nat) (hj:j<n):putRow x n n j=.int .u8 (((be x n).getD j 0).toNat:Int):=by
 unfold putRow
 rw [if_pos (by omega)]
 simp [be,List.getD,hj]
theorem or_swap (a b:Int):bits BinOp.or IntKind.u64 a b=bits BinOp.or IntKind.u64 b a:=by
 unfold bits
 simp [BitVec.or_comm]
theorem shl_or (a:Nat) (x:Int) (h0:0≤x) (h1:x<256):bits BinOp.or IntKind.u64 (IntKind.u64.wrap ((a:Int)*256)) x=((a:Int)*256+x) % 18446744073709551616:=by
 rw [or_swap,IntKind.wrap_u64,u64_or8 _ _ h0 h1 (by omega) (by omega) (by omega)]
 omega
theorem beNat_snoc (l:List UInt8) (x:UInt8):beNat (l++[x])=(beNat l*256+x.toNat) % 18446744073709551616:=by
 unfold beNat
 rw [List.foldl_append]
 rfl
theorem be_succ (x n:Nat):be x (n+1)=be (x / 256) n++[UInt8.ofNat x]:=by
 unfold be
 rw [List.range_succ,List.map_append]
 congr 1
 ·
  refine List.map_congr_left fun j hj=>?_
  have hj':j<n:=List.mem_range.1 hj
  rw [show n+1 - 1 - j=(n - 1 - j)+1 by omega,Nat.pow_succ,Nat.mul_comm,← Nat.div_div_eq_div_mul]
 ·
  simp
theorem beNat_be:∀ (n x:Nat),n≤8→beNat (be x n)=x % 256 ^ n
 | 0,x,_=>by simp [be,beNat,Nat.mod_one]
 | n+1,x,h=>by
  have hp:256 ^ (n+1)≤256 ^ 8:=Nat.pow_le_pow_right (by decide) h
  rw [be_succ,beNat_snoc,beNat_be n (x / 256) (by omega),UInt8.toNat_ofNat']
  have e:x % 256 ^ (n+1)=x / 256 % 256 ^ n*256+x % 256:=by
   rw [Nat.pow_succ,Nat.mul_comm,Nat.mod_mul]
   omega
  have hlt:x % 256 ^ (n+1)<256 ^ (n+1):=Nat.mod_lt _ (Nat.pow_pos (by decide))
  rw [show (2:Nat) ^ 8=256 from rfl,← e]
  exact Nat.mod_eq_of_lt (Nat.lt_of_lt_of_le hlt hp)
theorem beNat_lt (l:List UInt8):beNat l<18446744073709551616:=by
 rcases List.eq_nil_or_concat l with rfl|⟨r,x,rfl⟩
 ·
  decide
 ·
  rw [List.concat_eq_append,beNat_snoc];exact Nat.mod_lt _ (by decide)
theorem beNat_bd:∀ (n:Nat) (l:List UInt8),l.length=n→n≤8→beNat l<256 ^ n
 | 0,l,h,_=>by obtain rfl:=List.eq_nil_of_length_eq_zero h;decide
 | n+1,l,h,h8=>by
  rcases List.eq_nil_or_concat l with rfl|⟨r,x,rfl⟩
  ·
   simp at h
  ·
   have hr:r.length=n:=by simpa using h
   have ih:=beNat_bd n r hr (by omega)
   have hx:=x.toNat_lt
   have hp:256 ^ (n+1)≤256 ^ 8:=Nat.pow_le_pow_right (by decide) h8
   have e:256 ^ (n+1)=256 ^ n*256:=Nat.pow_succ ..
   rw [List.concat_eq_append,beNat_snoc,Nat.mod_eq_of_lt (by omega)]
   omega
theorem be_beNat:∀ (n:Nat) (l:List UInt8),l.length=n→n≤8→be (beNat l) n=l
 | 0,l,h,_=>by obtain rfl:=List.eq_nil_of_length_eq_zero h;rfl
 | n+1,l,h,h8=>by
  rcases List.eq_nil_or_concat l with rfl|⟨r,x,rfl⟩
  ·
   simp at h
  ·
   have hr:r.length=n:=by simpa using h
   have ih:=beNat_bd n r hr (by omega)
   have hx:=x.toNat_lt
   have hp:256 ^ (n+1)≤256 ^ 8:=Nat.pow_le_pow_right (by decide) h8
   have e:256 ^ (n+1)=256 ^ n*256:=Nat.pow_succ ..
   rw [List.concat_eq_append,beNat_snoc,Nat.mod_eq_of_lt (by omega),be_succ,show (beNat r*256+x.toNat) / 256=beNat r by omega,be_beNat n r hr (by omega)]
   congr 2
   apply UInt8.toNat_inj.1
   rw [UInt8.toNat_ofNat']
   omega
theorem same_any (A A':Option Addr) (n c n' c' B B':Nat) (l l':List UInt8) (w:World) (h:Rd w B A n l) (h':Rd w B' A' n' l') :
  Calls Tryz.prog 51 #[.slice A n c,.slice A' n' c'] w fun e w'=>e=.returned (.bool (l==l'))∧w=w':=by
 have g:=run_str (P:=Tryz.prog) (c:=c) h 27 5 9 Tryz.underlying27 Tryz.underlying5 Tryz.underlying9
 have g':=run_str (P:=Tryz.prog) (c:=c') h' 27 5 9 Tryz.underlying27 Tryz.underlying5 Tryz.underlying9
 clear h h'
 go_enter Tryz.func51,Tryz.ntmps51
 go_wp2
 go_ret
 exact ⟨rfl,rfl⟩
theorem same_true (A A':Option Addr) (n c n' c' B B':Nat) (l:List UInt8) (w:World) (h:Rd w B A n l) (h':Rd w B' A' n' l) :
  Calls Tryz.prog 51 #[.slice A n c,.slice A' n' c'] w fun e w'=>e=.returned (.bool true)∧w=w' :=
 (same_any A A' n c n' c' B B' l l w h h').mono fun _ _ ⟨he,hw⟩=>⟨by rw [he,show (l==l)=true by simp],hw⟩
theorem bv_one (l:List UInt8):∀ u∈l.map bv,u.oneCell'=true:=by
 intro u hu
 obtain ⟨x,_,rfl⟩:=List.mem_map.1 hu
 rfl
def Ob (w:World) (base:Nat) (t:TypeId) (v:Value) (l:List UInt8):Prop:=w.ownsRow base t 1 v l.length (l.map bv)
section
variable {w w':World} {base:Nat} {t:TypeId} {v:Value} {l:List UInt8}
theorem Ob.nil_ (w:World) (base:Nat) (t:TypeId):Ob w base t (.slice none 0 0) []:=World.ownsRow_nil w base t 1
theorem Ob.lit (w:World) (l:List UInt8) (cs:Array Value) (hcs:cs=(l.map bv).toArray) (hb:base≤w.heap.size) (n:Nat) (hn:l.length=n) (hm:n≤maxLen):Ob (w.alloc (.cells cs t)) base t (.slice (some ⟨w.heap.size,0,none⟩) n n) l:=by
 subst hcs hn
 have h:=World.ownsRow_lit (e:=t) (size:=1) w (l.map bv).toArray l.length hb hm (by simp)
 exact h
theorem Ob.alloc (h:Ob w base t v l) (o:Obj):Ob (w.alloc o) base t v l:=World.ownsRow.alloc h o
theorem Ob.drew (h:Ob w base t v l):Ob w.drew base t v l:=h
theorem Ob.kept {row:Option Nat} (h:Ob w base t v l) (hg:w.grownBy w' row) (hne:v.ownBlock=none∨v.ownBlock≠row):Ob w' base t v l:=World.ownsRow.kept h hg hne
theorem Ob.below (h:Ob w base t v l) (hb:Below w.heap.size w w'):Ob w' base t v l :=
 World.ownsRow.kept h (row:=none) ⟨hb.os,hb.tape,hb.output,hb.size,fun k hk _=>hb.block k hk⟩ (by cases v.ownBlock <;> simp)
theorem Ob.rd (h:Ob w base t v l):∃ (A:Option Addr) (c:Nat),v=.slice A l.length c∧l.length≤c∧c≤maxLen∧Rd w w.heap.size A l.length l:=by
 rcases h.2 with ⟨hv,h0⟩|⟨g,cap,cur,hv,_,hg,hn,hm,_⟩
 ·
  have e:l=[]:=List.eq_nil_of_length_eq_zero h0
  subst e
  exact ⟨none,0,hv,Nat.le_refl _,by decide,Rd.nil_⟩
 ·
  refine ⟨some ⟨g,0,none⟩,cap,hv,hn,hm,rfl,fun h0=>⟨g,0,rfl,?_,fun i hi=>?_⟩⟩
  ·
   have hb:v.ownBlock=some g:=by rw [hv];rfl
   exact (World.ownsRow.lt h g hb).2
  ·
   have hc:=World.ownsRow.cells h (g:=g) (by rw [hv];rfl) i (bv l[i]) (by simp [hi])
   simp only [List.getD,List.getElem?_eq_getElem hi]
   unfold Addr.add at hc
   by_cases h0:i=0
   ·
    subst h0;simpa [bv] using hc
   ·
    rw [if_neg h0] at hc;simpa [bv] using hc
end
section
variable {w w':World} {base:Nat} {t:TypeId} {v:Value} {l:List UInt8}
theorem Ob.form (h:Ob w base t v l) (h0:0<l.length):∃ g cap,v=.slice (some ⟨g,0,none⟩) l.length cap∧base≤g∧g<w.heap.size∧l.length≤cap:=by
 rcases h.2 with ⟨_,hn⟩|⟨g,cap,cur,hv,hbg,_,hn,_⟩
 ·
  omega
 ·
  exact ⟨g,cap,hv,hbg,(World.ownsRow.lt h g (by rw [hv];rfl)).2,hn⟩
theorem Ob.rd_ {A:Option Addr} {n cap:Nat} (h:Ob w base t (.slice A n cap) l):l.length=n∧Rd w w.heap.size A n l∧n≤cap∧cap≤maxLen:=by
 obtain ⟨A2,c2,hv,hc,hm,hr⟩:=h.rd
 injection hv with h1 h2 h3
 subst h1 h2 h3
 exact ⟨rfl,hr,hc,hm⟩
variable {g cap n:Nat}
theorem Ob.cell (h:Ob w base t (.slice (some ⟨g,0,none⟩) n cap) l) (hn:l.length=n) {j:Nat} (hj:j<n):w.cell? ⟨g,j,none⟩=some (.int .u8 ((l.getD j 0).toNat:Int)):=by
 subst hn
 have:=World.ownsRow.cellAt h j (by omega)
 rw [this]
 simp [List.getD,hj,bv]
theorem Ob.frozen (h:Ob w base t (.slice (some ⟨g,0,none⟩) n cap) l) (hn:l.length=n) (j:Nat):w.frozen? ⟨g,j,none⟩=false:=by
 subst hn
 exact World.ownsRow.frozenAt h j
theorem Ob.stored (h:Ob w base t (.slice (some ⟨g,0,none⟩) n cap) l) (hn:l.length=n) (j:Nat) (x:UInt8) {u:Value} (hu:u=.int .u8 (x.toNat:Int)):Ob (w.setCell ⟨g,j,none⟩ u) base t (.slice (some ⟨g,0,none⟩) n cap) (l.set j x):=by
 subst hn hu
 have:=World.ownsRow.stored h j (bv x)
 unfold Ob
 rw [List.length_set,List.map_set]
 exact this.1
end
section
variable {P:Program} (w:World)
theorem run_app_none (base:Nat) (t ty e:TypeId) (i:TypeInfo) (ht:P.underlying t=some (.slice e)) (hi:P.info? e=some i) (v:Value) (l:List UInt8) (hown:Ob w base e v l) (c:Nat) :
  (Builtin.append_ #[t,t] ty #[v,.slice none 0 c]).run P w=.ok v w:=by
 rcases hown.2 with ⟨rfl,hn⟩|⟨g,cap,cur,rfl,_,_,hnc,_⟩
 ·
  simp [Builtin.append_,run_underlying ht,sizeOf,typeInfo,hi,Builtin.lenOf,Builtin.firstCells]
 ·
  simp [Builtin.append_,run_underlying ht,sizeOf,typeInfo,hi,Builtin.lenOf,Builtin.firstCells,hnc,storeCells]
theorem run_app (base:Nat) (t ty e:TypeId) (ht:P.underlying t=some (.slice e)) (hinfo:(P.info? e).map (fun i=>(i.zero,i.size,i.bytes))=some (some (.int .u8 0),1,1))
  (v:Value) (l:List UInt8) (hown:Ob w base e v l) (B:Nat) (A:Option Addr) (m c:Nat) (news:List UInt8) (hr:Rd w B A m news) (hbound:l.length+m≤140737488355328) (hbase:base≤w.heap.size) :
  ∃ v' w',(Builtin.append_ #[t,t] ty #[v,.slice A m c]).run P w=.ok v' w'∧Ob w' base e v' (l++news)∧w.grownBy w' v.ownBlock∧(v'.ownBlock=v.ownBlock∨v'.ownBlock=some w.heap.size):=by
 obtain ⟨i,hi,hzz⟩:=Option.map_eq_some_iff.1 hinfo
 simp only [Prod.mk.injEq] at hzz
 obtain ⟨hz,hs,hb⟩:=hzz
 have hlen:=hr.1
 rcases A with _|ad
 ·
  have h0:m=0:=by
   rcases Nat.eq_zero_or_pos m with h|h
   ·
    exact h
   ·
    obtain ⟨_,_,h',_⟩:=hr.2 h
    cases h'
  subst h0
  have hn:news=[]:=List.eq_nil_of_length_eq_zero hlen
  subst hn
  exact ⟨v,w,run_app_none w base t ty e i ht hi v l hown c,by simpa using hown,World.grownBy.refl w _,.inl rfl⟩
 ·
  have hcells:∀ j u,(news.map bv)[j]?=some u→w.cell? (ad.add j)=some u:=by
   intro j u hu
   rcases Nat.eq_zero_or_pos m with h0|h0
   ·
    have hn:news=[]:=List.eq_nil_of_length_eq_zero (by omega)
    subst hn
    simp at hu
   ·
    obtain ⟨b,o,e1,_,hc⟩:=hr.2 h0
    injection e1 with e1
    subst e1
    have hj:j<news.length:=by
     rcases Nat.lt_or_ge j news.length with h|h
     ·
      exact h
     ·
      rw [List.getElem?_eq_none (by simpa using h)] at hu;cases hu
    have h:=hc j (by omega)
    have ea:(⟨b,o,none⟩:Addr).add j=⟨b,o+j,none⟩:=by unfold Addr.add;split <;> simp_all
    rw [ea,h,← hu]
    simp [List.getD,hj,bv]
  obtain ⟨v',w',hrun,h2,h3,_,h5⟩:=run_append_own_at (P:=P) w base t ty e i (.int .u8 0) 1 1 ht hi hz hs hb rfl (by decide) v l.length (l.map bv) hown ad m c (news.map bv) (by simp [hlen]) hcells (bv_one news)
   (by unfold maxLen;omega) (by omega) hbase
  refine ⟨v',w',hrun,?_,h3,h5⟩
  unfold Ob
  rw [List.length_append,hlen,List.map_append]
  exact h2
theorem wpList_app {w:World} {ops:Array Oper} {rest:List Oper} {o:Oper} {a:Act} {Q:Exit→Act→World→Prop} (hgd:o.guard=none) (s x:Operand) (t:TypeId)
  (ho:o.op=.call { callee:=.builtin .append,args:=#[s,x],argTypes:=#[t,t] })
  (base:Nat) (e:TypeId) (ht:P.underlying t=some (.slice e)) (hinfo:(P.info? e).map (fun i=>(i.zero,i.size,i.bytes))=some (some (.int .u8 0),1,1))
  (v:Value) (l:List UInt8) (hs:a.eval s=v) (hown:Ob w base e v l) (B:Nat) (A:Option Addr) (m c:Nat) (news:List UInt8) (hx:a.eval x=.slice A m c) (hr:Rd w B A m news)
  (hbound:l.length+m≤140737488355328) (hbase:base≤w.heap.size)
  (h:∀ v' w',Ob w' base e v' (l++news)→w.grownBy w' v.ownBlock→(v'.ownBlock=v.ownBlock∨v'.ownBlock=some w.heap.size)→wpList P ops Q rest (a.put o.dst v') w'):wpList P ops Q (o::rest) a w:=by
 refine wpList_plain hgd fun K hK=>?_
 obtain ⟨v',w',hrun,h2,h3,h4⟩:=run_app (P:=P) w base t o.type e ht hinfo v l hown B A m c news hr hbound hbase
 unfold Oper.wp execOp
 simp only [ho,resolve,invoke,builtin,Sem.run_bind,Sem.run_pure,Result.andThen_ok,List.map_toArray,List.map_cons,List.map_nil,hs,hx,hrun]
 exact hK _ _ (h v' w' h2 h3 h4)
theorem le_alloc (w:World) (o:Obj):w.heap.size≤(w.alloc o).heap.size:=by simp
theorem wpList_appB {w:World} {ops:Array Oper} {rest:List Oper} {o:Oper} {a:Act} {Q:Exit→Act→World→Prop} (hgd:o.guard=none) (s x:Operand) (t:TypeId)
  (ho:o.op=.call { callee:=.builtin .append,args:=#[s,x],argTypes:=#[t,t] })
  (base:Nat) (e:TypeId) (ht:P.underlying t=some (.slice e)) (hinfo:(P.info? e).map (fun i=>(i.zero,i.size,i.bytes))=some (some (.int .u8 0),1,1))
  (v:Value) (l:List UInt8) (hs:a.eval s=v) (hown:Ob w base e v l) (B:Nat) (A:Option Addr) (m c:Nat) (news:List UInt8) (hx:a.eval x=.slice A m c) (hr:Rd w B A m news)
  (hbound:l.length+m≤140737488355328) (hbase:base≤w.heap.size)
  (h:∀ v' w',Ob w' base e v' (l++news)→Below base w w'→wpList P ops Q rest (a.put o.dst v') w'):wpList P ops Q (o::rest) a w :=
 wpList_app hgd s x t ho base e ht hinfo v l hs hown B A m c news hx hr hbound hbase fun v' w' h1 h2 _ =>
  h v' w' h1 ⟨h2.os,h2.tape,h2.output,h2.size,fun k hk=>h2.block k (by omega) (fun e=>by have:=(World.ownsRow.lt hown k e.symm).1;omega)⟩
end
theorem conv_bytes (W:World) (s:ByteArray):∃ (c:Nat) (W':World),(convert 9 27 (.string s)).run Tryz.prog W=.ok (.slice (some ⟨W.heap.size,0,none⟩) s.size c) W' ∧
  Rd W' (W.heap.size+1) (some ⟨W.heap.size,0,none⟩) s.size s.data.toList∧s.size≤c∧Below W.heap.size W W'∧W'.heap.size=W.heap.size+1:=by
 refine ⟨_,_,run_bytes_of_string W _ _ 5 s Tryz.underlying9 Tryz.underlying27 Tryz.underlying5,⟨by simp,fun _=>⟨_,0,rfl,Nat.lt_succ_self _,fun i hi=>?_⟩⟩,?_,?_,?_⟩
 ·
  rw [Nat.zero_add]
  have h:=World.cell?_alloc_mark W.drew (bytesRow s (grownCap W s.size 0 5)) 5 ((bytesRow s (grownCap W s.size 0 5)).size,(bytesRow s (grownCap W s.size 0 5)).size+1) i
  refine Eq.trans h ?_
  have hi':i<s.data.size:=hi
  unfold bytesRow
  rw [Array.getElem?_append_left (by simpa using hi')]
  simp only [Array.getElem?_map,Array.getElem?_eq_getElem hi',Option.map_some,List.getD,Array.getElem?_toList,Option.getD_some]
 ·
  exact grownCap_ge W s.size 0 _
 ·
  exact ((Below.refl W.heap.size W).drew).alloc nlr _
 ·
  simp
open Go.Lib (hid)
theorem put_any (x size:Int) (w:World) (hx0:0≤x) (_hx1:x<18446744073709551616) :
  Calls Tryz.prog 207 #[.int .u64 x,.int .i64 size] w fun e w' =>
   e=.returned (.slice (some ⟨w.heap.size,0,none⟩) (psz size) (psz size))∧Rb w' w.heap.size 5 (psz size) (be x.toNat (psz size))∧Below w.heap.size w w':=by
 have hsz:=psz_eq size
 have hle:=psz_le size
 generalize psz size=n at *
 have hmk:=fun (w:World)=>run_make_row' (P:=Tryz.prog) 27 5 (.int .u8 0) 1 rfl info_u8 rfl .i64 .i64 n (by omega) (by omega) w
 go_enter Tryz.func207,Tryz.ntmps207
 go_wp2
 go_loopw [13] (fun i wr=>∃ k:Nat,k≤n∧i=.int .i64 k∧Hid (wr.rowIs w.heap.size 5 n (putRow x.toNat n k))∧Hid (Below w.heap.size w wr))
  (fun i _=>n - (intOf i).toNat)
 case atStart=>exact ⟨0,Nat.zero_le _,rfl,(World.rowIs_made _ _ _ _).congr (fun j hj=>by simp [putRow];omega),(Below.refl _ _).alloc nlr _⟩
 case round =>
  obtain ⟨k,hk,rfl,hrow,hbel⟩:=hrel
  by_cases hlt:k<n
  ·
   have hf1:wr.frozen? ⟨w.heap.size,n - 1 - k,none⟩=false:=World.rowIs.frozen hrow.out _
   have hc1:wr.cell? ⟨w.heap.size,n - 1 - k,none⟩=some _:=World.rowIs.cell hrow.out (by omega)
   go_wp2_with fail
   go_roundw
   case rel =>
    refine ⟨k+1,by omega,by go_num,(World.rowIs.set hrow.out _ _).congr fun j hj=>?_,hbel.out.setCell (by simp) _⟩
    exact putRow_step x hx0 n k j hlt hj
   case measure=>simp [intOf];omega
  ·
   obtain rfl:k=n:=by omega
   have hr:Rb wr w.heap.size 5 k (be x.toNat k):=hrow.out.congr fun j hj=>putRow_end x.toNat k j hj
   have HR:=hid hr
   clear hr
   go_wp2
   go_ret
   exact ⟨rfl,HR.out,hbel.out⟩
theorem get_any (A:Option Addr) (n c:Nat) (l:List UInt8) (w:World) (B:Nat) (h:Rd w B A n l) (hn:n≤9223372036854775807) (hc:n≤c) (hc2:c≤9223372036854775807) :
  Calls Tryz.prog 228 #[.slice A n c] w fun e w'=>e=.returned (.int .u64 (beNat (l.drop (n - 8)):Int))∧w=w':=by
 obtain ⟨A',c',hsl,hr⟩:=cut_l (P:=Tryz.prog) 27 5 rfl size_u8 c h (max ((n:Int) - 8) 0) (n - 8) (by omega) (by omega) hc
 have hl8:n - (n - 8)≤8:=by omega
 generalize hm:n - (n - 8)=m at *
 generalize l.drop (n - 8)=L at *
 have HR:=hid hr.2.2
 clear h hc hr
 go_enter Tryz.func228,Tryz.ntmps228
 go_wp2
 go_loop [4,14] (fun v i=>∃ k:Nat,k≤m∧i=.int .i64 k∧v=.int .u64 (beNat (L.take k):Int)) (fun _ i=>m - (intOf i).toNat)
 case atStart=>exact ⟨0,Nat.zero_le _,rfl,by simp [beNat]⟩
 case round =>
  obtain ⟨k,hk,rfl,rfl⟩:=hrel
  by_cases hlt:k<m
  ·
   obtain ⟨b,o,rfl,hb,hcell⟩:=HR.out.2 (by omega)
   obtain ⟨x,hx⟩:∃ x,x=L.getD k 0:=⟨_,rfl⟩
   have hcx:w.cell? ⟨b,o+k,none⟩=some (.int .u8 (x.toNat:Int)):=by rw [hx];exact hcell k hlt
   have HC:=hid hcell
   have Hx:=hid hx
   clear hx hcell
   have hx1:(x.toNat:Int)<256:=by have:=x.toNat_lt;omega
   have hx0:(0:Int)≤(x.toNat:Int):=by omega
   go_wp2_with fail
   go_round
   case rel =>
    have hl:=HR.out.1
    refine ⟨k+1,by omega,by go_num,?_⟩
    rw [take_more L k (by omega),← Hx.out,beNat_snoc,shl_or _ _ hx0 hx1]
    go_num
   case measure=>simp [intOf];omega
  ·
   obtain rfl:k=m:=by omega
   have hl:=HR.out.1
   have e:L.take k=L:=List.take_of_length_le (by omega)
   have HE:=hid e
   clear e hl
   go_wp2
   go_ret
   exact ⟨by rw [HE.out];rfl,rfl⟩
theorem bequal_any (A A':Option Addr) (n c n' c' B:Nat) (l l':List UInt8) (w:World) (h:Rd w B A n l) (h':Rd w B A' n' l') :
  Calls Tryz.prog 158 #[.slice A n c,.slice A' n' c'] w fun e w'=>e=.returned (.bool (l==l'))∧w=w':=by
 have r1:=run_str (P:=Tryz.prog) (c:=c) h 27 5 9 Tryz.underlying27 Tryz.underlying5 Tryz.underlying9
 have r2:=run_str (P:=Tryz.prog) (c:=c') h' 27 5 9 Tryz.underlying27 Tryz.underlying5 Tryz.underlying9
 have e1:(⟨l.toArray⟩:ByteArray).toList=l:=by rw [Lib.toList_data]
 have e2:(⟨l'.toArray⟩:ByteArray).toList=l':=by rw [Lib.toList_data]
 have HE:=hid (And.intro e1 e2)
 generalize (⟨l.toArray⟩:ByteArray)=s at *
 generalize (⟨l'.toArray⟩:ByteArray)=s' at *
 clear h h' e1 e2
 go_enter Tryz.func158,Tryz.ntmps158
 go_wp2_with fail
 go_ret
 refine ⟨?_,rfl⟩
 have h:(s.toList==s'.toList)=(l==l'):=by rw [HE.out.1,HE.out.2]
 rw [← h]
 rfl
end Go.Proofs.YtlecbblmaadpiaaGreatDoor
