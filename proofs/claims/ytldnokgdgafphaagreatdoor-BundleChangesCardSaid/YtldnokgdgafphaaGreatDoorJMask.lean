/- Words for slices of bytes: a slice that reads as a list of bytes ('Rd'), a new row of bytes known whole ('Rb'), and the plain functions of layer 1: 'unhex', 'enc16', 'be', 'beNat'. No program's number stands here. -/
import Derived.WalkKit
import Derived.Below
import Derived.Deep.OwnRows
import Derived.Deep.Draws
import Derived.Laws.BytesArg
import Derived.Laws.AppendOwn
import Derived.Laws.NewBlocks
import Derived.Laws.IdiomStrings
import Derived.Lib.HexFns
import Derived.Lib.ItoaNum
import Derived.Lib.Hide
import Derived.Test.YtldnokgdgafphaaGreatDoorRows
import Derived.WalkLawsBesides
import Derived.BigGuardPart
import Derived.BigQuiet
import Derived.Deep.QuietTactic
import Derived.Deep.DeepFit
import Derived.Deep.DeepCutAuto
import Derived.Outline
import Derived.Lib.Walk
import Derived.Lib.Strings
import Derived.Lib.SlBytesConst
import Derived.BigCall
import Derived.BigGuard
import Derived.Laws.Strings3
import Derived.Lib.EndianBits
import Derived.Laws.BitsAllLaws
import Derived.Maps.AppendAt
import Derived.Laws.OwnMore
import Derived.OwnWalk
import Derived.RegionTactic
namespace Go.Proofs.YtldnokgdgafphaaGreatDoor
open Go.RowKit
def bv (x:UInt8):Value:=.int .u8 (x.toNat:Int)
def Rd (w:World) (B:Nat) (A:Option Addr) (n:Nat) (l:List UInt8):Prop :=
  l.length=n∧(0<n→∃ b o,A=some ⟨b,o,none⟩∧b<B∧∀ i,i<n→w.cell? ⟨b,o+i,none⟩=some (.int .u8 ((l.getD i 0).toNat:Int)))
def Rb (w:World) (b:Nat) (t:TypeId) (n:Nat) (l:List UInt8):Prop:=w.rowIs b t n (fun j=>.int .u8 ((l.getD j 0).toNat:Int))
section
variable {w w':World} {B B' n b:Nat} {A:Option Addr} {l:List UInt8} {t:TypeId}
theorem Rd.len (h:Rd w B A n l):l.length=n:=h.1
theorem Rd.keep (h:Rd w B A n l) (hk:∀ p:Addr,p.block<B→w'.cell? p=w.cell? p):Rd w' B A n l :=
  ⟨h.1,fun hn=>by
    obtain ⟨b,o,e,hb,hc⟩:=h.2 hn
    exact ⟨b,o,e,hb,fun i hi=>(hk ⟨b,o+i,none⟩ hb).trans (hc i hi)⟩⟩
theorem Rd.more (h:Rd w B A n l) (hB:B≤B'):Rd w B' A n l :=
  ⟨h.1,fun hn=>by
    obtain ⟨b,o,e,hb,hc⟩:=h.2 hn
    exact ⟨b,o,e,by omega,hc⟩⟩
theorem Rd.below (h:Rd w B A n l) (hb:Below B w w'):Rd w' B A n l:=h.keep fun _ hp=>hb.cell hp
theorem Rd.drew (h:Rd w B A n l):Rd w.drew B A n l:=h
theorem Rd.drewN (h:Rd w B A n l) (k:Nat):Rd (w.drewN k) B A n l:=h
theorem Rd.alloc (h:Rd w B A n l) (hB:B≤w.heap.size) (o:Obj):Rd (w.alloc o) B A n l:=h.keep fun p hp=>World.cell?_alloc_lt w o p (by omega)
theorem Rd.nil_:Rd w B A 0 []:=⟨rfl,fun h=>absurd h (by omega)⟩
theorem Rb.drew (h:Rb w b t n l):Rb w.drew b t n l:=h
theorem Rb.alloc (h:Rb w b t n l) (o:Obj):Rb (w.alloc o) b t n l:=World.rowIs.alloc h o
theorem Rb.below (h:Rb w b t n l) (hb:Below B w w') (hB:b<B):Rb w' b t n l:=World.rowIs.of_block h (hb.block b hB)
theorem Rb.lt (h:Rb w b t n l):b<w.heap.size:=World.rowIs.lt h
theorem Rb.rd (h:Rb w b t n l) (hl:l.length=n) (hB:b<B):Rd w B (some ⟨b,0,none⟩) n l :=
  ⟨hl,fun _=>⟨b,0,rfl,hB,fun i hi=>by rw [Nat.zero_add];exact World.rowIs.cell h hi⟩⟩
theorem Rb.made (w:World) (n:Nat) (t:TypeId):Rb (w.alloc (.cells (madeCells #[.int .u8 0] n) t)) w.heap.size t n []:=World.rowIs_made w _ n t
theorem Rb.push (h:Rb w b t n l) (x:UInt8) {k:Nat} (hk:l.length=k) {v:Value} (hv:v=.int .u8 (x.toNat:Int)):Rb (w.setCell ⟨b,k,none⟩ v) b t n (l++[x]):=by
  subst hk hv
  refine (World.rowIs.set h l.length _).congr fun j _=>?_
  by_cases e:j=l.length
  · subst e;simp [List.getD]
  · simp only [if_neg e]
    congr 3
    rcases Nat.lt_or_ge j l.length with hl | hl
    · simp [List.getD,List.getElem?_append_left hl]
    · have h1:l.length+1≤j:=by omega
      simp [List.getD,List.getElem?_eq_none (l:=l) hl,List.getElem?_append_right hl,List.getElem?_eq_none (l:=[x]) (i:=j - l.length) (by simp;omega)]
end
def Gives (l:List UInt8) (w:World) (e:Ending) (w':World):Prop :=
  ∃ (A:Option Addr) (n c:Nat),e=.returned (.slice A n c)∧Rd w' w'.heap.size A n l∧n≤c∧Below w.heap.size w w'
theorem run_str {P:Program} {w:World} {B:Nat} {A:Option Addr} {n c:Nat} {l:List UInt8} (h:Rd w B A n l) (src e dst:TypeId) (hs:P.underlying src=some (.slice e)) (he:P.underlying e=some (.int .u8)) (hd:P.underlying dst=some .string) :
    (convert src dst (.slice A n c)).run P w=.ok (.string ⟨l.toArray⟩) w:=by
  rcases Nat.eq_zero_or_pos n with h0 | h0
  · subst h0
    have hl:l=[]:=List.eq_nil_of_length_eq_zero h.1
    subst hl
    cases A with
    | none=>exact run_convert_bytes_nil (P:=P) w src e hs he 0 c dst hd
    | some a =>
      rw [run_convert_bytes_string w src dst e _ 0 c hs he hd,run_bytesToString w a 0 c [] (by
        have:=run_loadCells_list (P:=P) w a [] (fun j v hj=>by simp at hj)
        simpa using this)]
      rfl
  · obtain ⟨b,o,rfl,_,hc⟩:=h.2 h0
    have hlen:=h.1
    have g:=run_convert_bytes_arg (P:=P) w src e hs he b o n c (l.map fun x=>(x.toNat:Int)) (by simpa using hlen) (fun i hi=>by
      rw [hc i hi]
      have hi':i<l.length:=by omega
      simp [List.getD,hi']) dst hd
    rw [g]
    congr 2
    unfold strOfNums
    congr 2
    rw [List.map_map]
    conv=>rhs;rw [← List.map_id l]
    apply List.map_congr_left
    intro x _
    simp
theorem Rd.cut {w:World} {B n k:Nat} {A:Option Addr} {l:List UInt8} (h:Rd w B A n l):Rd w B (A.map (·.add k)) (n - k) (l.drop k):=by
  refine ⟨by rw [List.length_drop,h.1],fun hn=>?_⟩
  obtain ⟨b,o,rfl,hb,hc⟩:=h.2 (by omega)
  refine ⟨b,o+k,by unfold Addr.add;simp,hb,fun i hi=>?_⟩
  rw [Nat.add_assoc,hc (k+i) (by omega)]
  simp [List.getD,List.getElem?_drop]
theorem cut_l {P:Program} {w:World} {B n:Nat} {A:Option Addr} {l:List UInt8} (t e:TypeId) (ht:P.underlying t=some (.slice e)) (hz:∀ W:World,(sizeOf e).run P W=.ok 1 W) (c:Nat) (h:Rd w B A n l) (x:Int) (k:Nat) (hx:x=(k:Int)) (hk:k≤n) (hc:n≤c) :
    ∃ A' c',(∀ W:World,(Instr.slice t (.slice A n c) (some (.int .i64 x)) none none).run P W=.ok (.slice A' (n - k) c') W)∧n - k≤c'∧c'≤c∧Rd w B A' (n - k) (l.drop k):=by
  subst hx
  by_cases hck:c=k
  · refine ⟨A,c - k,fun W=>?_,by omega,by omega,?_⟩
    · subst hck
      go_simp
    · have hl:=h.1
      have e:n - k=0:=by omega
      rw [e,List.drop_eq_nil_of_le (by omega)]
      exact Rd.nil_
  · refine ⟨A.map (·.add k),c - k,fun W=>?_,by omega,by omega,h.cut⟩
    go_simp
theorem Rd.take {w:World} {B n k:Nat} {A:Option Addr} {l:List UInt8} (h:Rd w B A n l) (hk:k≤n):Rd w B A k (l.take k):=by
  have hl:=h.1
  refine ⟨by rw [List.length_take];omega,fun hn=>?_⟩
  obtain ⟨b,o,e,hb,hc⟩:=h.2 (by omega)
  refine ⟨b,o,e,hb,fun i hi=>?_⟩
  rw [hc i (by omega)]
  simp [List.getD,hi]
theorem cut_h {P:Program} {w:World} {B n:Nat} {A:Option Addr} {l:List UInt8} (t e:TypeId) (ht:P.underlying t=some (.slice e)) (hz:∀ W:World,(sizeOf e).run P W=.ok 1 W) (c:Nat) (h:Rd w B A n l) (x:Int) (k:Nat) (hx:x=(k:Int)) (hk:k≤n) (hc:n≤c) :
    ∃ A' c',(∀ W:World,(Instr.slice t (.slice A n c) none (some (.int .i64 x)) none).run P W=.ok (.slice A' k c') W)∧k≤c'∧c'≤c∧Rd w B A' k (l.take k):=by
  subst hx
  by_cases hc0:c=0
  · have hk0:k=0:=by omega
    subst hk0 hc0
    refine ⟨A,0,fun W=>?_,by omega,by omega,h.take hk⟩
    go_simp
  · refine ⟨A,c,fun W=>?_,by omega,by omega,h.take hk⟩
    go_simp
    intro h
    omega
theorem sliceAt_l {P:Program} (t e:TypeId) (N:Nat) (ht:P.underlying t=some (.array (P.arrayLen t) (P.elem t))) (hN:P.arrayLen t=N) (he:P.elem t=e) (hz:∀ W:World,(sizeOf e).run P W=.ok 1 W) (b f:Nat) (x:Int) (hx:x=(f:Int)) (hf:f<N) (W:World) :
    (Instr.sliceAt t (.pointer (some ⟨b,0,none⟩)) (some (.int .i64 x)) none none).run P W=.ok (.slice (some ⟨b,f,none⟩) (N - f) (N - f)) W:=by
  subst hx
  rw [run_sliceAt_array_l W t ⟨b,0,none⟩ ht .i64 (f:Int) (by omega) (by omega),he,hz,hN]
  have hne:¬ N=f:=by omega
  by_cases h0:f=0
  · subst h0
    simp [Result.andThen,slicedAt,Addr.add]
  · simp [Result.andThen,slicedAt,Addr.add,hne,h0]
theorem rowIs_rd {w:World} {B b N f n:Nat} {t:TypeId} {F:Nat→Value} {l:List UInt8} (h:w.rowIs b t N F) (hl:l.length=n) (hn:f+n≤N) (hB:b<B) (hF:∀ i,i<n→F (f+i)=.int .u8 ((l.getD i 0).toNat:Int)) :
    Rd w B (some ⟨b,f,none⟩) n l :=
  ⟨hl,fun _=>⟨b,f,rfl,hB,fun i hi=>by rw [h.cell (by omega),hF i hi]⟩⟩
theorem Rd.litm (w:World) (g:Nat) (hg:w.heap.size=g) (l:List UInt8) (t:TypeId) (cs:Array Value) (fr:Nat×Nat) (hcs:cs=(l.map fun x=>Value.int .u8 (x.toNat:Int)).toArray) (n:Nat) (hn:l.length=n):Rd (w.alloc (.cells cs t fr)) (g+1) (some ⟨g,0,none⟩) n l:=by
  subst hcs hg
  refine ⟨hn,fun _=>⟨_,0,rfl,by omega,fun i hi=>?_⟩⟩
  have hi':i<l.length:=by omega
  rw [Nat.zero_add,World.cell?_alloc_mark]
  simp [List.getD,hi']
theorem Rd.lit (w:World) (g:Nat) (hg:w.heap.size=g) (l:List UInt8) (t:TypeId) (cs:Array Value) (hcs:cs=(l.map fun x=>Value.int .u8 (x.toNat:Int)).toArray) (n:Nat) (hn:l.length=n):Rd (w.alloc (.cells cs t)) (g+1) (some ⟨g,0,none⟩) n l :=
  Rd.litm w g hg l t cs _ hcs n hn
theorem wf_u8 {n:Int} (h:(Lit.int .u8 n).wf=true):0≤n∧n<256:=by
  simp [Lit.wf,IntKind.min,IntKind.max,IntKind.signed,IntKind.bits] at h
  omega
theorem Rd.of_ints {w:World} {x:Addr} {n c:Nat} {zs:List Int} (hn:n≤c) (hz:zs.length=c) (hcell:∀ i,i<zs.length→w.cell? (x.add i)=some (.int .u8 (zs.getD i 0))) (hw:∀ z∈zs,(Lit.int .u8 z).wf=true) :
    Rd w w.heap.size (some x) n ((zs.take n).map fun z=>UInt8.ofNat z.toNat):=by
  refine ⟨by simp;omega,fun h0=>?_⟩
  obtain ⟨b,off,spot⟩:=x
  have hc:=hcell 0 (by omega)
  have hspot:spot=none:=by simpa [Addr.add] using World.cell?_spot hc
  subst hspot
  refine ⟨b,off,rfl,?_,fun i hi=>?_⟩
  · have h:=World.block_lt_of_cell? w _ hc
    simpa [Addr.add] using h
  · have hi':i<zs.length:=by omega
    have h:=hcell i hi'
    have e:(⟨b,off,none⟩:Addr).add i=⟨b,off+i,none⟩:=by unfold Addr.add;split <;> simp_all
    rw [e] at h
    rw [h]
    have hb:=wf_u8 (hw _ (List.getElem_mem hi'))
    simp [List.getD,hi,hi']
    omega
/-! ### The plain functions -/
def hv (c:Int):Int:=if 48≤c∧c≤57 then c - 48 else if 97≤c∧c≤102 then c - 87 else 0
theorem take_more (l:List UInt8) (k:Nat) (h:k<l.length):l.take (k+1)=l.take k++[l.getD k 0]:=by
  rw [List.take_succ_eq_append_getElem h]
  simp [List.getD,h]
def be (x:Nat) (n:Nat):List UInt8:=(List.range n).map fun j=>UInt8.ofNat (x / 256 ^ (n - 1 - j))
theorem be_length (x n:Nat):(be x n).length=n:=by simp [be]
def beNat (l:List UInt8):Nat:=l.foldl (fun a x=>(a * 256+x.toNat) % 18446744073709551616) 0
end Go.Proofs.YtldnokgdgafphaaGreatDoor
/- What every text of this seat begins with: the words for bytes, and what is asked of the type of a byte. -/
namespace Go.Proofs.YtldnokgdgafphaaGreatDoor
open Go.RowKit
theorem info_u8:(Tryz.prog.info? 5).map (fun i=>(i.zero,i.size,i.bytes))=some (some (.int .u8 0),1,1):=by kernel_rfl
theorem size_u8 (W:World):(sizeOf 5).run Tryz.prog W=.ok 1 W:=by kernel_rfl
theorem run_const (w:World) (C:Array Value) (n c:Nat):(convert 31 31 (.slice (some ⟨w.heap.size,0,none⟩) n c)).run Tryz.prog (w.alloc (.cells C 5))=.ok (.slice (some ⟨w.heap.size,0,none⟩) n c) (w.alloc (.cells C 5 (C.size,C.size+1))) :=
  Lib.run_convert_bytes_const w _ _ C n c (by kernel_rfl) (by kernel_rfl)
end Go.Proofs.YtldnokgdgafphaaGreatDoor
/- Bytes as numbers, the highest first: the plain mathematics of Put and Get. No program's number stands here. -/
namespace Go.Proofs.YtldnokgdgafphaaGreatDoor
open Go.RowKit
def psz (size:Int):Nat:=(min (max size 0) 8).toNat
theorem psz_le (size:Int):psz size≤8:=by unfold psz;omega
theorem psz_eq (size:Int):min (max size 0) 8=(psz size:Int):=by unfold psz;omega
def putRow (x n k:Nat):Nat→Value:=fun j=>if n≤j+k then .int .u8 ((UInt8.ofNat (x / 256 ^ (n - 1 - j))).toNat:Int) else .int .u8 0
theorem byte_at_pow (x:Int) (h0:0≤x) (k:Nat):Value.int .u8 (x / 2 ^ (8 * k) % 256)=.int .u8 ((UInt8.ofNat (x.toNat / 256 ^ k)).toNat:Int):=by
  obtain ⟨a,rfl⟩:=Int.eq_ofNat_of_zero_le h0
  rw [UInt8.toNat_ofNat',Int.toNat_natCast]
  have e:(2:Int) ^ (8 * k)=((256 ^ k:Nat):Int):=by
    rw [Int.pow_mul]
    simp
  rw [e]
  congr 1
theorem putRow_step (x:Int) (h0:0≤x) (n k j:Nat) (hlt:k<n) (_hj:j<n) :
    (if j=n - 1 - k then Value.int .u8 (x / 2 ^ (8 * k) % 256) else putRow x.toNat n k j)=putRow x.toNat n (k+1) j:=by
  unfold putRow
  by_cases e:j=n - 1 - k
  · subst e
    rw [if_pos rfl,if_pos (by omega),byte_at_pow x h0,show n - 1 - (n - 1 - k)=k by omega]
  · rw [if_neg e]
    by_cases h:n≤j+k
    · rw [if_pos h,if_pos (by omega)]
    · rw [if_neg h,if_neg (by omega)]
theorem putRow_end (x n j:Nat) (hj:j<n):putRow x n n j=.int .u8 (((be x n).getD j 0).toNat:Int):=by
  unfold putRow
  rw [if_pos (by omega)]
  simp [be,List.getD,hj]
theorem or_swap (a b:Int):bits BinOp.or IntKind.u64 a b=bits BinOp.or IntKind.u64 b a:=by
  unfold bits
  simp [BitVec.or_comm]
theorem shl_or (a:Nat) (x:Int) (h0:0≤x) (h1:x<256):bits BinOp.or IntKind.u64 (IntKind.u64.wrap ((a:Int) * 256)) x=((a:Int) * 256+x) % 18446744073709551616:=by
  rw [or_swap,IntKind.wrap_u64,u64_or8 _ _ h0 h1 (by omega) (by omega) (by omega)]
  omega
theorem beNat_snoc (l:List UInt8) (x:UInt8):beNat (l++[x])=(beNat l * 256+x.toNat) % 18446744073709551616:=by
  unfold beNat
  rw [List.foldl_append]
  rfl
theorem be_succ (x n:Nat):be x (n+1)=be (x / 256) n++[UInt8.ofNat x]:=by
  unfold be
  rw [List.range_succ,List.map_append]
  congr 1
  · refine List.map_congr_left fun j hj=>?_
    have hj':j<n:=List.mem_range.1 hj
    rw [show n+1 - 1 - j=(n - 1 - j)+1 by omega,Nat.pow_succ,Nat.mul_comm,← Nat.div_div_eq_div_mul]
  · simp
theorem beNat_be:∀ (n x:Nat),n≤8→beNat (be x n)=x % 256 ^ n
  | 0,x,_=>by simp [be,beNat,Nat.mod_one]
  | n+1,x,h=>by
    have hp:256 ^ (n+1)≤256 ^ 8:=Nat.pow_le_pow_right (by decide) h
    rw [be_succ,beNat_snoc,beNat_be n (x / 256) (by omega),UInt8.toNat_ofNat']
    have e:x % 256 ^ (n+1)=x / 256 % 256 ^ n * 256+x % 256:=by
      rw [Nat.pow_succ,Nat.mul_comm,Nat.mod_mul]
      omega
    have hlt:x % 256 ^ (n+1)<256 ^ (n+1):=Nat.mod_lt _ (Nat.pow_pos (by decide))
    rw [show (2:Nat) ^ 8=256 from rfl,← e]
    exact Nat.mod_eq_of_lt (Nat.lt_of_lt_of_le hlt hp)
theorem beNat_lt (l:List UInt8):beNat l<18446744073709551616:=by
  rcases List.eq_nil_or_concat l with rfl | ⟨r,x,rfl⟩
  · decide
  · rw [List.concat_eq_append,beNat_snoc];exact Nat.mod_lt _ (by decide)
theorem beNat_bd:∀ (n:Nat) (l:List UInt8),l.length=n→n≤8→beNat l<256 ^ n
  | 0,l,h,_=>by obtain rfl:=List.eq_nil_of_length_eq_zero h;decide
  | n+1,l,h,h8=>by
    rcases List.eq_nil_or_concat l with rfl | ⟨r,x,rfl⟩
    · simp at h
    · have hr:r.length=n:=by simpa using h
      have ih:=beNat_bd n r hr (by omega)
      have hx:=x.toNat_lt
      have hp:256 ^ (n+1)≤256 ^ 8:=Nat.pow_le_pow_right (by decide) h8
      have e:256 ^ (n+1)=256 ^ n * 256:=Nat.pow_succ ..
      rw [List.concat_eq_append,beNat_snoc,Nat.mod_eq_of_lt (by omega)]
      omega
theorem be_beNat:∀ (n:Nat) (l:List UInt8),l.length=n→n≤8→be (beNat l) n=l
  | 0,l,h,_=>by obtain rfl:=List.eq_nil_of_length_eq_zero h;rfl
  | n+1,l,h,h8=>by
    rcases List.eq_nil_or_concat l with rfl | ⟨r,x,rfl⟩
    · simp at h
    · have hr:r.length=n:=by simpa using h
      have ih:=beNat_bd n r hr (by omega)
      have hx:=x.toNat_lt
      have hp:256 ^ (n+1)≤256 ^ 8:=Nat.pow_le_pow_right (by decide) h8
      have e:256 ^ (n+1)=256 ^ n * 256:=Nat.pow_succ ..
      rw [List.concat_eq_append,beNat_snoc,Nat.mod_eq_of_lt (by omega),be_succ,show (beNat r * 256+x.toNat) / 256=beNat r by omega,be_beNat n r hr (by omega)]
      congr 2
      apply UInt8.toNat_inj.1
      rw [UInt8.toNat_ofNat']
      omega
end Go.Proofs.YtldnokgdgafphaaGreatDoor
/- The plain mathematics of layer 3: items, the bytes that they are, and how bytes are read. No program's number stands here. -/
namespace Go.Proofs.YtldnokgdgafphaaGreatDoor
inductive Itm where
  | mk (kind:Int) (n:Nat) (data:List UInt8) (list:List Itm)
namespace Itm
def kind:Itm→Int | mk k _ _ _=>k
def num:Itm→Nat | mk _ n _ _=>n
def data:Itm→List UInt8 | mk _ _ d _=>d
def list:Itm→List Itm | mk _ _ _ l=>l
def zero:Itm:=mk 0 0 [] []
end Itm
def hsz (n:Nat):Nat:=if n<24 then 0 else if n<256 then 1 else if n<65536 then 2 else if n<4294967296 then 4 else 8
def hlow (n:Nat):Nat:=if n<24 then n else if n<256 then 24 else if n<65536 then 25 else if n<4294967296 then 26 else 27
def hd (m n:Nat):List UInt8:=UInt8.ofNat (32 * m+hlow n)::be n (hsz n)
def plain (d:List UInt8):Bool:=d.all fun c=>decide (32≤c.toNat)&&decide (c.toNat≤126)
def own (k:Int) (n:Nat) (d:List UInt8) (l:List Itm):Bool :=
  if k=0 then d.isEmpty&&l.isEmpty else if k=2 then n==0&&l.isEmpty else if k=3 then n==0&&(l.isEmpty&&plain d) else if k=4∨k=5 then n==0&&d.isEmpty else false
mutual
def right:Itm→Bool | .mk k n d l=>own k n d l&&rights l
def rights:List Itm→Bool | []=>true | x::r=>right x&&rights r
end
mutual
def dep:Itm→Nat | .mk k _ _ l=>deps l+if k=4∨k=5 then 1 else 0
def deps:List Itm→Nat | []=>0 | x::r=>max (dep x) (deps r)
end
mutual
def par:Itm→Nat | .mk _ _ _ l=>1+pars l
def pars:List Itm→Nat | []=>0 | x::r=>par x+pars r
end
mutual
def wri:Itm→List UInt8
  | .mk k n d l=>if k=0 then hd 0 n else if k=2∨k=3 then hd k.toNat d.length++d else if k=4 then hd 4 l.length++wrs l else 0x9f::(wrs l++[0xff])
def wrs:List Itm→List UInt8 | []=>[] | x::r=>wri x++wrs r
end
mutual
def Siz:Itm→Prop | .mk _ n d l=>n<18446744073709551616∧d.length<18446744073709551616∧l.length<18446744073709551616∧Sizs l
def Sizs:List Itm→Prop | []=>True | x::r=>Siz x∧Sizs r
end
def enc (x:Itm):List UInt8×Int:=if right x=false then ([],2) else if 8<dep x∨4096<par x then ([],32) else (wri x,0)
/-! ### How bytes are read -/
def headD:List UInt8→Except Int (Nat×Nat×List UInt8)
  | []=>.error 30
  | c::r =>
    if (c.toNat / 32≠0∧c.toNat / 32≠2∧c.toNat / 32≠3∧c.toNat / 32≠4)∨27<c.toNat % 32 then .error 31
    else if c.toNat % 32<24 then .ok (c.toNat / 32,c.toNat % 32,r)
    else if r.length<2 ^ (c.toNat % 32 - 24) then .error 30
    else if hsz (beNat (r.take (2 ^ (c.toNat % 32 - 24))))≠2 ^ (c.toNat % 32 - 24) then .error 31
    else .ok (c.toNat / 32,beNat (r.take (2 ^ (c.toNat % 32 - 24))),r.drop (2 ^ (c.toNat % 32 - 24)))
def textD (m n p:Nat) (r:List UInt8):Except Int (Itm×Nat×List UInt8) :=
  if m=3∧plain (r.take n)=false then .error 31 else if r.length<n then .error 30 else .ok (.mk m 0 (r.take n) [],p,r.drop n)
def many (sub:Nat→List UInt8→Except Int (Itm×Nat×List UInt8)):Nat→Nat→List UInt8→Except Int (List Itm×Nat×List UInt8)
  | 0,p,l=>.ok ([],p,l)
  | n+1,p,l=>match sub p l with
    | .error e=>.error e
    | .ok (x,p1,l1)=>match many sub n p1 l1 with
      | .error e=>.error e
      | .ok (xs,p2,l2)=>.ok (x::xs,p2,l2)
def endl (sub:Nat→List UInt8→Except Int (Itm×Nat×List UInt8)):Nat→Nat→List UInt8→Except Int (List Itm×Nat×List UInt8)
  | 0,_,_=>.error 30
  | _+1,_,[]=>.error 30
  | f+1,p,c::r=>if c=0xff then .ok ([],p,r) else match sub p (c::r) with
    | .error e=>.error e
    | .ok (x,p1,l1)=>match endl sub f p1 l1 with
      | .error e=>.error e
      | .ok (xs,p2,l2)=>.ok (x::xs,p2,l2)
def arrB (c:UInt8):Bool:=c==0x9f||(c.toNat / 32==4&&decide (c.toNat % 32≤27))
def itemD (sub:Nat→List UInt8→Except Int (Itm×Nat×List UInt8)) (deep:Bool) (p:Nat):List UInt8→Except Int (Itm×Nat×List UInt8)
  | []=>.error 30
  | c::r =>
    if p=4096∨(arrB c=true∧deep=true) then .error 32
    else if c=0x9f then match endl sub (r.length+1) (p+1) r with
      | .error e=>.error e
      | .ok (xs,p2,l2)=>.ok (.mk 5 0 [] xs,p2,l2)
    else match headD (c::r) with
      | .error e=>.error e
      | .ok (m,n,r')=>if m=0 then .ok (.mk 0 n [] [],p+1,r') else if m=4 then (match many sub n (p+1) r' with
          | .error e=>.error e
          | .ok (xs,p2,l2)=>.ok (.mk 4 0 [] xs,p2,l2)) else textD m n (p+1) r'
def dec:Nat→Nat→List UInt8→Except Int (Itm×Nat×List UInt8)
  | 0=>itemD (fun _ _=>.error 32) true
  | d+1=>itemD (dec d) false
def decode (l:List UInt8):Itm×Int×Int:=match dec 8 0 l with | .error e=>(.zero,0,e) | .ok (x,_,r)=>(x,(l.length - r.length:Nat),0)
/-! ### Heads -/
theorem hsz_low (n:Nat):24≤n→hsz n=2 ^ (hlow n - 24)∧24≤hlow n∧hlow n≤27:=by
  intro h
  unfold hsz hlow
  repeat' (split <;> try omega)
  all_goals (refine ⟨by decide,by omega,by omega⟩)
theorem hsz_le (n:Nat):hsz n≤8:=by unfold hsz;repeat' (split <;> try omega)
theorem hlow_le (n:Nat):hlow n≤27:=by unfold hlow;repeat' (split <;> try omega)
theorem hsz_bd (n:Nat) (h:n<18446744073709551616):24≤n→n<256 ^ hsz n:=by
  intro h24
  unfold hsz
  repeat' split
  all_goals omega
theorem hd_len (m n:Nat):(hd m n).length=hsz n+1:=by simp [hd,be_length]
theorem byte_nat (v:Nat) (h:v<256):(UInt8.ofNat v).toNat=v:=by rw [UInt8.toNat_ofNat'];exact Nat.mod_eq_of_lt h
theorem hd_first (m n:Nat) (hm:m≤4):(UInt8.ofNat (32 * m+hlow n)).toNat / 32=m∧(UInt8.ofNat (32 * m+hlow n)).toNat % 32=hlow n:=by
  have:=hlow_le n
  rw [byte_nat _ (by omega)]
  omega
theorem headD_hd (m n:Nat) (r:List UInt8) (hm:m=0∨m=2∨m=3∨m=4) (hn:n<18446744073709551616):headD (hd m n++r)=.ok (m,n,r):=by
  have h27:=hlow_le n
  obtain ⟨h1,h2⟩:=hd_first m n (by omega)
  unfold hd
  rw [List.cons_append,headD,h1,h2,if_neg (by omega)]
  by_cases h24:n<24
  · have e:hlow n=n:=by unfold hlow;rw [if_pos h24]
    have e0:hsz n=0:=by unfold hsz;rw [if_pos h24]
    rw [e,if_pos h24,e0]
    rfl
  · obtain ⟨e,e1,e2⟩:=hsz_low n (by omega)
    have hlen:=be_length n (hsz n)
    have ht:(be n (hsz n)++r).take (hsz n)=be n (hsz n):=by rw [List.take_left' hlen]
    have hb:beNat (be n (hsz n))=n:=by rw [beNat_be _ _ (hsz_le n)];exact Nat.mod_eq_of_lt (hsz_bd n hn (by omega))
    rw [if_neg (by omega),← e,if_neg (by simp [hlen]),ht,hb,if_neg (by simp),List.drop_left' hlen]
theorem headD_ok {l r:List UInt8} {m n:Nat} (h:headD l=.ok (m,n,r)):l=hd m n++r∧n<18446744073709551616∧(m=0∨m=2∨m=3∨m=4):=by
  cases l with
  | nil=>simp [headD] at h
  | cons c t =>
    have hc:=c.toNat_lt
    rw [headD] at h
    split at h
    · cases h
    next h1 =>
    split at h
    next h2 =>
      cases h
      refine ⟨?_,by omega,by omega⟩
      unfold hd
      have e:hlow (c.toNat % 32)=c.toNat % 32:=by unfold hlow;rw [if_pos h2]
      have e0:hsz (c.toNat % 32)=0:=by unfold hsz;rw [if_pos h2]
      rw [e,e0,show 32 * (c.toNat / 32)+c.toNat % 32=c.toNat by omega]
      simp [be]
    next h2 =>
    split at h
    · cases h
    next h3 =>
    split at h
    · cases h
    next h4 =>
    cases h
    have hk:2 ^ (c.toNat % 32 - 24)≤8:=by
      have:c.toNat % 32 - 24≤3:=by omega
      calc 2 ^ (c.toNat % 32 - 24)≤2 ^ 3:=Nat.pow_le_pow_right (by decide) this
        _=8:=rfl
    have hlen:(t.take (2 ^ (c.toNat % 32 - 24))).length=2 ^ (c.toNat % 32 - 24):=by rw [List.length_take];omega
    have h4':hsz (beNat (t.take (2 ^ (c.toNat % 32 - 24))))=2 ^ (c.toNat % 32 - 24):=by simpa using h4
    have hb:=be_beNat _ _ hlen hk
    have hlt:=beNat_lt (t.take (2 ^ (c.toNat % 32 - 24)))
    generalize hN:beNat (t.take (2 ^ (c.toNat % 32 - 24)))=N at *
    have hp:0<2 ^ (c.toNat % 32 - 24):=Nat.pow_pos (by decide)
    have h24:24≤N:=by
      rcases Nat.lt_or_ge N 24 with hh | hh
      · unfold hsz at h4';rw [if_pos hh] at h4';omega
      · exact hh
    obtain ⟨e,e1,e2⟩:=hsz_low N h24
    have hlo:hlow N=c.toNat % 32:=by
      have h5:=e.symm.trans h4'
      have:=(Nat.pow_right_inj (a:=2) (by decide)).1 h5
      omega
    refine ⟨?_,hlt,by omega⟩
    unfold hd
    rw [hlo,h4',hb,show 32 * (c.toNat / 32)+c.toNat % 32=c.toNat by omega]
    simp
theorem headD_short (m n:Nat) (hm:m=0∨m=2∨m=3∨m=4) (cut:Nat) (h1:cut<(hd m n).length):headD ((hd m n).take cut)=.error 30:=by
  rw [hd_len] at h1
  cases cut with
  | zero=>rfl
  | succ j =>
    have h27:=hlow_le n
    obtain ⟨f1,f2⟩:=hd_first m n (by omega)
    have h24:24≤n:=by
      rcases Nat.lt_or_ge n 24 with hh | hh
      · unfold hsz at h1;rw [if_pos hh] at h1;omega
      · exact hh
    obtain ⟨e,e1,e2⟩:=hsz_low n h24
    unfold hd
    rw [List.take_succ_cons,headD,f1,f2,if_neg (by omega),if_neg (by omega),← e,if_pos (by rw [List.length_take,be_length];omega)]
end Go.Proofs.YtldnokgdgafphaaGreatDoor
/- Slices of bytes that a call made and may append to ('Ob'), and the built-in append onto them, whatever the source: nil, empty or not. No program's number stands here. -/
namespace Go.Proofs.YtldnokgdgafphaaGreatDoor
open Go.RowKit
theorem bv_one (l:List UInt8):∀ u∈l.map bv,u.oneCell'=true:=by
  intro u hu
  obtain ⟨x,_,rfl⟩:=List.mem_map.1 hu
  rfl
def Ob (w:World) (base:Nat) (t:TypeId) (v:Value) (l:List UInt8):Prop:=w.ownsRow base t 1 v l.length (l.map bv)
section
variable {w w':World} {base:Nat} {t:TypeId} {v:Value} {l:List UInt8}
theorem Ob.nil_ (w:World) (base:Nat) (t:TypeId):Ob w base t (.slice none 0 0) []:=World.ownsRow_nil w base t 1
theorem Ob.lit (w:World) (l:List UInt8) (cs:Array Value) (hcs:cs=(l.map bv).toArray) (hb:base≤w.heap.size) (n:Nat) (hn:l.length=n) (hm:n≤maxLen):Ob (w.alloc (.cells cs t)) base t (.slice (some ⟨w.heap.size,0,none⟩) n n) l:=by
  subst hcs hn
  have h:=World.ownsRow_lit (e:=t) (size:=1) w (l.map bv).toArray l.length hb hm (by simp)
  exact h
theorem Ob.alloc (h:Ob w base t v l) (o:Obj):Ob (w.alloc o) base t v l:=World.ownsRow.alloc h o
theorem Ob.drew (h:Ob w base t v l):Ob w.drew base t v l:=h
theorem Ob.kept {row:Option Nat} (h:Ob w base t v l) (hg:w.grownBy w' row) (hne:v.ownBlock=none∨v.ownBlock≠row):Ob w' base t v l:=World.ownsRow.kept h hg hne
theorem Ob.below (h:Ob w base t v l) (hb:Below w.heap.size w w'):Ob w' base t v l :=
  World.ownsRow.kept h (row:=none) ⟨hb.os,hb.tape,hb.output,hb.size,fun k hk _=>hb.block k hk⟩ (by cases v.ownBlock <;> simp)
theorem Ob.rd (h:Ob w base t v l):∃ (A:Option Addr) (c:Nat),v=.slice A l.length c∧l.length≤c∧c≤maxLen∧Rd w w.heap.size A l.length l:=by
  rcases h.2 with ⟨hv,h0⟩ | ⟨g,cap,cur,hv,_,hg,hn,hm,_⟩
  · have e:l=[]:=List.eq_nil_of_length_eq_zero h0
    subst e
    exact ⟨none,0,hv,Nat.le_refl _,by decide,Rd.nil_⟩
  · refine ⟨some ⟨g,0,none⟩,cap,hv,hn,hm,rfl,fun h0=>⟨g,0,rfl,?_,fun i hi=>?_⟩⟩
    · have hb:v.ownBlock=some g:=by rw [hv];rfl
      exact (World.ownsRow.lt h g hb).2
    · have hc:=World.ownsRow.cells h (g:=g) (by rw [hv];rfl) i (bv l[i]) (by simp [hi])
      simp only [List.getD,List.getElem?_eq_getElem hi]
      unfold Addr.add at hc
      by_cases h0:i=0
      · subst h0;simpa [bv] using hc
      · rw [if_neg h0] at hc;simpa [bv] using hc
end
section
variable {w w':World} {base:Nat} {t:TypeId} {v:Value} {l:List UInt8}
theorem Ob.form (h:Ob w base t v l) (h0:0<l.length):∃ g cap,v=.slice (some ⟨g,0,none⟩) l.length cap∧base≤g∧g<w.heap.size∧l.length≤cap:=by
  rcases h.2 with ⟨_,hn⟩ | ⟨g,cap,cur,hv,hbg,_,hn,_⟩
  · omega
  · exact ⟨g,cap,hv,hbg,(World.ownsRow.lt h g (by rw [hv];rfl)).2,hn⟩
theorem Ob.rd_ {A:Option Addr} {n cap:Nat} (h:Ob w base t (.slice A n cap) l):l.length=n∧Rd w w.heap.size A n l∧n≤cap∧cap≤maxLen:=by
  obtain ⟨A2,c2,hv,hc,hm,hr⟩:=h.rd
  injection hv with h1 h2 h3
  subst h1 h2 h3
  exact ⟨rfl,hr,hc,hm⟩
variable {g cap n:Nat}
theorem Ob.cell (h:Ob w base t (.slice (some ⟨g,0,none⟩) n cap) l) (hn:l.length=n) {j:Nat} (hj:j<n):w.cell? ⟨g,j,none⟩=some (.int .u8 ((l.getD j 0).toNat:Int)):=by
  subst hn
  have:=World.ownsRow.cellAt h j (by omega)
  rw [this]
  simp [List.getD,hj,bv]
theorem Ob.frozen (h:Ob w base t (.slice (some ⟨g,0,none⟩) n cap) l) (hn:l.length=n) (j:Nat):w.frozen? ⟨g,j,none⟩=false:=by
  subst hn
  exact World.ownsRow.frozenAt h j
theorem Ob.stored (h:Ob w base t (.slice (some ⟨g,0,none⟩) n cap) l) (hn:l.length=n) (j:Nat) (x:UInt8) {u:Value} (hu:u=.int .u8 (x.toNat:Int)):Ob (w.setCell ⟨g,j,none⟩ u) base t (.slice (some ⟨g,0,none⟩) n cap) (l.set j x):=by
  subst hn hu
  have:=World.ownsRow.stored h j (bv x)
  unfold Ob
  rw [List.length_set,List.map_set]
  exact this.1
end
section
variable {P:Program} (w:World)
theorem run_app_none (base:Nat) (t ty e:TypeId) (i:TypeInfo) (ht:P.underlying t=some (.slice e)) (hi:P.info? e=some i) (v:Value) (l:List UInt8) (hown:Ob w base e v l) (c:Nat) :
    (Builtin.append_ #[t,t] ty #[v,.slice none 0 c]).run P w=.ok v w:=by
  rcases hown.2 with ⟨rfl,hn⟩ | ⟨g,cap,cur,rfl,_,_,hnc,_⟩
  · simp [Builtin.append_,run_underlying ht,sizeOf,typeInfo,hi,Builtin.lenOf,Builtin.firstCells]
  · simp [Builtin.append_,run_underlying ht,sizeOf,typeInfo,hi,Builtin.lenOf,Builtin.firstCells,hnc,storeCells]
theorem run_app (base:Nat) (t ty e:TypeId) (ht:P.underlying t=some (.slice e)) (hinfo:(P.info? e).map (fun i=>(i.zero,i.size,i.bytes))=some (some (.int .u8 0),1,1))
    (v:Value) (l:List UInt8) (hown:Ob w base e v l) (B:Nat) (A:Option Addr) (m c:Nat) (news:List UInt8) (hr:Rd w B A m news) (hbound:l.length+m≤140737488355328) (hbase:base≤w.heap.size) :
    ∃ v' w',(Builtin.append_ #[t,t] ty #[v,.slice A m c]).run P w=.ok v' w'∧Ob w' base e v' (l++news)∧w.grownBy w' v.ownBlock∧(v'.ownBlock=v.ownBlock∨v'.ownBlock=some w.heap.size):=by
  obtain ⟨i,hi,hzz⟩:=Option.map_eq_some_iff.1 hinfo
  simp only [Prod.mk.injEq] at hzz
  obtain ⟨hz,hs,hb⟩:=hzz
  have hlen:=hr.1
  rcases A with _ | ad
  · have h0:m=0:=by
      rcases Nat.eq_zero_or_pos m with h | h
      · exact h
      · obtain ⟨_,_,h',_⟩:=hr.2 h
        cases h'
    subst h0
    have hn:news=[]:=List.eq_nil_of_length_eq_zero hlen
    subst hn
    exact ⟨v,w,run_app_none w base t ty e i ht hi v l hown c,by simpa using hown,World.grownBy.refl w _,.inl rfl⟩
  · have hcells:∀ j u,(news.map bv)[j]?=some u→w.cell? (ad.add j)=some u:=by
      intro j u hu
      rcases Nat.eq_zero_or_pos m with h0 | h0
      · have hn:news=[]:=List.eq_nil_of_length_eq_zero (by omega)
        subst hn
        simp at hu
      · obtain ⟨b,o,e1,_,hc⟩:=hr.2 h0
        injection e1 with e1
        subst e1
        have hj:j<news.length:=by
          rcases Nat.lt_or_ge j news.length with h | h
          · exact h
          · rw [List.getElem?_eq_none (by simpa using h)] at hu;cases hu
        have h:=hc j (by omega)
        have ea:(⟨b,o,none⟩:Addr).add j=⟨b,o+j,none⟩:=by unfold Addr.add;split <;> simp_all
        rw [ea,h,← hu]
        simp [List.getD,hj,bv]
    obtain ⟨v',w',hrun,h2,h3,_,h5⟩:=run_append_own_at (P:=P) w base t ty e i (.int .u8 0) 1 1 ht hi hz hs hb rfl (by decide) v l.length (l.map bv) hown ad m c (news.map bv) (by simp [hlen]) hcells (bv_one news)
      (by unfold maxLen;omega) (by omega) hbase
    refine ⟨v',w',hrun,?_,h3,h5⟩
    unfold Ob
    rw [List.length_append,hlen,List.map_append]
    exact h2
theorem wpList_app {w:World} {ops:Array Oper} {rest:List Oper} {o:Oper} {a:Act} {Q:Exit→Act→World→Prop} (hgd:o.guard=none) (s x:Operand) (t:TypeId)
    (ho:o.op=.call { callee:=.builtin .append,args:=#[s,x],argTypes:=#[t,t] })
    (base:Nat) (e:TypeId) (ht:P.underlying t=some (.slice e)) (hinfo:(P.info? e).map (fun i=>(i.zero,i.size,i.bytes))=some (some (.int .u8 0),1,1))
    (v:Value) (l:List UInt8) (hs:a.eval s=v) (hown:Ob w base e v l) (B:Nat) (A:Option Addr) (m c:Nat) (news:List UInt8) (hx:a.eval x=.slice A m c) (hr:Rd w B A m news)
    (hbound:l.length+m≤140737488355328) (hbase:base≤w.heap.size)
    (h:∀ v' w',Ob w' base e v' (l++news)→w.grownBy w' v.ownBlock→(v'.ownBlock=v.ownBlock∨v'.ownBlock=some w.heap.size)→wpList P ops Q rest (a.put o.dst v') w'):wpList P ops Q (o::rest) a w:=by
  refine wpList_plain hgd fun K hK=>?_
  obtain ⟨v',w',hrun,h2,h3,h4⟩:=run_app (P:=P) w base t o.type e ht hinfo v l hown B A m c news hr hbound hbase
  unfold Oper.wp execOp
  simp only [ho,resolve,invoke,builtin,Sem.run_bind,Sem.run_pure,Result.andThen_ok,List.map_toArray,List.map_cons,List.map_nil,hs,hx,hrun]
  exact hK _ _ (h v' w' h2 h3 h4)
theorem le_alloc (w:World) (o:Obj):w.heap.size≤(w.alloc o).heap.size:=by simp
theorem wpList_appB {w:World} {ops:Array Oper} {rest:List Oper} {o:Oper} {a:Act} {Q:Exit→Act→World→Prop} (hgd:o.guard=none) (s x:Operand) (t:TypeId)
    (ho:o.op=.call { callee:=.builtin .append,args:=#[s,x],argTypes:=#[t,t] })
    (base:Nat) (e:TypeId) (ht:P.underlying t=some (.slice e)) (hinfo:(P.info? e).map (fun i=>(i.zero,i.size,i.bytes))=some (some (.int .u8 0),1,1))
    (v:Value) (l:List UInt8) (hs:a.eval s=v) (hown:Ob w base e v l) (B:Nat) (A:Option Addr) (m c:Nat) (news:List UInt8) (hx:a.eval x=.slice A m c) (hr:Rd w B A m news)
    (hbound:l.length+m≤140737488355328) (hbase:base≤w.heap.size)
    (h:∀ v' w',Ob w' base e v' (l++news)→Below base w w'→wpList P ops Q rest (a.put o.dst v') w'):wpList P ops Q (o::rest) a w :=
  wpList_app hgd s x t ho base e ht hinfo v l hs hown B A m c news hx hr hbound hbase fun v' w' h1 h2 _ =>
    h v' w' h1 ⟨h2.os,h2.tape,h2.output,h2.size,fun k hk=>h2.block k (by omega) (fun e=>by have:=(World.ownsRow.lt hown k e.symm).1;omega)⟩
end
end Go.Proofs.YtldnokgdgafphaaGreatDoor
/- Items in memory: a value that reads as an item ('RdI'), the elements of a list that do ('RdIs'). -/
namespace Go.Proofs.YtldnokgdgafphaaGreatDoor
open Go.RowKit
mutual
def RdI (w:World) (B:Nat) (v:Value):Itm→Prop
  | .mk k n d l=>∃ (A:Option Addr) (nd cd:Nat) (AL:Option Addr) (nl cl:Nat),v=.agg #[.int .i64 k,.int .u64 (n:Int),.slice A nd cd,.slice AL nl cl] ∧
      (Lit.int .i64 k).wf=true∧n<18446744073709551616∧(nd≤cd∧nd≤140737488355328)∧Rd w B A nd d∧(nl≤cl∧nl≤140737488355328)∧l.length=nl∧(0<nl→∃ b o,AL=some ⟨b,o,none⟩∧b<B∧RdIs w B b o l)
def RdIs (w:World) (B b o:Nat):List Itm→Prop
  | []=>True
  | x::r=>(∃ c0 c1 c2 c3:Value,w.cell? ⟨b,o,none⟩=some c0∧w.cell? ⟨b,o+1,none⟩=some c1∧w.cell? ⟨b,o+2,none⟩=some c2∧w.cell? ⟨b,o+3,none⟩=some c3∧RdI w B (.agg #[c0,c1,c2,c3]) x)∧RdIs w B b (o+4) r
end
mutual
theorem RdI.keep {w w':World} {B:Nat} (hk:∀ p:Addr,p.block<B→w'.cell? p=w.cell? p):∀ {x:Itm} {v:Value},RdI w B v x→RdI w' B v x
  | .mk k n d l,v,h=>by
    rw [RdI] at h ⊢
    obtain ⟨A,nd,cd,AL,nl,cl,e,h1,h2,h3,h4,h5,h6,h7⟩:=h
    refine ⟨A,nd,cd,AL,nl,cl,e,h1,h2,h3,h4.keep hk,h5,h6,fun h0=>?_⟩
    obtain ⟨b,o,ea,hb,hs⟩:=h7 h0
    exact ⟨b,o,ea,hb,RdIs.keep hk hb hs⟩
theorem RdIs.keep {w w':World} {B:Nat} (hk:∀ p:Addr,p.block<B→w'.cell? p=w.cell? p) {b:Nat} (hb:b<B):∀ {l:List Itm} {o:Nat},RdIs w B b o l→RdIs w' B b o l
  | [],o,_=>by rw [RdIs];trivial
  | x::r,o,h=>by
    rw [RdIs] at h ⊢
    obtain ⟨⟨c0,c1,c2,c3,g0,g1,g2,g3,gx⟩,hr⟩:=h
    exact ⟨⟨c0,c1,c2,c3,(hk ⟨b,o,none⟩ hb).trans g0,(hk ⟨b,o+1,none⟩ hb).trans g1,(hk ⟨b,o+2,none⟩ hb).trans g2,(hk ⟨b,o+3,none⟩ hb).trans g3,RdI.keep hk gx⟩,RdIs.keep hk hb hr⟩
end
mutual
theorem RdI.more {w:World} {B B':Nat} (hB:B≤B'):∀ {x:Itm} {v:Value},RdI w B v x→RdI w B' v x
  | .mk k n d l,v,h=>by
    rw [RdI] at h ⊢
    obtain ⟨A,nd,cd,AL,nl,cl,e,h1,h2,h3,h4,h5,h6,h7⟩:=h
    refine ⟨A,nd,cd,AL,nl,cl,e,h1,h2,h3,h4.more hB,h5,h6,fun h0=>?_⟩
    obtain ⟨b,o,ea,hb,hs⟩:=h7 h0
    exact ⟨b,o,ea,by omega,RdIs.more hB hs⟩
theorem RdIs.more {w:World} {B B':Nat} (hB:B≤B') {b:Nat}:∀ {l:List Itm} {o:Nat},RdIs w B b o l→RdIs w B' b o l
  | [],o,_=>by rw [RdIs];trivial
  | x::r,o,h=>by
    rw [RdIs] at h ⊢
    obtain ⟨⟨c0,c1,c2,c3,g0,g1,g2,g3,gx⟩,hr⟩:=h
    exact ⟨⟨c0,c1,c2,c3,g0,g1,g2,g3,RdI.more hB gx⟩,RdIs.more hB hr⟩
end
section
variable {w w':World} {B B' b:Nat} {v:Value} {x:Itm} {l:List Itm} {o:Nat}
theorem RdI.below (h:RdI w B v x) (hb:Below B w w'):RdI w' B v x:=h.keep fun _ hp=>hb.cell hp
theorem RdIs.below (h:RdIs w B b o l) (h0:b<B) (hb:Below B w w'):RdIs w' B b o l:=h.keep (fun _ hp=>hb.cell hp) h0
theorem RdI.alloc (h:RdI w B v x) (hB:B≤w.heap.size) (ob:Obj):RdI (w.alloc ob) B v x:=h.keep fun p hp=>World.cell?_alloc_lt w ob p (by omega)
theorem RdIs.get:∀ {l:List Itm} {o:Nat},RdIs w B b o l→∀ i (hi:i<l.length),∃ c0 c1 c2 c3:Value,w.cell? ⟨b,o+i * 4,none⟩=some c0∧w.cell? ⟨b,o+i * 4+1,none⟩=some c1∧w.cell? ⟨b,o+i * 4+2,none⟩=some c2∧w.cell? ⟨b,o+i * 4+3,none⟩=some c3∧RdI w B (.agg #[c0,c1,c2,c3]) (l[i]'hi)
  | [],o,_,i,hi=>absurd hi (Nat.not_lt_zero _)
  | x::r,o,h,0,hi=>by
    rw [RdIs] at h
    simpa using h.1
  | x::r,o,h,i+1,hi=>by
    rw [RdIs] at h
    have:=RdIs.get h.2 i (by simpa using hi)
    rw [show o+(i+1) * 4=o+4+i * 4 by omega]
    simpa using this
theorem RdIs.of_get:∀ {l:List Itm} {o:Nat},(∀ i (hi:i<l.length),∃ c0 c1 c2 c3:Value,w.cell? ⟨b,o+i * 4,none⟩=some c0∧w.cell? ⟨b,o+i * 4+1,none⟩=some c1∧w.cell? ⟨b,o+i * 4+2,none⟩=some c2∧w.cell? ⟨b,o+i * 4+3,none⟩=some c3∧RdI w B (.agg #[c0,c1,c2,c3]) (l[i]'hi))→RdIs w B b o l
  | [],o,_=>by rw [RdIs];trivial
  | x::r,o,h=>by
    rw [RdIs]
    have h0:=h 0 (by simp)
    rw [Nat.zero_mul,Nat.add_zero] at h0
    refine ⟨h0,RdIs.of_get fun i hi=>?_⟩
    have:=h (i+1) (by simpa using hi)
    rw [show o+(i+1) * 4=o+4+i * 4 by omega] at this
    simpa using this
end
theorem RdI.open {w:World} {B:Nat} {v:Value} {k:Int} {n:Nat} {d:List UInt8} {l:List Itm} (h:RdI w B v (.mk k n d l)) :
    ∃ (A:Option Addr) (nd cd:Nat) (AL:Option Addr) (cl:Nat),v=.agg #[.int .i64 k,.int .u64 (n:Int),.slice A nd cd,.slice AL l.length cl] ∧
      (Lit.int .i64 k).wf=true∧n<18446744073709551616∧(nd≤cd∧nd≤140737488355328)∧Rd w B A nd d∧(l.length≤cl∧l.length≤140737488355328)∧(0<l.length→∃ b o,AL=some ⟨b,o,none⟩∧b<B∧RdIs w B b o l):=by
  rw [RdI] at h
  obtain ⟨A,nd,cd,AL,nl,cl,e,h1,h2,h3,h4,h5,h6,h7⟩:=h
  subst h6
  exact ⟨A,nd,cd,AL,cl,e,h1,h2,h3,h4,h5,h7⟩
theorem RdI.form {w:World} {B:Nat} {v:Value} {x:Itm} (h:RdI w B v x):∃ (k:Int) (n:Nat) (A:Option Addr) (nd cd:Nat) (AL:Option Addr) (nl cl:Nat),v=.agg #[.int .i64 k,.int .u64 (n:Int),.slice A nd cd,.slice AL nl cl]:=by
  obtain ⟨k,n,d,l⟩:=x
  obtain ⟨A,nd,cd,AL,cl,rfl,-,-,-,-,-,-⟩:=h.open
  exact ⟨_,_,_,_,_,_,_,_,rfl⟩
theorem par_get:∀ {l:List Itm} {i:Nat} (hi:i<l.length),par (l[i]'hi)≤pars l
  | [],_,hi=>absurd hi (Nat.not_lt_zero _)
  | x::r,0,_=>by rw [pars];simp
  | x::r,i+1,hi=>by
    have:=par_get (l:=r) (i:=i) (by simpa using hi)
    rw [pars]
    simp
    omega
mutual
theorem RdI.siz {w:World} {B:Nat}:∀ {x:Itm} {v:Value},RdI w B v x→Siz x
  | .mk k n d l,v,h=>by
    rw [RdI] at h
    obtain ⟨A,nd,cd,AL,nl,cl,e,h1,h2,h3,h4,h5,h6,h7⟩:=h
    have hd:=h4.1
    refine ⟨h2,by omega,by omega,?_⟩
    rcases Nat.eq_zero_or_pos nl with h0 | h0
    · have:l=[]:=List.eq_nil_of_length_eq_zero (by omega)
      subst this;trivial
    · obtain ⟨b,o,ea,hb,hs⟩:=h7 h0
      exact RdIs.siz hs
theorem RdIs.siz {w:World} {B b:Nat}:∀ {l:List Itm} {o:Nat},RdIs w B b o l→Sizs l
  | [],_,_=>trivial
  | x::r,o,h=>by
    rw [RdIs] at h
    obtain ⟨⟨c0,c1,c2,c3,g0,g1,g2,g3,gx⟩,hr⟩:=h
    exact ⟨RdI.siz gx,RdIs.siz hr⟩
end
end Go.Proofs.YtldnokgdgafphaaGreatDoor
/- For code that keeps its state in one block of its own (a reader behind a pointer): worlds with that block rubbed out, and calls that turn that block alone. No program's number stands here but items' (CborI). -/
namespace Go.Proofs.YtldnokgdgafphaaGreatDoor
open Go.RowKit
theorem Rd.sub {w w':World} {B B' n:Nat} {A:Option Addr} {l:List UInt8} (h:Rd w B A n l) (hB:B≤B') (hk:∀ (p:Addr) (u:Value),p.block<B→w.cell? p=some u→w'.cell? p=some u):Rd w' B' A n l :=
  ⟨h.1,fun hn=>by
    obtain ⟨b,o,e,hb,hc⟩:=h.2 hn
    exact ⟨b,o,e,by omega,fun i hi=>hk ⟨b,o+i,none⟩ _ hb (hc i hi)⟩⟩
mutual
theorem RdI.sub {w w':World} {B B':Nat} (hB:B≤B') (hk:∀ (p:Addr) (u:Value),p.block<B→w.cell? p=some u→w'.cell? p=some u):∀ {x:Itm} {v:Value},RdI w B v x→RdI w' B' v x
  | .mk k n d l,v,h=>by
    rw [RdI] at h ⊢
    obtain ⟨A,nd,cd,AL,nl,cl,e,h1,h2,h3,h4,h5,h6,h7⟩:=h
    refine ⟨A,nd,cd,AL,nl,cl,e,h1,h2,h3,h4.sub hB hk,h5,h6,fun h0=>?_⟩
    obtain ⟨b,o,ea,hb,hs⟩:=h7 h0
    exact ⟨b,o,ea,by omega,RdIs.sub hB hk hb hs⟩
theorem RdIs.sub {w w':World} {B B':Nat} (hB:B≤B') (hk:∀ (p:Addr) (u:Value),p.block<B→w.cell? p=some u→w'.cell? p=some u) {b:Nat} (hb:b<B):∀ {l:List Itm} {o:Nat},RdIs w B b o l→RdIs w' B' b o l
  | [],o,_=>by rw [RdIs];trivial
  | x::r,o,h=>by
    rw [RdIs] at h ⊢
    obtain ⟨⟨c0,c1,c2,c3,g0,g1,g2,g3,gx⟩,hr⟩:=h
    exact ⟨⟨c0,c1,c2,c3,hk ⟨b,o,none⟩ _ hb g0,hk ⟨b,o+1,none⟩ _ hb g1,hk ⟨b,o+2,none⟩ _ hb g2,hk ⟨b,o+3,none⟩ _ hb g3,RdI.sub hB hk gx⟩,RdIs.sub hB hk hb hr⟩
end
def rub (g:Nat) (w:World):World:={ w with heap:=w.heap.modify g fun _=>.cells #[] 0 }
theorem rub_heap {g k:Nat} {w:World} (h:k≠g):(rub g w).heap[k]?=w.heap[k]?:=by
  unfold rub
  simp only [Array.getElem?_modify]
  rw [if_neg (fun e=>h e.symm)]
theorem rub_size {g:Nat} {w:World}:(rub g w).heap.size=w.heap.size:=by simp [rub]
theorem rub_cell {g:Nat} {w:World} {p:Addr} (h:p.block≠g):(rub g w).cell? p=w.cell? p:=World.cell?_of_block (w:=w) (rub_heap h)
theorem rub_none {g:Nat} {w:World} {p:Addr} {u:Value} (h:(rub g w).cell? p=some u):p.block≠g:=by
  intro e
  have hlt:=World.block_lt_of_cell? (rub g w) p h
  have hb:(rub g w).heap[g]?=some (.cells #[] 0):=by
    unfold rub
    simp only [Array.getElem?_modify]
    rw [rub_size,e] at hlt
    simp [hlt]
  unfold World.cell? at h
  rw [e,hb] at h
  simp at h
theorem rub_sub {g:Nat} {w:World} {p:Addr} {u:Value} (h:(rub g w).cell? p=some u):w.cell? p=some u:=by rw [← rub_cell (rub_none h)];exact h
structure Only (g:Nat) (w w':World):Prop where
  os:w'.os=w.os
  tape:w'.tape=w.tape
  output:w'.output=w.output
  size:w.heap.size≤w'.heap.size
  block:∀ k,k<w.heap.size→k≠g→w'.heap[k]?=w.heap[k]?
section
variable {g:Nat} {a b c:World}
theorem Only.refl (g:Nat) (w:World):Only g w w:=⟨rfl,rfl,rfl,Nat.le_refl _,fun _ _ _=>rfl⟩
theorem Only.trans (h:Only g a b) (k:Only g b c):Only g a c :=
  ⟨k.os.trans h.os,k.tape.trans h.tape,k.output.trans h.output,Nat.le_trans h.size k.size,fun i hi hg=>(k.block i (Nat.lt_of_lt_of_le hi h.size) hg).trans (h.block i hi hg)⟩
theorem Only.of_below (h:Below a.heap.size a b):Only g a b:=⟨h.os,h.tape,h.output,h.size,fun k hk _=>h.block k hk⟩
theorem Only.below (h:Only g a b) (hg:g≤a.heap.size):Below g a b:=⟨h.os,h.tape,h.output,h.size,fun k hk=>h.block k (by omega) (by omega)⟩
theorem Only.alloc (h:Only g a b) (o:Obj):Only g a (b.alloc o):=h.trans (Only.of_below ((Below.refl _ _).alloc (Nat.le_refl _) o))
theorem Only.drew (h:Only g a b):Only g a b.drew:=⟨h.os,h.tape,h.output,h.size,h.block⟩
theorem Only.setCell (h:Only g a b) {p:Addr} (hp:p.block=g) (u:Value):Only g a (b.setCell p u) :=
  h.trans ⟨rfl,rfl,rfl,by simp [World.setCell],fun k _ hk=>Below.heap_setCell _ _ _ _ (by omega)⟩
theorem Only.cell (h:Only g a b) {p:Addr} (hp:p.block<a.heap.size) (hg:p.block≠g):b.cell? p=a.cell? p:=World.cell?_of_block (w:=a) (h.block p.block hp hg)
theorem Only.rub_cell (h:Only g a b) {p:Addr} {u:Value} (hp:p.block<a.heap.size) (hc:(rub g a).cell? p=some u):(rub g b).cell? p=some u:=by
  have hg:=rub_none hc
  rw [Go.Proofs.YtldnokgdgafphaaGreatDoor.rub_cell hg,h.cell hp hg]
  exact rub_sub hc
theorem RdI.only {v:Value} {x:Itm} (hr:RdI (rub g a) a.heap.size v x) (h:Only g a b):RdI (rub g b) b.heap.size v x:=hr.sub h.size fun _ _ hp hc=>h.rub_cell hp hc
theorem RdIs.only {bl o:Nat} {l:List Itm} (hr:RdIs (rub g a) a.heap.size bl o l) (hb:bl<a.heap.size) (h:Only g a b):RdIs (rub g b) b.heap.size bl o l:=hr.sub h.size (fun _ _ hp hc=>h.rub_cell hp hc) hb
theorem Rd.only {A:Option Addr} {n:Nat} {l:List UInt8} (hr:Rd (rub g a) a.heap.size A n l) (h:Only g a b):Rd (rub g b) b.heap.size A n l:=hr.sub h.size fun _ _ hp hc=>h.rub_cell hp hc
theorem Rd.rub {A:Option Addr} {n B:Nat} {l:List UInt8} (hr:Rd a B A n l) (hB:B≤g):Rd (Go.Proofs.YtldnokgdgafphaaGreatDoor.rub g a) B A n l:=hr.sub (Nat.le_refl _) fun p _ hp hc=>by
  rw [Go.Proofs.YtldnokgdgafphaaGreatDoor.rub_cell (by omega)];exact hc
end
end Go.Proofs.YtldnokgdgafphaaGreatDoor
/- Worlds with some blocks rubbed out, and lists of items in a row of cells. No program's number stands here but items' (CborI). -/
namespace Go.Proofs.YtldnokgdgafphaaGreatDoor
open Go.RowKit
def mask (S:Nat→Bool) (w:World):World:={ w with heap:=w.heap.mapIdx fun i o=>if S i then .cells #[] 0 else o }
theorem mask_size {S:Nat→Bool} {w:World}:(mask S w).heap.size=w.heap.size:=by simp [mask]
theorem mask_heap {S:Nat→Bool} {w:World} {k:Nat} (h:S k=false):(mask S w).heap[k]?=w.heap[k]?:=by
  unfold mask
  simp only [Array.getElem?_mapIdx,h]
  cases w.heap[k]? <;> simp
theorem mask_cell {S:Nat→Bool} {w:World} {p:Addr} (h:S p.block=false):(mask S w).cell? p=w.cell? p:=World.cell?_of_block (w:=w) (mask_heap h)
theorem mask_out {S:Nat→Bool} {w:World} {p:Addr} {u:Value} (h:(mask S w).cell? p=some u):S p.block=false:=by
  rcases hs:S p.block with _ | _
  · rfl
  · exfalso
    have hlt:=World.block_lt_of_cell? (mask S w) p h
    rw [mask_size] at hlt
    have hb:(mask S w).heap[p.block]?=some (.cells #[] 0):=by
      unfold mask
      simp only [Array.getElem?_mapIdx]
      simp [hlt,hs]
    unfold World.cell? at h
    rw [hb] at h
    simp at h
theorem mask_sub {S:Nat→Bool} {w:World} {p:Addr} {u:Value} (h:(mask S w).cell? p=some u):w.cell? p=some u:=by rw [← mask_cell (mask_out h)];exact h
theorem mask_go {S S':Nat→Bool} {w w':World} {p:Addr} {u:Value} (h:(mask S w).cell? p=some u) (hk:∀ k,k<w.heap.size→S k=false→w'.heap[k]?=w.heap[k]?) (hs:∀ k,k<w.heap.size→S k=false→S' k=false):(mask S' w').cell? p=some u:=by
  have ho:=mask_out h
  have hc:=mask_sub h
  have hlt:=World.block_lt_of_cell? w p hc
  rw [mask_cell (hs _ hlt ho),World.cell?_of_block (w:=w) (hk _ hlt ho)]
  exact hc
theorem RdI.mask_go {S S':Nat→Bool} {w w':World} {B B':Nat} {v:Value} {x:Itm} (h:RdI (mask S w) B v x) (hB:B≤B') (hk:∀ k,k<w.heap.size→S k=false→w'.heap[k]?=w.heap[k]?) (hs:∀ k,k<w.heap.size→S k=false→S' k=false):RdI (mask S' w') B' v x :=
  h.sub hB fun _ _ _ hc=>Go.Proofs.YtldnokgdgafphaaGreatDoor.mask_go hc hk hs
theorem Rd.mask_go {S S':Nat→Bool} {w w':World} {B B' n:Nat} {A:Option Addr} {l:List UInt8} (h:Rd (mask S w) B A n l) (hB:B≤B') (hk:∀ k,k<w.heap.size→S k=false→w'.heap[k]?=w.heap[k]?) (hs:∀ k,k<w.heap.size→S k=false→S' k=false):Rd (mask S' w') B' A n l :=
  h.sub hB fun _ _ _ hc=>Go.Proofs.YtldnokgdgafphaaGreatDoor.mask_go hc hk hs
theorem RdI.unmask {S:Nat→Bool} {w:World} {B:Nat} {v:Value} {x:Itm} (h:RdI (mask S w) B v x):RdI w B v x:=h.sub (Nat.le_refl _) fun _ _ _ hc=>mask_sub hc
def lows (lo:Nat) (k:Nat):Bool:=decide (k<lo)
def lowsOr (lo:Nat) (v:Value) (k:Nat):Bool:=decide (k<lo)||decide (v.ownBlock=some k)
theorem lows_f {lo k:Nat}:lows lo k=false↔lo≤k:=by unfold lows;simp
theorem lowsOr_f {lo k:Nat} {v:Value}:lowsOr lo v k=false↔lo≤k∧v.ownBlock≠some k:=by unfold lowsOr;simp
def ItC (w:World) (B:Nat):List Value→List Itm→Prop
  | [],[]=>True
  | c0::c1::c2::c3::cs,x::xs=>RdI w B (.agg #[c0,c1,c2,c3]) x∧ItC w B cs xs
  | _,_=>False
theorem ItC.sub {w w':World} {B B':Nat} (hB:B≤B') (hk:∀ (p:Addr) (u:Value),p.block<B→w.cell? p=some u→w'.cell? p=some u):∀ {cs:List Value} {xs:List Itm},ItC w B cs xs→ItC w' B' cs xs
  | [],[],_=>trivial
  | c0::c1::c2::c3::cs,x::xs,h=>⟨h.1.sub hB hk,ItC.sub hB hk h.2⟩
  | [],_::_,h=>h.elim
  | [_],_,h=>by simp [ItC] at h
  | [_,_],_,h=>by simp [ItC] at h
  | [_,_,_],_,h=>by simp [ItC] at h
  | _::_::_::_::_,[],h=>h.elim
theorem ItC.mask_go {S S':Nat→Bool} {w w':World} {B B':Nat} {cs:List Value} {xs:List Itm} (h:ItC (mask S w) B cs xs) (hB:B≤B') (hk:∀ k,k<w.heap.size→S k=false→w'.heap[k]?=w.heap[k]?) (hs:∀ k,k<w.heap.size→S k=false→S' k=false):ItC (mask S' w') B' cs xs :=
  h.sub hB fun _ _ _ hc=>Go.Proofs.YtldnokgdgafphaaGreatDoor.mask_go hc hk hs
theorem ItC.snoc {w:World} {B:Nat} {c0 c1 c2 c3:Value} {x:Itm} (hx:RdI w B (.agg #[c0,c1,c2,c3]) x):∀ {cs:List Value} {xs:List Itm},ItC w B cs xs→ItC w B (cs++[c0,c1,c2,c3]) (xs++[x])
  | [],[],_=>⟨hx,trivial⟩
  | c0::c1::c2::c3::cs,x::xs,h=>⟨h.1,ItC.snoc hx h.2⟩
  | [],_::_,h=>h.elim
  | [_],_,h=>by simp [ItC] at h
  | [_,_],_,h=>by simp [ItC] at h
  | [_,_,_],_,h=>by simp [ItC] at h
  | _::_::_::_::_,[],h=>h.elim
theorem ItC.len {w:World} {B:Nat}:∀ {cs:List Value} {xs:List Itm},ItC w B cs xs→cs.length=xs.length * 4
  | [],[],_=>rfl
  | c0::c1::c2::c3::cs,x::xs,h=>by have:=ItC.len h.2;simp;omega
  | [],_::_,h=>h.elim
  | [_],_,h=>by simp [ItC] at h
  | [_,_],_,h=>by simp [ItC] at h
  | [_,_,_],_,h=>by simp [ItC] at h
  | _::_::_::_::_,[],h=>h.elim
theorem ItC.lie {w:World} {B b:Nat}:∀ {cs:List Value} {xs:List Itm} {o:Nat},ItC w B cs xs→(∀ j u,cs[j]?=some u→w.cell? ⟨b,o+j,none⟩=some u)→RdIs w B b o xs
  | [],[],_,_,_=>by rw [RdIs];trivial
  | c0::c1::c2::c3::cs,x::xs,o,h,hc=>by
    rw [RdIs]
    refine ⟨⟨c0,c1,c2,c3,hc 0 c0 rfl,hc 1 c1 rfl,hc 2 c2 rfl,hc 3 c3 rfl,h.1⟩,ItC.lie h.2 fun j u hj=>?_⟩
    rw [show o+4+j=o+(j+4) by omega]
    exact hc (j+4) u (by simpa using hj)
  | [],_::_,_,h,_=>h.elim
  | [_],_,_,h,_=>by simp [ItC] at h
  | [_,_],_,_,h,_=>by simp [ItC] at h
  | [_,_,_],_,_,h,_=>by simp [ItC] at h
  | _::_::_::_::_,[],_,h,_=>h.elim
end Go.Proofs.YtldnokgdgafphaaGreatDoor
/- What Put returns: the lowest bytes of a number, the highest first, in new memory. -/
namespace Go.Proofs.YtldnokgdgafphaaGreatDoor
open Go.RowKit
set_option maxRecDepth 100000 in
set_option maxHeartbeats 1000000 in
theorem put_any (x size:Int) (w:World) (hx0:0≤x) (_hx1:x<18446744073709551616) :
    Calls Tryz.prog 131 #[.int .u64 x,.int .i64 size] w fun e w' =>
      e=.returned (.slice (some ⟨w.heap.size,0,none⟩) (psz size) (psz size))∧Rb w' w.heap.size 5 (psz size) (be x.toNat (psz size))∧Below w.heap.size w w':=by
  have hsz:=psz_eq size
  have hle:=psz_le size
  generalize psz size=n at *
  have hmk:=fun (w:World)=>run_make_row' (P:=Tryz.prog) 31 5 (.int .u8 0) 1 rfl info_u8 rfl .i64 .i64 n (by omega) (by omega) w
  go_enter Tryz.func131,Tryz.ntmps131
  go_wp2
  go_loopw [13] (fun i wr=>∃ k:Nat,k≤n∧i=.int .i64 k∧Hid (wr.rowIs w.heap.size 5 n (putRow x.toNat n k))∧Hid (Below w.heap.size w wr))
    (fun i _=>n - (intOf i).toNat)
  case atStart=>exact ⟨0,Nat.zero_le _,rfl,(World.rowIs_made _ _ _ _).congr (fun j hj=>by simp [putRow];omega),(Below.refl _ _).alloc (Nat.le_refl _) _⟩
  case round =>
    obtain ⟨k,hk,rfl,hrow,hbel⟩:=hrel
    by_cases hlt:k<n
    · have hf1:wr.frozen? ⟨w.heap.size,n - 1 - k,none⟩=false:=World.rowIs.frozen hrow.out _
      have hc1:wr.cell? ⟨w.heap.size,n - 1 - k,none⟩=some _:=World.rowIs.cell hrow.out (by omega)
      go_wp2_with fail
      go_roundw
      case rel =>
        refine ⟨k+1,by omega,by go_num,(World.rowIs.set hrow.out _ _).congr fun j hj=>?_,hbel.out.setCell (by simp) _⟩
        exact putRow_step x hx0 n k j hlt hj
      case measure=>simp [intOf];omega
    · obtain rfl:k=n:=by omega
      have hr:Rb wr w.heap.size 5 k (be x.toNat k):=hrow.out.congr fun j hj=>putRow_end x.toNat k j hj
      have HR:=Lib.hid hr
      clear hr
      go_wp2
      go_ret
      exact ⟨rfl,HR.out,hbel.out⟩
end Go.Proofs.YtldnokgdgafphaaGreatDoor
/- What Get returns: the number of the last eight bytes. -/
namespace Go.Proofs.YtldnokgdgafphaaGreatDoor
open Go.RowKit
set_option maxRecDepth 100000 in
set_option maxHeartbeats 1000000 in
theorem get_any (A:Option Addr) (n c:Nat) (l:List UInt8) (w:World) (B:Nat) (h:Rd w B A n l) (hn:n≤9223372036854775807) (hc:n≤c) (hc2:c≤9223372036854775807) :
    Calls Tryz.prog 159 #[.slice A n c] w fun e w'=>e=.returned (.int .u64 (beNat (l.drop (n - 8)):Int))∧w=w':=by
  obtain ⟨A',c',hsl,hr⟩:=cut_l (P:=Tryz.prog) 31 5 rfl size_u8 c h (max ((n:Int) - 8) 0) (n - 8) (by omega) (by omega) hc
  have hl8:n - (n - 8)≤8:=by omega
  generalize hm:n - (n - 8)=m at *
  generalize l.drop (n - 8)=L at *
  have HR:=Lib.hid hr.2.2
  clear h hc hr
  go_enter Tryz.func159,Tryz.ntmps159
  go_wp2
  go_loop [4,14] (fun v i=>∃ k:Nat,k≤m∧i=.int .i64 k∧v=.int .u64 (beNat (L.take k):Int)) (fun _ i=>m - (intOf i).toNat)
  case atStart=>exact ⟨0,Nat.zero_le _,rfl,by simp [beNat]⟩
  case round =>
    obtain ⟨k,hk,rfl,rfl⟩:=hrel
    by_cases hlt:k<m
    · obtain ⟨b,o,rfl,hb,hcell⟩:=HR.out.2 (by omega)
      obtain ⟨x,hx⟩:∃ x,x=L.getD k 0:=⟨_,rfl⟩
      have hcx:w.cell? ⟨b,o+k,none⟩=some (.int .u8 (x.toNat:Int)):=by rw [hx];exact hcell k hlt
      have HC:=Lib.hid hcell
      have Hx:=Lib.hid hx
      clear hx hcell
      have hx1:(x.toNat:Int)<256:=by have:=x.toNat_lt;omega
      have hx0:(0:Int)≤(x.toNat:Int):=by omega
      go_wp2_with fail
      go_round
      case rel =>
        have hl:=HR.out.1
        refine ⟨k+1,by omega,by go_num,?_⟩
        rw [take_more L k (by omega),← Hx.out,beNat_snoc,shl_or _ _ hx0 hx1]
        go_num
      case measure=>simp [intOf];omega
    · obtain rfl:k=m:=by omega
      have hl:=HR.out.1
      have e:L.take k=L:=List.take_of_length_le (by omega)
      have HE:=Lib.hid e
      clear e hl
      go_wp2
      go_ret
      exact ⟨by rw [HE.out];rfl,rfl⟩
end Go.Proofs.YtldnokgdgafphaaGreatDoor
/- What bytes.Equal returns. -/
namespace Go.Proofs.YtldnokgdgafphaaGreatDoor
open Go.RowKit
set_option maxRecDepth 100000 in
set_option maxHeartbeats 1000000 in
theorem bequal_any (A A':Option Addr) (n c n' c' B:Nat) (l l':List UInt8) (w:World) (h:Rd w B A n l) (h':Rd w B A' n' l') :
    Calls Tryz.prog 123 #[.slice A n c,.slice A' n' c'] w fun e w'=>e=.returned (.bool (l==l'))∧w=w':=by
  have r1:=run_str (P:=Tryz.prog) (c:=c) h 31 5 9 Tryz.underlying31 Tryz.underlying5 Tryz.underlying9
  have r2:=run_str (P:=Tryz.prog) (c:=c') h' 31 5 9 Tryz.underlying31 Tryz.underlying5 Tryz.underlying9
  have e1:(⟨l.toArray⟩:ByteArray).toList=l:=by rw [Lib.toList_data]
  have e2:(⟨l'.toArray⟩:ByteArray).toList=l':=by rw [Lib.toList_data]
  have HE:=Lib.hid (And.intro e1 e2)
  generalize (⟨l.toArray⟩:ByteArray)=s at *
  generalize (⟨l'.toArray⟩:ByteArray)=s' at *
  clear h h' e1 e2
  go_enter Tryz.func123,Tryz.ntmps123
  go_wp2_with fail
  go_ret
  refine ⟨?_,rfl⟩
  have h:(s.toList==s'.toList)=(l==l'):=by rw [HE.out.1,HE.out.2]
  rw [← h]
  rfl
end Go.Proofs.YtldnokgdgafphaaGreatDoor
