import Derived.Test.YtlecbblmaadpiaaGreatDoorKCborR
import Derived.Test.YtlecbblmaadpiaaGreatDoorKKRd
import Derived.Test.YtlecbblmaadpiaaGreatDoorKNumE
import Derived.WalkKit
namespace Go.Proofs.YtlecbblmaadpiaaGreatDoor
set_option maxRecDepth 100000
set_option maxHeartbeats 16000000
section
variable {n:Nat}
def stp (p c:BitVec n):BitVec n:=if c.getLsbD 0 then (c >>> 1) ^^^ p else c >>> 1
def stpN (p:BitVec n):Nat→BitVec n→BitVec n
 | 0,c=>c
 | k+1,c=>stpN p k (stp p c)
/-! ### Bit by bit -/
def b1 (n:Nat) (b:Bool):BitVec n:=if b then 1#n else 0#n
/-! ### Byte by byte -/
def byt (p c:BitVec n) (x:UInt8):BitVec n:=stpN p 8 (c ^^^ BitVec.ofNat n x.toNat)
def fB (p c:BitVec n) (l:List UInt8):BitVec n:=l.foldl (byt p) c
theorem fB_append (p c:BitVec n) (l m:List UInt8):fB p c (l++m)=fB p (fB p c l) m:=by simp [fB,List.foldl_append]
theorem fB_snoc (p c:BitVec n) (l:List UInt8) (x:UInt8):fB p c (l++[x])=byt p (fB p c l) x:=by rw [fB_append];rfl
end
/-! ### The two sums of layer 2 -/
def p16:BitVec 16:=0x8408#16
def p32:BitVec 32:=0x82f63b78#32
def s16 (l:List UInt8):BitVec 16 := ~~~ fB p16 0xffff#16 l
def s32 (l:List UInt8):BitVec 32 := ~~~ fB p32 0xffffffff#32 l
open Go.RowKit
open Go.Lib (hid)
theorem stpN_succ {n:Nat} (p:BitVec n):∀ (k:Nat) (c:BitVec n),stpN p (k+1) c=stp p (stpN p k c)
 | 0,_=>rfl
 | k+1,c=>by rw [stpN,stpN_succ p k,← stpN]
theorem stp_even {n:Nat} (p c:BitVec n) (h:c.toNat % 2=0):(stp p c).toNat=c.toNat / 2:=by
 have e:c.getLsbD 0=false:=by simp [BitVec.getLsbD,Nat.testBit_zero,h]
 unfold stp
 rw [if_neg (by rw [e];simp),BitVec.toNat_ushiftRight,Nat.shiftRight_eq_div_pow]
theorem stp_odd {n:Nat} (p c:BitVec n) (h:c.toNat % 2=1):(stp p c).toNat=c.toNat / 2 ^^^ p.toNat:=by
 have e:c.getLsbD 0=true:=by simp [BitVec.getLsbD,Nat.testBit_zero,h]
 unfold stp
 rw [if_pos e,BitVec.toNat_xor,BitVec.toNat_ushiftRight,Nat.shiftRight_eq_div_pow]
theorem fB_take (l:List UInt8) (n:Nat) (p c:BitVec n) (k:Nat) (h:k<l.length):fB p c (l.take (k+1))=stpN p 8 (fB p c (l.take k) ^^^ BitVec.ofNat n (l.getD k 0).toNat):=by
 rw [take_more l k h,fB_snoc];rfl
theorem byte16 (d:BitVec 16) (x:UInt8):Value.int .u16 (bits BinOp.xor .u16 (d.toNat:Int) (x.toNat:Int))=.int .u16 ((d ^^^ BitVec.ofNat 16 x.toNat).toNat:Int):=by
 have h1:=d.isLt
 have h2:=x.toNat_lt
 rw [u16_xor_nat _ _ h1 (by omega),BitVec.toNat_xor,BitVec.toNat_ofNat,Nat.mod_eq_of_lt (by omega)]
theorem byte32 (d:BitVec 32) (x:UInt8):Value.int .u32 (bits BinOp.xor .u32 (d.toNat:Int) (x.toNat:Int))=.int .u32 ((d ^^^ BitVec.ofNat 32 x.toNat).toNat:Int):=by
 have h1:=d.isLt
 have h2:=x.toNat_lt
 rw [u32_xor_nat _ _ h1 (by omega),BitVec.toNat_xor,BitVec.toNat_ofNat,Nat.mod_eq_of_lt (by omega)]
theorem step16 (f:BitVec 16) (h:f.toNat % 2=1):Value.int .u16 (bits BinOp.xor .u16 ((f.toNat:Int) / 2) 33800)=.int .u16 ((stp p16 f).toNat:Int):=by
 have h1:=f.isLt
 have e:=u16_xor_nat (f.toNat / 2) 33800 (by omega) (by decide)
 rw [stp_odd _ _ h,show p16.toNat=33800 from rfl,← e]
 rfl
theorem step32 (f:BitVec 32) (h:f.toNat % 2=1):Value.int .u32 (bits BinOp.xor .u32 ((f.toNat:Int) / 2) 2197175160)=.int .u32 ((stp p32 f).toNat:Int):=by
 have h1:=f.isLt
 have e:=u32_xor_nat (f.toNat / 2) 2197175160 (by omega) (by decide)
 rw [stp_odd _ _ h,show p32.toNat=2197175160 from rfl,← e]
 rfl
theorem not16 (d:BitVec 16):Ending.returned (.int .u16 (65535 - (d.toNat:Int)))=.returned (.int .u16 ((~~~ d).toNat:Int)):=by
 have h:=d.isLt
 rw [BitVec.toNat_not]
 exact ret_int (by omega)
theorem not32 (d:BitVec 32):Ending.returned (.int .u32 (4294967295 - (d.toNat:Int)))=.returned (.int .u32 ((~~~ d).toNat:Int)):=by
 have h:=d.isLt
 rw [BitVec.toNat_not]
 exact ret_int (by omega)
theorem rshort_any (A:Option Addr) (n c B:Nat) (l:List UInt8) (w:World) (h:Rd w B A n l) (hn:n≤140737488355328) :
  Calls Tryz.prog 186 #[.slice A n c] w fun e w'=>e=.returned (.int .u16 ((s16 l).toNat:Int))∧w=w':=by
 have HR:=hid h
 clear h
 go_enter Tryz.func186,Tryz.ntmps186
 go_wp2
 go_loop [3,4] (fun v i=>∃ (k:Nat) (d:BitVec 16),k≤n∧i=.int .i64 k∧v=.int .u16 (d.toNat:Int)∧Hid (d=fB p16 0xffff#16 (l.take k))) (fun _ i=>n - (intOf i).toNat)
 case atStart=>exact ⟨0,0xffff#16,Nat.zero_le _,rfl,rfl,rfl⟩
 case round =>
  obtain ⟨k,d,hk,rfl,rfl,hd⟩:=hrel
  by_cases hlt:k<n
  ·
   obtain ⟨b,o,rfl,hb,hcell⟩:=HR.out.2 (by omega)
   obtain ⟨x,hx⟩:∃ x,x=l.getD k 0:=⟨_,rfl⟩
   have hcx:w.cell? ⟨b,o+k,none⟩=some (.int .u8 (x.toNat:Int)):=by rw [hx];exact hcell k hlt
   have Hx:=hid hx
   clear hx hcell
   have hx1:(x.toNat:Int)<256:=by have:=x.toNat_lt;omega
   have hx0:(0:Int)≤(x.toNat:Int):=by omega
   have hd1:(d.toNat:Int)<65536:=by have:=d.isLt;omega
   go_wp2_with fail
   clear hx0 hx1 hd1
   go_loop [3,5] (fun v i=>∃ (j:Nat) (f:BitVec 16),j≤8∧i=.int .i64 j∧v=.int .u16 (f.toNat:Int)∧Hid (f=stpN p16 j (d ^^^ BitVec.ofNat 16 x.toNat))) (fun _ i=>8 - (intOf i).toNat)
   case atStart=>exact ⟨0,d ^^^ BitVec.ofNat 16 x.toNat,by omega,rfl,byte16 d x,rfl⟩
   case round =>
    obtain ⟨j,f,hj,rfl,rfl,hf⟩:=hrel
    by_cases hj8:j<8
    ·
     obtain ⟨F,hF⟩:∃ F,F=f.toNat:=⟨_,rfl⟩
     have hf1:F<65536:=by have:=f.isLt;omega
     rw [← hF]
     have HF:=hid hF
     clear hF
     rcases Nat.mod_two_eq_zero_or_one F with he|he
     ·
      have ht:((F:Int) % 2==1)=false:=by simp;omega
      have HE:=hid he
      clear he
      go_wp2_with fail
      go_round
      case rel=>exact ⟨j+1,stp p16 f,by omega,by go_num,by rw [stp_even _ _ (by rw [← HF.out];exact HE.out),← HF.out];rfl,by show _=_;rw [stpN_succ,← hf.out]⟩
      case measure=>simp [intOf];omega
     ·
      have ht:((F:Int) % 2==1)=true:=by simp;omega
      have HE:=hid he
      clear he
      go_wp2_with fail
      go_round
      case rel=>exact ⟨j+1,stp p16 f,by omega,by go_num,by rw [HF.out];exact step16 f (by rw [← HF.out];exact HE.out),by show _=_;rw [stpN_succ,← hf.out]⟩
      case measure=>simp [intOf];omega
    ·
     obtain rfl:j=8:=by omega
     go_wp2_with fail
     go_round
     case rel =>
      refine ⟨k+1,f,by omega,by go_num,rfl,?_⟩
      show f=_
      rw [fB_take l 16 _ _ k (by have:=HR.out.1;omega),← hd.out,← Hx.out]
      exact hf.out
     case measure=>simp [intOf];omega
  ·
   obtain rfl:k=n:=by omega
   have hl:=HR.out.1
   have hfin:s16 l = ~~~ d:=by rw [hd.out,List.take_of_length_le (by omega)];rfl
   have HF:=hid hfin
   have hd1:(d.toNat:Int)<65536:=by have:=d.isLt;omega
   clear hfin hl
   go_wp2_with fail
   go_ret
   exact ⟨by rw [HF.out];exact not16 d,rfl⟩
theorem rlong_any (A:Option Addr) (n c B:Nat) (l:List UInt8) (w:World) (h:Rd w B A n l) (hn:n≤140737488355328) :
  Calls Tryz.prog 187 #[.slice A n c] w fun e w'=>e=.returned (.int .u32 ((s32 l).toNat:Int))∧w=w':=by
 have HR:=hid h
 clear h
 go_enter Tryz.func187,Tryz.ntmps187
 go_wp2
 go_loop [3,4] (fun v i=>∃ (k:Nat) (d:BitVec 32),k≤n∧i=.int .i64 k∧v=.int .u32 (d.toNat:Int)∧Hid (d=fB p32 0xffffffff#32 (l.take k))) (fun _ i=>n - (intOf i).toNat)
 case atStart=>exact ⟨0,0xffffffff#32,Nat.zero_le _,rfl,rfl,rfl⟩
 case round =>
  obtain ⟨k,d,hk,rfl,rfl,hd⟩:=hrel
  by_cases hlt:k<n
  ·
   obtain ⟨b,o,rfl,hb,hcell⟩:=HR.out.2 (by omega)
   obtain ⟨x,hx⟩:∃ x,x=l.getD k 0:=⟨_,rfl⟩
   have hcx:w.cell? ⟨b,o+k,none⟩=some (.int .u8 (x.toNat:Int)):=by rw [hx];exact hcell k hlt
   have Hx:=hid hx
   clear hx hcell
   have hx1:(x.toNat:Int)<256:=by have:=x.toNat_lt;omega
   have hx0:(0:Int)≤(x.toNat:Int):=by omega
   have hd1:(d.toNat:Int)<4294967296:=by have:=d.isLt;omega
   go_wp2_with fail
   clear hx0 hx1 hd1
   go_loop [3,5] (fun v i=>∃ (j:Nat) (f:BitVec 32),j≤8∧i=.int .i64 j∧v=.int .u32 (f.toNat:Int)∧Hid (f=stpN p32 j (d ^^^ BitVec.ofNat 32 x.toNat))) (fun _ i=>8 - (intOf i).toNat)
   case atStart=>exact ⟨0,d ^^^ BitVec.ofNat 32 x.toNat,by omega,rfl,byte32 d x,rfl⟩
   case round =>
    obtain ⟨j,f,hj,rfl,rfl,hf⟩:=hrel
    by_cases hj8:j<8
    ·
     obtain ⟨F,hF⟩:∃ F,F=f.toNat:=⟨_,rfl⟩
     have hf1:F<4294967296:=by have:=f.isLt;omega
     rw [← hF]
     have HF:=hid hF
     clear hF
     rcases Nat.mod_two_eq_zero_or_one F with he|he
     ·
      have ht:((F:Int) % 2==1)=false:=by simp;omega
      have HE:=hid he
      clear he
      go_wp2_with fail
      go_round
      case rel=>exact ⟨j+1,stp p32 f,by omega,by go_num,by rw [stp_even _ _ (by rw [← HF.out];exact HE.out),← HF.out];rfl,by show _=_;rw [stpN_succ,← hf.out]⟩
      case measure=>simp [intOf];omega
     ·
      have ht:((F:Int) % 2==1)=true:=by simp;omega
      have HE:=hid he
      clear he
      go_wp2_with fail
      go_round
      case rel=>exact ⟨j+1,stp p32 f,by omega,by go_num,by rw [HF.out];exact step32 f (by rw [← HF.out];exact HE.out),by show _=_;rw [stpN_succ,← hf.out]⟩
      case measure=>simp [intOf];omega
    ·
     obtain rfl:j=8:=by omega
     go_wp2_with fail
     go_round
     case rel =>
      refine ⟨k+1,f,by omega,by go_num,rfl,?_⟩
      show f=_
      rw [fB_take l 32 _ _ k (by have:=HR.out.1;omega),← hd.out,← Hx.out]
      exact hf.out
     case measure=>simp [intOf];omega
  ·
   obtain rfl:k=n:=by omega
   have hl:=HR.out.1
   have hfin:s32 l = ~~~ d:=by rw [hd.out,List.take_of_length_le (by omega)];rfl
   have HF:=hid hfin
   have hd1:(d.toNat:Int)<4294967296:=by have:=d.isLt;omega
   clear hfin hl
   go_wp2_with fail
   go_ret
   exact ⟨by rw [HF.out];exact not32 d,rfl⟩
def crcBytes (kind:Int) (l:List UInt8):List UInt8:=if kind=1 then be (s16 l).toNat 2 else if kind=2 then be (s32 l).toNat 4 else []
theorem be2 (v:Nat):be v 2=[UInt8.ofNat (v / 256),UInt8.ofNat v]:=by simp [be,List.range_succ]
theorem be4 (v:Nat):be v 4=[UInt8.ofNat (v / 16777216),UInt8.ofNat (v / 65536),UInt8.ofNat (v / 256),UInt8.ofNat v]:=by simp [be,List.range_succ]
theorem low8 (v:Nat):Value.int .u8 (v % 256:Int)=.int .u8 ((UInt8.ofNat v).toNat:Int):=by rw [UInt8.toNat_ofNat'];rfl
theorem low8_of (v:Nat) (h:v<256):Value.int .u8 (v:Int)=.int .u8 ((UInt8.ofNat v).toNat:Int):=by rw [UInt8.toNat_ofNat',Nat.mod_eq_of_lt h]
theorem gives_nil (w:World):Gives [] w (.returned (.slice none 0 0)) w:=⟨none,0,0,rfl,Rd.nil_,Nat.le_refl _,Below.refl _ _⟩
theorem gives_lit (w:World) (t:TypeId) (l:List UInt8) (cs:Array Value) (n:Nat) (hn:l.length=n) (hcs:cs=(l.map fun x=>Value.int .u8 (x.toNat:Int)).toArray) :
  Gives l w (.returned (.slice (some ⟨w.heap.size,0,none⟩) n n)) (w.alloc (.cells cs t)) :=
 ⟨_,n,n,rfl,(Rd.lit w _ rfl l t cs hcs n hn).more (by simp),Nat.le_refl _,(Below.refl _ _).alloc nlr _⟩
theorem cs2 (v:Nat) (h:v<65536):#[Value.int .u8 ((v:Int) / 256),.int .u8 ((v:Int) % 256)]=(([UInt8.ofNat (v / 256),UInt8.ofNat v]:List UInt8).map fun x=>Value.int .u8 (x.toNat:Int)).toArray:=by
 rw [low8 v,show (v:Int) / 256=((v / 256:Nat):Int) from rfl,low8_of (v / 256) (by omega)]
 rfl
theorem cs4 (v:Nat) (h:v<4294967296):#[Value.int .u8 ((v:Int) / 16777216),.int .u8 ((v:Int) / 65536 % 256),.int .u8 ((v:Int) / 256 % 256),.int .u8 ((v:Int) % 256)] =
  (([UInt8.ofNat (v / 16777216),UInt8.ofNat (v / 65536),UInt8.ofNat (v / 256),UInt8.ofNat v]:List UInt8).map fun x=>Value.int .u8 (x.toNat:Int)).toArray:=by
 rw [low8 v,show (v:Int) / 256=((v / 256:Nat):Int) from rfl,show (v:Int) / 65536=((v / 65536:Nat):Int) from rfl,show (v:Int) / 16777216=((v / 16777216:Nat):Int) from rfl,
  low8 (v / 256),low8 (v / 65536),low8_of (v / 16777216) (by omega)]
 rfl
theorem crbytes_any (kind:Int) (A:Option Addr) (n c B:Nat) (l:List UInt8) (w:World) (h:Rd w B A n l) (hn:n≤140737488355328) :
  Calls Tryz.prog 147 #[.int .i64 kind,.slice A n c] w (Gives (crcBytes kind l) w):=by
 have c1:=rshort_any A n c B l w h hn
 have c2:=rlong_any A n c B l w h hn
 have v1:=(s16 l).isLt
 have v2:=(s32 l).isLt
 clear h
 by_cases h1:kind=1
 ·
  subst h1
  rw [show crcBytes 1 l=be (s16 l).toNat 2 from rfl,be2]
  generalize (s16 l).toNat=v at *
  have C1:=hid c1
  clear c1 c2
  go_enter Tryz.func147,Tryz.ntmps147
  go_wp2_with fail
  refine C1.out.mono ?_
  rintro e w' ⟨rfl,rfl⟩
  go_wp2_with fail
  go_ret
  exact gives_lit w _ _ _ 2 rfl (cs2 v v1)
 ·
  by_cases h2:kind=2
  ·
   subst h2
   rw [show crcBytes 2 l=be (s32 l).toNat 4 from rfl,be4]
   generalize (s32 l).toNat=v at *
   have C2:=hid c2
   clear c1 c2
   go_enter Tryz.func147,Tryz.ntmps147
   go_wp2_with fail
   refine C2.out.mono ?_
   rintro e w' ⟨rfl,rfl⟩
   go_wp2_with fail
   go_ret
   exact gives_lit w _ _ _ 4 rfl (cs4 v v2)
  ·
   rw [show crcBytes kind l=[] by unfold crcBytes;rw [if_neg h1,if_neg h2]]
   have e1:(kind==1)=false:=by simpa using h1
   have e2:(kind==2)=false:=by simpa using h2
   clear h1 h2 c1 c2
   go_enter Tryz.func147,Tryz.ntmps147
   go_wp2_with fail
   go_ret
   exact gives_nil w
structure Blk where
 typ:Nat
 num:Nat
 flg:Nat
 crc:Int
 dat:List UInt8
def Blk.zero:Blk:=⟨0,0,0,0,[]⟩
def blkOk (b:Blk):Bool:=decide (1≤b.typ∧b.typ≤255)&&(decide (b.num≠0)&&((decide (b.typ≠1)||decide (b.num=1))&&(decide (0≤b.crc∧b.crc≤2)&&decide (b.dat.length≤4096))))
theorem blkOk_iff {b:Blk}:blkOk b=true↔(1≤b.typ∧b.typ≤255)∧b.num≠0∧(b.typ≠1∨b.num=1)∧(0≤b.crc∧b.crc≤2)∧b.dat.length≤4096:=by
 unfold blkOk;simp [Bool.and_eq_true,Bool.or_eq_true]
def Bd (b:Blk):Prop:=b.typ<18446744073709551616∧b.num<18446744073709551616∧b.flg<18446744073709551616
def sumN (k:Int):Nat:=if k=1 then 2 else if k=2 then 4 else 0
theorem sumN_le (k:Int):sumN k≤4:=by unfold sumN;repeat' (split <;> try omega)
theorem crcBytes_len (k:Int) (l:List UInt8):(crcBytes k l).length=sumN k:=by
 unfold crcBytes sumN
 split
 ·
  rw [be_length]
 ·
  split
  ·
   rw [be_length]
  ·
   rfl
def partsB (b:Blk):List Itm:=[.mk 0 b.typ [] [],.mk 0 b.num [] [],.mk 0 b.flg [] [],.mk 0 b.crc.toNat [] [],.mk 2 0 b.dat []]
def itmB (b:Blk) (s:List UInt8):Itm:=.mk 4 0 [] (partsB b++if b.crc=0 then [] else [.mk 2 0 s []])
def bodyB (b:Blk):List UInt8:=hd 4 (if b.crc=0 then 5 else 6)++(wrs (partsB b)++if b.crc=0 then [] else hd 2 (sumN b.crc))
def nulls (b:Blk):List UInt8:=List.replicate (sumN b.crc) 0
theorem nulls_len (b:Blk):(nulls b).length=sumN b.crc:=by simp [nulls]
def sumB (b:Blk):List UInt8:=crcBytes b.crc (bodyB b++nulls b)
def blkW (b:Blk):List UInt8:=bodyB b++sumB b
theorem sumB_len (b:Blk):(sumB b).length=sumN b.crc:=crcBytes_len _ _
theorem wrs_ap:∀ a b:List Itm,wrs (a++b)=wrs a++wrs b
 | [],b=>rfl
 | x::r,b=>by rw [List.cons_append,wrs,wrs,wrs_ap r b,List.append_assoc]
theorem wri_u (n:Nat):wri (.mk 0 n [] [])=hd 0 n:=by rw [wri,if_pos rfl]
theorem wri_b (d:List UInt8):wri (.mk 2 0 d [])=hd 2 d.length++d:=by rw [wri,if_neg (by decide),if_pos (by decide)];rfl
theorem wri_itm (b:Blk) (s:List UInt8) (hs:s.length=sumN b.crc) (_hc:0≤b.crc∧b.crc≤2):wri (itmB b s)=bodyB b++s:=by
 unfold itmB
 rw [wri,if_neg (by decide),if_neg (by decide),if_pos rfl]
 unfold bodyB
 by_cases h0:b.crc=0
 ·
  have:s=[]:=List.eq_nil_of_length_eq_zero (by rw [hs,h0];rfl)
  subst this
  simp only [if_pos h0,List.append_nil]
  rw [show (partsB b).length=5 from rfl]
 ·
  simp only [if_neg h0]
  rw [wrs_ap,show (partsB b++[Itm.mk 2 0 s []]).length=6 from rfl,wrs,wri_b,wrs,hs]
  simp [List.append_assoc]
theorem itm_fits (b:Blk) (s:List UInt8):Fits (itmB b s):=by
 unfold itmB partsB
 by_cases h0:b.crc=0
 ·
  simp only [if_pos h0]
  exact ⟨by simp [right,rights,own],by simp [dep,deps],by simp [par,pars]⟩
 ·
  simp only [if_neg h0]
  exact ⟨by simp [right,rights,own],by simp [dep,deps],by simp [par,pars]⟩
theorem itm_siz (b:Blk) (s:List UInt8) (hb:Bd b) (hc:b.crc≤2) (hd:b.dat.length<18446744073709551616) (hs:s.length<18446744073709551616):Siz (itmB b s):=by
 unfold itmB partsB
 have h3:b.crc.toNat<18446744073709551616:=by omega
 obtain ⟨h1,h2,h4⟩:=hb
 by_cases h0:b.crc=0
 ·
  simp only [if_pos h0]
  refine ⟨by decide,by simp,by simp,⟨h1,by simp,by simp,trivial⟩,⟨h2,by simp,by simp,trivial⟩,⟨h4,by simp,by simp,trivial⟩,⟨h3,by simp,by simp,trivial⟩,⟨by decide,hd,by simp,trivial⟩,trivial⟩
 ·
  simp only [if_neg h0]
  refine ⟨by decide,by simp,by simp,⟨h1,by simp,by simp,trivial⟩,⟨h2,by simp,by simp,trivial⟩,⟨h4,by simp,by simp,trivial⟩,⟨h3,by simp,by simp,trivial⟩,⟨by decide,hd,by simp,trivial⟩,⟨by decide,hs,by simp,trivial⟩,trivial⟩
theorem body_len (b:Blk):(bodyB b).length≤b.dat.length+70:=by
 unfold bodyB partsB
 simp only [wrs,wri_u,wri_b,List.length_append,hd_len,List.append_nil]
 have h1:=hsz_le (if b.crc=0 then 5 else 6)
 have h2:=hsz_le b.typ
 have h3:=hsz_le b.num
 have h4:=hsz_le b.flg
 have h5:=hsz_le b.crc.toNat
 have h6:=hsz_le b.dat.length
 have h7:=hsz_le (sumN b.crc)
 generalize (if b.crc=0 then 5 else 6:Nat)=q at *
 by_cases h0:b.crc=0
 ·
  rw [if_pos h0,List.length_nil];omega
 ·
  rw [if_neg h0,hd_len];omega
theorem body_pos (b:Blk):1≤(bodyB b).length:=by unfold bodyB;simp only [List.length_append,hd_len];omega
def takenB:Itm→Blk
 | .mk _ _ _ (y0::y1::y2::y3::y4::_)=>⟨y0.num,y1.num,y2.num,RowKit.wrap64 (y3.num:Int),y4.data⟩
 | _=>.zero
def cmpB (u w:List UInt8) (s:Nat):Int:=if u.length≠w.length∨u.take (w.length - s)≠w.take (w.length - s) then 50 else if u.drop (w.length - s)≠w.drop (w.length - s) then 51 else 0
def decB (l:List UInt8):Blk×Int×Int :=
 if (decode l).2.2≠0 then (.zero,0,(decode l).2.2)
 else if blkOk (takenB (decode l).1)=false then (.zero,0,50)
 else if cmpB (l.take (decode l).2.1.toNat) (blkW (takenB (decode l).1)) (sumN (takenB (decode l).1).crc)≠0 then (.zero,0,cmpB (l.take (decode l).2.1.toNat) (blkW (takenB (decode l).1)) (sumN (takenB (decode l).1).crc))
 else (takenB (decode l).1,(decode l).2.1,0)
theorem wrap_small (c:Int) (h0:0≤c) (h2:c≤2):RowKit.wrap64 ((c.toNat:Nat):Int)=c:=by
 unfold RowKit.wrap64
 omega
theorem taken_itm (b:Blk) (s:List UInt8) (hc:0≤b.crc∧b.crc≤2):takenB (itmB b s)=b:=by
 have h:=wrap_small b.crc hc.1 hc.2
 obtain ⟨t,n,f,c,d⟩:=b
 unfold itmB partsB
 simp only [List.cons_append,takenB,Itm.num,Itm.data]
 rw [h]
theorem decB_sum (b:Blk) (s m:List UInt8) (hok:blkOk b=true) (hb:Bd b) (hs:s.length=sumN b.crc) :
  decB (bodyB b++s++m)=if s=sumB b then (b,((blkW b).length:Int),0) else (.zero,0,51):=by
 obtain ⟨h1,h2,h3,h4,h5⟩:=blkOk_iff.1 hok
 have hw:=wri_itm b s hs h4
 have hs4:=sumN_le b.crc
 have hd:=decode_wr (itm_fits b s) (itm_siz b s hb h4.2 (by omega) (by omega)) m
 rw [hw] at hd
 have hlen:((bodyB b++s).length)=(blkW b).length:=by unfold blkW;rw [List.length_append,List.length_append,hs,sumB_len]
 unfold decB
 rw [hd]
 simp only [taken_itm b s h4]
 rw [if_neg (by simp),if_neg (by rw [hok];decide),Int.toNat_natCast,List.take_left]
 have hk:(blkW b).length - sumN b.crc=(bodyB b).length:=by unfold blkW;rw [List.length_append,sumB_len];omega
 have hcmp:cmpB (bodyB b++s) (blkW b) (sumN b.crc)=if s=sumB b then 0 else 51:=by
  unfold cmpB
  rw [hk]
  unfold blkW
  rw [List.take_left,List.take_left,List.drop_left,List.drop_left,if_neg (by simp [hs,sumB_len])]
  by_cases he:s=sumB b
  ·
   rw [if_neg (by simp [he]),if_pos he]
  ·
   rw [if_pos he,if_neg he]
 rw [hcmp,hlen]
 by_cases he:s=sumB b
 ·
  rw [if_pos he,if_neg (by simp),if_pos he]
 ·
  rw [if_neg he,if_pos (by simp),if_neg he]
theorem decB_blk (b:Blk) (m:List UInt8) (hok:blkOk b=true) (hb:Bd b):decB (blkW b++m)=(b,((blkW b).length:Int),0):=by
 have:=decB_sum b (sumB b) m hok hb (sumB_len b)
 rw [if_pos rfl] at this
 exact this
theorem and16 (F:Nat) (h:F<65536):bits BinOp.and .u16 (F:Int) 1=((F % 2:Nat):Int):=by
 have e:=u16_and_nat F 1 h (by decide)
 rw [Nat.and_one_is_mod] at e
 exact e
theorem and32 (F:Nat) (h:F<4294967296):bits BinOp.and .u32 (F:Int) 1=((F % 2:Nat):Int):=by
 have e:=u32_and_nat F 1 h (by decide)
 rw [Nat.and_one_is_mod] at e
 exact e
theorem flip16 (d:BitVec 16):Ending.returned (.int .u16 (bits BinOp.xor .u16 IntKind.u16.max (d.toNat:Int)))=.returned (.int .u16 ((~~~ d).toNat:Int)):=by
 have e:=u16_xor_nat 65535 d.toNat (by decide) d.isLt
 rw [show IntKind.u16.max=((65535:Nat):Int) from rfl,e,show (65535:Nat)=(BitVec.allOnes 16).toNat from rfl,← BitVec.toNat_xor,BitVec.allOnes_xor]
theorem flip32 (d:BitVec 32):Ending.returned (.int .u32 (bits BinOp.xor .u32 IntKind.u32.max (d.toNat:Int)))=.returned (.int .u32 ((~~~ d).toNat:Int)):=by
 have e:=u32_xor_nat 4294967295 d.toNat (by decide) d.isLt
 rw [show IntKind.u32.max=((4294967295:Nat):Int) from rfl,e,show (4294967295:Nat)=(BitVec.allOnes 32).toNat from rfl,← BitVec.toNat_xor,BitVec.allOnes_xor]
theorem sum16_any (A:Option Addr) (n c B:Nat) (l:List UInt8) (w:World) (h:Rd w B A n l) (hn:n≤140737488355328) :
  Calls Tryz.prog 213 #[.slice A n c,.int .u16 33800] w fun e w'=>e=.returned (.int .u16 ((s16 l).toNat:Int))∧w=w':=by
 have HR:=hid h
 clear h
 go_enter Tryz.func213,Tryz.ntmps213
 go_wp2
 go_loop [5,13] (fun v i=>∃ (k:Nat) (d:BitVec 16),k≤n∧i=.int .i64 k∧v=.int .u16 (d.toNat:Int)∧Hid (d=fB p16 0xffff#16 (l.take k))) (fun _ i=>n - (intOf i).toNat)
 case atStart=>exact ⟨0,0xffff#16,Nat.zero_le _,rfl,rfl,rfl⟩
 case round =>
  obtain ⟨k,d,hk,rfl,rfl,hd⟩:=hrel
  by_cases hlt:k<n
  ·
   obtain ⟨b,o,rfl,hb,hcell⟩:=HR.out.2 (by omega)
   obtain ⟨x,hx⟩:∃ x,x=l.getD k 0:=⟨_,rfl⟩
   have hcx:w.cell? ⟨b,o+k,none⟩=some (.int .u8 (x.toNat:Int)):=by rw [hx];exact hcell k hlt
   have Hx:=hid hx
   clear hx hcell
   have hx1:(x.toNat:Int)<256:=by have:=x.toNat_lt;omega
   have hx0:(0:Int)≤(x.toNat:Int):=by omega
   have hd1:(d.toNat:Int)<65536:=by have:=d.isLt;omega
   go_wp2_with fail
   clear hx0 hx1 hd1
   go_loop [5,21] (fun v i=>∃ (j:Nat) (f:BitVec 16),j≤8∧i=.int .i64 j∧v=.int .u16 (f.toNat:Int)∧Hid (f=stpN p16 j (d ^^^ BitVec.ofNat 16 x.toNat))) (fun _ i=>8 - (intOf i).toNat)
   case atStart=>exact ⟨0,d ^^^ BitVec.ofNat 16 x.toNat,by omega,rfl,byte16 d x,rfl⟩
   case round =>
    obtain ⟨j,f,hj,rfl,rfl,hf⟩:=hrel
    by_cases hj8:j<8
    ·
     obtain ⟨F,hF⟩:∃ F,F=f.toNat:=⟨_,rfl⟩
     have hf1:F<65536:=by have:=f.isLt;omega
     rw [← hF]
     have HF:=hid hF
     clear hF
     rcases Nat.mod_two_eq_zero_or_one F with he|he
     ·
      have ht:(bits BinOp.and .u16 (F:Int) 1==1)=false:=by rw [and16 F hf1,he];rfl
      have HE:=hid he
      clear he
      go_wp2_with fail
      go_round
      case rel=>exact ⟨j+1,stp p16 f,by omega,by go_num,by rw [stp_even _ _ (by rw [← HF.out];exact HE.out),← HF.out];rfl,by show _=_;rw [stpN_succ,← hf.out]⟩
      case measure=>simp [intOf];omega
     ·
      have ht:(bits BinOp.and .u16 (F:Int) 1==1)=true:=by rw [and16 F hf1,he];rfl
      have HE:=hid he
      clear he
      go_wp2_with fail
      go_round
      case rel=>exact ⟨j+1,stp p16 f,by omega,by go_num,by rw [HF.out];exact step16 f (by rw [← HF.out];exact HE.out),by show _=_;rw [stpN_succ,← hf.out]⟩
      case measure=>simp [intOf];omega
    ·
     obtain rfl:j=8:=by omega
     go_wp2_with fail
     go_round
     case rel =>
      refine ⟨k+1,f,by omega,by go_num,rfl,?_⟩
      show f=_
      rw [fB_take l 16 _ _ k (by have:=HR.out.1;omega),← hd.out,← Hx.out]
      exact hf.out
     case measure=>simp [intOf];omega
  ·
   obtain rfl:k=n:=by omega
   have hl:=HR.out.1
   have hfin:s16 l = ~~~ d:=by rw [hd.out,List.take_of_length_le (by omega)];rfl
   have HF:=hid hfin
   have hd1:(d.toNat:Int)<65536:=by have:=d.isLt;omega
   clear hfin hl
   go_wp2_with fail
   go_ret
   exact ⟨by rw [HF.out];exact flip16 d,rfl⟩
theorem sum32_any (A:Option Addr) (n c B:Nat) (l:List UInt8) (w:World) (h:Rd w B A n l) (hn:n≤140737488355328) :
  Calls Tryz.prog 214 #[.slice A n c,.int .u32 2197175160] w fun e w'=>e=.returned (.int .u32 ((s32 l).toNat:Int))∧w=w':=by
 have HR:=hid h
 clear h
 go_enter Tryz.func214,Tryz.ntmps214
 go_wp2
 go_loop [5,13] (fun v i=>∃ (k:Nat) (d:BitVec 32),k≤n∧i=.int .i64 k∧v=.int .u32 (d.toNat:Int)∧Hid (d=fB p32 0xffffffff#32 (l.take k))) (fun _ i=>n - (intOf i).toNat)
 case atStart=>exact ⟨0,0xffffffff#32,Nat.zero_le _,rfl,rfl,rfl⟩
 case round =>
  obtain ⟨k,d,hk,rfl,rfl,hd⟩:=hrel
  by_cases hlt:k<n
  ·
   obtain ⟨b,o,rfl,hb,hcell⟩:=HR.out.2 (by omega)
   obtain ⟨x,hx⟩:∃ x,x=l.getD k 0:=⟨_,rfl⟩
   have hcx:w.cell? ⟨b,o+k,none⟩=some (.int .u8 (x.toNat:Int)):=by rw [hx];exact hcell k hlt
   have Hx:=hid hx
   clear hx hcell
   have hx1:(x.toNat:Int)<256:=by have:=x.toNat_lt;omega
   have hx0:(0:Int)≤(x.toNat:Int):=by omega
   have hd1:(d.toNat:Int)<4294967296:=by have:=d.isLt;omega
   go_wp2_with fail
   clear hx0 hx1 hd1
   go_loop [5,21] (fun v i=>∃ (j:Nat) (f:BitVec 32),j≤8∧i=.int .i64 j∧v=.int .u32 (f.toNat:Int)∧Hid (f=stpN p32 j (d ^^^ BitVec.ofNat 32 x.toNat))) (fun _ i=>8 - (intOf i).toNat)
   case atStart=>exact ⟨0,d ^^^ BitVec.ofNat 32 x.toNat,by omega,rfl,byte32 d x,rfl⟩
   case round =>
    obtain ⟨j,f,hj,rfl,rfl,hf⟩:=hrel
    by_cases hj8:j<8
    ·
     obtain ⟨F,hF⟩:∃ F,F=f.toNat:=⟨_,rfl⟩
     have hf1:F<4294967296:=by have:=f.isLt;omega
     rw [← hF]
     have HF:=hid hF
     clear hF
     rcases Nat.mod_two_eq_zero_or_one F with he|he
     ·
      have ht:(bits BinOp.and .u32 (F:Int) 1==1)=false:=by rw [and32 F hf1,he];rfl
      have HE:=hid he
      clear he
      go_wp2_with fail
      go_round
      case rel=>exact ⟨j+1,stp p32 f,by omega,by go_num,by rw [stp_even _ _ (by rw [← HF.out];exact HE.out),← HF.out];rfl,by show _=_;rw [stpN_succ,← hf.out]⟩
      case measure=>simp [intOf];omega
     ·
      have ht:(bits BinOp.and .u32 (F:Int) 1==1)=true:=by rw [and32 F hf1,he];rfl
      have HE:=hid he
      clear he
      go_wp2_with fail
      go_round
      case rel=>exact ⟨j+1,stp p32 f,by omega,by go_num,by rw [HF.out];exact step32 f (by rw [← HF.out];exact HE.out),by show _=_;rw [stpN_succ,← hf.out]⟩
      case measure=>simp [intOf];omega
    ·
     obtain rfl:j=8:=by omega
     go_wp2_with fail
     go_round
     case rel =>
      refine ⟨k+1,f,by omega,by go_num,rfl,?_⟩
      show f=_
      rw [fB_take l 32 _ _ k (by have:=HR.out.1;omega),← hd.out,← Hx.out]
      exact hf.out
     case measure=>simp [intOf];omega
  ·
   obtain rfl:k=n:=by omega
   have hl:=HR.out.1
   have hfin:s32 l = ~~~ d:=by rw [hd.out,List.take_of_length_le (by omega)];rfl
   have HF:=hid hfin
   have hd1:(d.toNat:Int)<4294967296:=by have:=d.isLt;omega
   clear hfin hl
   go_wp2_with fail
   go_ret
   exact ⟨by rw [HF.out];exact flip32 d,rfl⟩
theorem short_any (A:Option Addr) (n c B:Nat) (l:List UInt8) (w:World) (h:Rd w B A n l) (hn:n≤140737488355328) :
  Calls Tryz.prog 184 #[.slice A n c] w fun e w'=>e=.returned (.int .u16 ((s16 l).toNat:Int))∧w=w':=by
 have C:=hid (sum16_any A n c B l w h hn)
 clear h
 go_enter Tryz.func184,Tryz.ntmps184
 go_wp2_with fail
 refine C.out.mono ?_
 rintro e w' ⟨rfl,rfl⟩
 go_wp2_with fail
 go_ret
 exact ⟨rfl,rfl⟩
theorem long_any (A:Option Addr) (n c B:Nat) (l:List UInt8) (w:World) (h:Rd w B A n l) (hn:n≤140737488355328) :
  Calls Tryz.prog 185 #[.slice A n c] w fun e w'=>e=.returned (.int .u32 ((s32 l).toNat:Int))∧w=w':=by
 have C:=hid (sum32_any A n c B l w h hn)
 clear h
 go_enter Tryz.func185,Tryz.ntmps185
 go_wp2_with fail
 refine C.out.mono ?_
 rintro e w' ⟨rfl,rfl⟩
 go_wp2_with fail
 go_ret
 exact ⟨rfl,rfl⟩
theorem bytes_any (kind:Int) (A:Option Addr) (n c B:Nat) (l:List UInt8) (w:World) (h:Rd w B A n l) (hn:n≤140737488355328) :
  Calls Tryz.prog 146 #[.int .i64 kind,.slice A n c] w (Gives (crcBytes kind l) w):=by
 have c1:=short_any A n c B l w h hn
 have c2:=long_any A n c B l w h hn
 have v1:=(s16 l).isLt
 have v2:=(s32 l).isLt
 clear h
 by_cases h1:kind=1
 ·
  subst h1
  rw [show crcBytes 1 l=be (s16 l).toNat 2 from rfl,be2]
  generalize (s16 l).toNat=v at *
  have C1:=hid c1
  clear c1 c2
  go_enter Tryz.func146,Tryz.ntmps146
  go_wp2_with fail
  refine C1.out.mono ?_
  rintro e w' ⟨rfl,rfl⟩
  go_wp2_with fail
  go_ret
  exact gives_lit w _ _ _ 2 rfl (cs2 v v1)
 ·
  by_cases h2:kind=2
  ·
   subst h2
   rw [show crcBytes 2 l=be (s32 l).toNat 4 from rfl,be4]
   generalize (s32 l).toNat=v at *
   have C2:=hid c2
   clear c1 c2
   go_enter Tryz.func146,Tryz.ntmps146
   go_wp2_with fail
   refine C2.out.mono ?_
   rintro e w' ⟨rfl,rfl⟩
   go_wp2_with fail
   go_ret
   exact gives_lit w _ _ _ 4 rfl (cs4 v v2)
  ·
   rw [show crcBytes kind l=[] by unfold crcBytes;rw [if_neg h1,if_neg h2]]
   have e1:(kind==1)=false:=by simpa using h1
   have e2:(kind==2)=false:=by simpa using h2
   clear h1 h2 c1 c2
   go_enter Tryz.func146,Tryz.ntmps146
   go_wp2_with fail
   go_ret
   exact gives_nil w
/-! ### Endpoints' items -/
theorem letter_plain {c:UInt8} (h:lsB c=true):(decide (32≤c.toNat)&&decide (c.toNat≤126))=true:=by
 have h0:∀ v:Fin 256,lsB (UInt8.ofNat v.val)=true→(decide (32≤(UInt8.ofNat v.val).toNat)&&decide ((UInt8.ofNat v.val).toNat≤126))=true:=by decide +kernel
 have:=h0 ⟨c.toNat,c.toNat_lt⟩
 simp only [UInt8.ofNat_toNat] at this
 exact this h
theorem name_plain {s:List UInt8} (h:nameB s=true):plain s=true:=by
 obtain ⟨r,rfl,h2,-⟩:=name_head h
 have hr:(r.all fun c=>decide (32≤c.toNat)&&decide (c.toNat≤126))=true:=List.all_eq_true.2 fun c hc=>letter_plain (List.all_eq_true.1 h2 c hc)
 unfold plain
 rw [List.all_cons,List.all_cons,hr]
 decide
theorem itemE_good {e:Epd} (h:checkB e=true):right (itemE e)=true∧dep (itemE e)≤2∧par (itemE e)≤5:=by
 by_cases h1:e.scheme=1
 ·
  obtain ⟨hn,hs,hm⟩:=check_dtn h h1
  unfold itemE
  rw [if_neg (by omega)]
  by_cases h0:e.name=[]
  ·
   rw [if_pos h0]
   exact ⟨by simp [right,rights,own],by simp [dep,deps],by simp [par,pars]⟩
  ·
   rw [if_neg h0]
   have hp:=name_plain (hm.resolve_left h0)
   exact ⟨by simp [right,rights,own,hp],by simp [dep,deps],by simp [par,pars]⟩
 ·
  obtain ⟨h2,hm,-⟩:=check_ipn h h1
  unfold itemE
  rw [if_pos h2]
  exact ⟨by simp [right,rights,own],by simp [dep,deps],by simp [par,pars]⟩
theorem itemE_siz {e:Epd} (h:checkB e=true):Siz (itemE e):=by
 by_cases h1:e.scheme=1
 ·
  obtain ⟨hn,hs,hm⟩:=check_dtn h h1
  unfold itemE
  rw [if_neg (by omega)]
  by_cases h0:e.name=[]
  ·
   rw [if_pos h0]
   exact ⟨by decide,by simp,by simp,⟨by rw [h1];decide,by simp,by simp,trivial⟩,⟨by decide,by simp,by simp,trivial⟩,trivial⟩
  ·
   rw [if_neg h0]
   obtain ⟨r,hr,-,-,-,hl⟩:=name_head (hm.resolve_left h0)
   exact ⟨by decide,by simp,by simp,⟨by rw [h1];decide,by simp,by simp,trivial⟩,⟨by decide,by omega,by simp,trivial⟩,trivial⟩
 ·
  obtain ⟨h2,hm,-,h3,h4⟩:=check_ipn h h1
  unfold itemE
  rw [if_pos h2]
  exact ⟨by decide,by simp,by simp,⟨by rw [h2];decide,by simp,by simp,trivial⟩,⟨by decide,by simp,by simp,⟨by omega,by simp,by simp,trivial⟩,⟨by omega,by simp,by simp,trivial⟩,trivial⟩,trivial⟩
theorem wri_4 (l:List Itm):wri (.mk 4 0 [] l)=hd 4 l.length++wrs l:=by rw [wri,if_neg (by decide),if_neg (by decide),if_pos rfl]
theorem wri_t (d:List UInt8):wri (.mk 3 0 d [])=hd 3 d.length++d:=by rw [wri,if_neg (by decide),if_pos (by decide)];rfl
theorem wri_itemE_len {e:Epd} (h:checkB e=true):(wri (itemE e)).length≤110:=by
 have hl:∀ m n,(hd m n).length≤9:=fun m n=>by rw [hd_len];have:=hsz_le n;omega
 have a0:=hl 4 2
 have a1:=hl 0 e.scheme.toNat
 by_cases h1:e.scheme=1
 ·
  obtain ⟨hn,hs,hm⟩:=check_dtn h h1
  unfold itemE
  rw [if_neg (by omega),wri_4]
  by_cases h0:e.name=[]
  ·
   rw [if_pos h0]
   have a3:=hl 0 0
   simp only [wrs,wri_u,List.length_append,List.length_cons,List.length_nil,Nat.zero_add,Nat.reduceAdd,List.append_nil]
   omega
  ·
   rw [if_neg h0]
   obtain ⟨r,hr,-,-,-,hl2⟩:=name_head (hm.resolve_left h0)
   have a3:=hl 3 e.name.length
   simp only [wrs,wri_u,wri_t,List.length_append,List.length_cons,List.length_nil,Nat.zero_add,Nat.reduceAdd,List.append_nil]
   omega
 ·
  obtain ⟨h2,hm,-⟩:=check_ipn h h1
  unfold itemE
  rw [if_pos h2,wri_4]
  have a3:=hl 0 e.node
  have a4:=hl 0 e.service
  simp only [wrs,wri_u,wri_4,List.length_append,List.length_cons,List.length_nil,Nat.zero_add,Nat.reduceAdd,List.append_nil]
  omega
/-! ### Bundles -/
structure Bun where
 flg:Nat
 crc:Int
 dst:Epd
 src:Epd
 rep:Epd
 tim:Nat
 seq:Nat
 lif:Nat
 blks:List Blk
def fragB (f:Nat):Bool:=Go.bits BinOp.and IntKind.u64 (f:Int) 1 != 0
def wholeB (f:Nat):Bool:=Go.bits BinOp.and IntKind.u64 (f:Int) 475140==4
def singB (t:Nat):Bool:=decide (t=10)||(decide (t=7)||decide (t=6))
def frm (a:List Blk):List Blk→Bool
 | []=>true
 | x::r=>blkOk x&&((decide (x.typ=1)==r.isEmpty)&&((!(a.any fun y=>decide (y.num=x.num)))&&((!(singB x.typ&&a.any fun y=>decide (y.typ=x.typ)))&&frm (a++[x]) r)))
def blksOk (l:List Blk):Bool:=decide (1≤l.length∧l.length≤16)&&frm [] l
def primOk (b:Bun):Bool:=decide (0≤b.crc∧b.crc≤2)&&((checkB b.dst&&(checkB b.src&&checkB b.rep))&&((!(noneB b.dst))&&(!(noneB b.src && !(wholeB b.flg)))))
def cauU (b:Bun):Int:=if fragB b.flg=true then 62 else if primOk b=true∧blksOk b.blks=true then 0 else 60
def BdP (b:Bun):Prop:=b.flg<18446744073709551616∧b.tim<18446744073709551616∧b.seq<18446744073709551616∧b.lif<18446744073709551616
def Wr (b:Bun):Prop:=(0≤b.crc∧b.crc≤2)∧checkB b.dst=true∧checkB b.src=true∧checkB b.rep=true
def partsP (b:Bun):List Itm:=[.mk 0 7 [] [],.mk 0 b.flg [] [],.mk 0 b.crc.toNat [] [],itemE b.dst,itemE b.src,itemE b.rep,.mk 4 0 [] [.mk 0 b.tim [] [],.mk 0 b.seq [] []],.mk 0 b.lif [] []]
def itmP (b:Bun) (s:List UInt8):Itm:=.mk 4 0 [] (partsP b++if b.crc=0 then [] else [.mk 2 0 s []])
def bodyP (b:Bun):List UInt8:=hd 4 (if b.crc=0 then 8 else 9)++(wrs (partsP b)++if b.crc=0 then [] else hd 2 (sumN b.crc))
def nullsP (b:Bun):List UInt8:=List.replicate (sumN b.crc) 0
theorem nullsP_len (b:Bun):(nullsP b).length=sumN b.crc:=by simp [nullsP]
def sumP (b:Bun):List UInt8:=crcBytes b.crc (bodyP b++nullsP b)
def primW (b:Bun):List UInt8:=bodyP b++sumP b
theorem sumP_len (b:Bun):(sumP b).length=sumN b.crc:=crcBytes_len _ _
theorem wri_itmP (b:Bun) (s:List UInt8) (hs:s.length=sumN b.crc):wri (itmP b s)=bodyP b++s:=by
 unfold itmP
 rw [wri,if_neg (by decide),if_neg (by decide),if_pos rfl]
 unfold bodyP
 by_cases h0:b.crc=0
 ·
  have:s=[]:=List.eq_nil_of_length_eq_zero (by rw [hs,h0];rfl)
  subst this
  simp only [if_pos h0,List.append_nil]
  rw [show (partsP b).length=8 from rfl]
 ·
  simp only [if_neg h0]
  rw [wrs_ap,show (partsP b++[Itm.mk 2 0 s []]).length=9 from rfl,wrs,wri_b,wrs,hs]
  simp [List.append_assoc]
theorem itmP_fits {b:Bun} (s:List UInt8) (h:Wr b):Fits (itmP b s):=by
 obtain ⟨-,hd,hs,hr⟩:=h
 obtain ⟨d1,d2,d3⟩:=itemE_good hd
 obtain ⟨s1,s2,s3⟩:=itemE_good hs
 obtain ⟨r1,r2,r3⟩:=itemE_good hr
 unfold itmP partsP
 by_cases h0:b.crc=0
 ·
  simp only [if_pos h0]
  exact ⟨by simp [right,rights,own,d1,s1,r1],by simp [dep,deps];omega,by simp [par,pars];omega⟩
 ·
  simp only [if_neg h0]
  exact ⟨by simp [right,rights,own,d1,s1,r1],by simp [dep,deps];omega,by simp [par,pars];omega⟩
theorem itmP_siz {b:Bun} (s:List UInt8) (h:Wr b) (hb:BdP b) (hs:s.length<18446744073709551616):Siz (itmP b s):=by
 obtain ⟨hc,hd,hsr,hr⟩:=h
 obtain ⟨h1,h2,h3,h4⟩:=hb
 have h5:b.crc.toNat<18446744073709551616:=by omega
 have d1:=itemE_siz hd
 have s1:=itemE_siz hsr
 have r1:=itemE_siz hr
 unfold itmP partsP
 have hrow:∀ t:List Itm,Sizs t→Sizs ([.mk 0 7 [] [],.mk 0 b.flg [] [],.mk 0 b.crc.toNat [] [],itemE b.dst,itemE b.src,itemE b.rep,.mk 4 0 [] [.mk 0 b.tim [] [],.mk 0 b.seq [] []],.mk 0 b.lif [] []]++t):=fun t ht =>
  ⟨⟨by decide,by simp,by simp,trivial⟩,⟨h1,by simp,by simp,trivial⟩,⟨h5,by simp,by simp,trivial⟩,d1,s1,r1,⟨by decide,by simp,by simp,⟨h2,by simp,by simp,trivial⟩,⟨h3,by simp,by simp,trivial⟩,trivial⟩,⟨h4,by simp,by simp,trivial⟩,ht⟩
 by_cases h0:b.crc=0
 ·
  simp only [if_pos h0]
  exact ⟨by decide,by simp,by simp,hrow [] trivial⟩
 ·
  simp only [if_neg h0]
  exact ⟨by decide,by simp,by simp,hrow _ ⟨⟨by decide,hs,by simp,trivial⟩,trivial⟩⟩
theorem bodyP_len {b:Bun} (h:Wr b):(bodyP b).length≤450:=by
 obtain ⟨-,d0,s0,r0⟩:=h
 have d1:=wri_itemE_len d0
 have s1:=wri_itemE_len s0
 have r1:=wri_itemE_len r0
 have hl:∀ m n,(hd m n).length≤9:=fun m n=>by rw [hd_len];have:=hsz_le n;omega
 unfold bodyP partsP
 have h1:=hl 4 (if b.crc=0 then 8 else 9)
 have h2:=hl 0 7
 have h3:=hl 0 b.flg
 have h4:=hl 0 b.crc.toNat
 have h5:=hl 0 b.tim
 have h6:=hl 0 b.seq
 have h7:=hl 0 b.lif
 have h8:=hl 4 2
 have h9:=hl 2 (sumN b.crc)
 simp only [wrs,wri_u,wri_4,List.length_append,List.length_cons,List.length_nil,Nat.zero_add,Nat.reduceAdd,List.append_nil]
 generalize (hd 4 (if b.crc=0 then 8 else 9)).length=q at *
 by_cases h0:b.crc=0
 ·
  rw [if_pos h0,List.length_nil];omega
 ·
  rw [if_neg h0];omega
theorem bodyP_pos (b:Bun):1≤(bodyP b).length:=by unfold bodyP;simp only [List.length_append,hd_len];omega
theorem primW_len {b:Bun} (h:Wr b):(primW b).length≤454:=by
 unfold primW
 rw [List.length_append,sumP_len]
 have:=bodyP_len h
 have:=sumN_le b.crc
 omega
theorem primW_lenE (b:Bun):(primW b).length=(bodyP b).length+sumN b.crc:=by unfold primW;rw [List.length_append,sumP_len]
theorem prim_dec {b:Bun} (h:Wr b) (hb:BdP b) (m:List UInt8):decode (primW b++m)=(itmP b (sumP b),((primW b).length:Int),0):=by
 have hw:=wri_itmP b (sumP b) (sumP_len b)
 have:=decode_wr (itmP_fits (sumP b) h) (itmP_siz (sumP b) h hb (by rw [sumP_len];have:=sumN_le b.crc;omega)) m
 rw [hw] at this
 exact this
def blkWs:List Blk→List UInt8 | []=>[]|x::r=>blkW x++blkWs r
theorem blkWs_app:∀ a b:List Blk,blkWs (a++b)=blkWs a++blkWs b
 | [],b=>rfl
 | x::r,b=>by rw [List.cons_append,blkWs,blkWs,blkWs_app r b,List.append_assoc]
def bunW (b:Bun):List UInt8:=0x9f::(primW b++(blkWs b.blks++[0xff]))
theorem primOk_iff {b:Bun}:primOk b=true↔Wr b∧noneB b.dst=false∧(noneB b.src=true→wholeB b.flg=true):=by
 unfold primOk Wr
 simp only [Bool.and_eq_true,decide_eq_true_eq,Bool.not_eq_true',Bool.and_eq_false_iff,Bool.not_eq_false']
 constructor
 ·
  rintro ⟨h1,⟨h2,h3,h4⟩,h5,h6⟩
  exact ⟨⟨h1,h2,h3,h4⟩,h5,fun h=>h6.resolve_left (by rw [h];decide)⟩
 ·
  rintro ⟨⟨h1,h2,h3,h4⟩,h5,h6⟩
  refine ⟨h1,⟨h2,h3,h4⟩,h5,?_⟩
  cases hn:noneB b.src
  ·
   exact .inl rfl
  ·
   exact .inr (h6 hn)
theorem cauU_0 {b:Bun}:cauU b=0↔fragB b.flg=false∧primOk b=true∧blksOk b.blks=true:=by
 unfold cauU
 cases fragB b.flg <;> by_cases h:primOk b=true∧blksOk b.blks=true <;> simp [h] <;> simp_all
def PrimAt (l:List UInt8) (b:Bun):Prop:=Wr b∧BdP b∧∃ m,l=primW b++m
theorem PrimAt.dec {l:List UInt8} {b:Bun} (h:PrimAt l b):decode l=(itmP b (sumP b),((primW b).length:Int),0):=by
 obtain ⟨h1,h2,m,rfl⟩:=h
 exact prim_dec h1 h2 m
end Go.Proofs.YtlecbblmaadpiaaGreatDoor
