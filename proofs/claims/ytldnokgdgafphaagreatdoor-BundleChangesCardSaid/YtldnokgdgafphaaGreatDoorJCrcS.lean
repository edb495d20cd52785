/- Sums of bytes by a shift register over n bits, as plain functions: that it is linear, that a burst no longer than n is told, and what bytes with their own sum behind them come to. No program's number stands here. -/
import Derived.Test.YtldnokgdgafphaaGreatDoorJKHead
import Derived.WalkKit
namespace Go.Proofs.YtldnokgdgafphaaGreatDoor
section
variable {n:Nat}
def stp (p c:BitVec n):BitVec n:=if c.getLsbD 0 then (c >>> 1) ^^^ p else c >>> 1
def stpN (p:BitVec n):Nat→BitVec n→BitVec n
  | 0,c=>c
  | k+1,c=>stpN p k (stp p c)
/-! ### Bit by bit -/
def b1 (n:Nat) (b:Bool):BitVec n:=if b then 1#n else 0#n
/-! ### Byte by byte -/
def byt (p c:BitVec n) (x:UInt8):BitVec n:=stpN p 8 (c ^^^ BitVec.ofNat n x.toNat)
def fB (p c:BitVec n) (l:List UInt8):BitVec n:=l.foldl (byt p) c
theorem fB_append (p c:BitVec n) (l m:List UInt8):fB p c (l++m)=fB p (fB p c l) m:=by simp [fB,List.foldl_append]
theorem fB_snoc (p c:BitVec n) (l:List UInt8) (x:UInt8):fB p c (l++[x])=byt p (fB p c l) x:=by rw [fB_append];rfl
end
/-! ### The two sums of layer 2 -/
def p16:BitVec 16:=0x8408#16
def p32:BitVec 32:=0x82f63b78#32
def s16 (l:List UInt8):BitVec 16 := ~~~ fB p16 0xffff#16 l
def s32 (l:List UInt8):BitVec 32 := ~~~ fB p32 0xffffffff#32 l
end Go.Proofs.YtldnokgdgafphaaGreatDoor
/- What the reference of layer 2 returns: Short and Long as 's16' and 's32' of the bytes; Bytes. -/
namespace Go.Proofs.YtldnokgdgafphaaGreatDoor
open Go.RowKit
theorem stpN_succ {n:Nat} (p:BitVec n):∀ (k:Nat) (c:BitVec n),stpN p (k+1) c=stp p (stpN p k c)
  | 0,_=>rfl
  | k+1,c=>by rw [stpN,stpN_succ p k,← stpN]
theorem stp_even {n:Nat} (p c:BitVec n) (h:c.toNat % 2=0):(stp p c).toNat=c.toNat / 2:=by
  have e:c.getLsbD 0=false:=by simp [BitVec.getLsbD,Nat.testBit_zero,h]
  unfold stp
  rw [if_neg (by rw [e];simp),BitVec.toNat_ushiftRight,Nat.shiftRight_eq_div_pow]
theorem stp_odd {n:Nat} (p c:BitVec n) (h:c.toNat % 2=1):(stp p c).toNat=c.toNat / 2 ^^^ p.toNat:=by
  have e:c.getLsbD 0=true:=by simp [BitVec.getLsbD,Nat.testBit_zero,h]
  unfold stp
  rw [if_pos e,BitVec.toNat_xor,BitVec.toNat_ushiftRight,Nat.shiftRight_eq_div_pow]
theorem fB_take (l:List UInt8) (n:Nat) (p c:BitVec n) (k:Nat) (h:k<l.length):fB p c (l.take (k+1))=stpN p 8 (fB p c (l.take k) ^^^ BitVec.ofNat n (l.getD k 0).toNat):=by
  rw [take_more l k h,fB_snoc];rfl
theorem byte16 (d:BitVec 16) (x:UInt8):Value.int .u16 (bits BinOp.xor .u16 (d.toNat:Int) (x.toNat:Int))=.int .u16 ((d ^^^ BitVec.ofNat 16 x.toNat).toNat:Int):=by
  have h1:=d.isLt
  have h2:=x.toNat_lt
  rw [u16_xor_nat _ _ h1 (by omega),BitVec.toNat_xor,BitVec.toNat_ofNat,Nat.mod_eq_of_lt (by omega)]
theorem byte32 (d:BitVec 32) (x:UInt8):Value.int .u32 (bits BinOp.xor .u32 (d.toNat:Int) (x.toNat:Int))=.int .u32 ((d ^^^ BitVec.ofNat 32 x.toNat).toNat:Int):=by
  have h1:=d.isLt
  have h2:=x.toNat_lt
  rw [u32_xor_nat _ _ h1 (by omega),BitVec.toNat_xor,BitVec.toNat_ofNat,Nat.mod_eq_of_lt (by omega)]
theorem step16 (f:BitVec 16) (h:f.toNat % 2=1):Value.int .u16 (bits BinOp.xor .u16 ((f.toNat:Int) / 2) 33800)=.int .u16 ((stp p16 f).toNat:Int):=by
  have h1:=f.isLt
  have e:=u16_xor_nat (f.toNat / 2) 33800 (by omega) (by decide)
  rw [stp_odd _ _ h,show p16.toNat=33800 from rfl,← e]
  rfl
theorem step32 (f:BitVec 32) (h:f.toNat % 2=1):Value.int .u32 (bits BinOp.xor .u32 ((f.toNat:Int) / 2) 2197175160)=.int .u32 ((stp p32 f).toNat:Int):=by
  have h1:=f.isLt
  have e:=u32_xor_nat (f.toNat / 2) 2197175160 (by omega) (by decide)
  rw [stp_odd _ _ h,show p32.toNat=2197175160 from rfl,← e]
  rfl
def crcBytes (kind:Int) (l:List UInt8):List UInt8:=if kind=1 then be (s16 l).toNat 2 else if kind=2 then be (s32 l).toNat 4 else []
theorem be2 (v:Nat):be v 2=[UInt8.ofNat (v / 256),UInt8.ofNat v]:=by simp [be,List.range_succ]
theorem be4 (v:Nat):be v 4=[UInt8.ofNat (v / 16777216),UInt8.ofNat (v / 65536),UInt8.ofNat (v / 256),UInt8.ofNat v]:=by simp [be,List.range_succ]
theorem low8 (v:Nat):Value.int .u8 (v % 256:Int)=.int .u8 ((UInt8.ofNat v).toNat:Int):=by rw [UInt8.toNat_ofNat'];rfl
theorem low8_of (v:Nat) (h:v<256):Value.int .u8 (v:Int)=.int .u8 ((UInt8.ofNat v).toNat:Int):=by rw [UInt8.toNat_ofNat',Nat.mod_eq_of_lt h]
theorem gives_nil (w:World):Gives [] w (.returned (.slice none 0 0)) w:=⟨none,0,0,rfl,Rd.nil_,Nat.le_refl _,Below.refl _ _⟩
theorem gives_lit (w:World) (t:TypeId) (l:List UInt8) (cs:Array Value) (n:Nat) (hn:l.length=n) (hcs:cs=(l.map fun x=>Value.int .u8 (x.toNat:Int)).toArray) :
    Gives l w (.returned (.slice (some ⟨w.heap.size,0,none⟩) n n)) (w.alloc (.cells cs t)) :=
  ⟨_,n,n,rfl,(Rd.lit w _ rfl l t cs hcs n hn).more (by simp),Nat.le_refl _,(Below.refl _ _).alloc (Nat.le_refl _) _⟩
theorem cs2 (v:Nat) (h:v<65536):#[Value.int .u8 ((v:Int) / 256),.int .u8 ((v:Int) % 256)]=(([UInt8.ofNat (v / 256),UInt8.ofNat v]:List UInt8).map fun x=>Value.int .u8 (x.toNat:Int)).toArray:=by
  rw [low8 v,show (v:Int) / 256=((v / 256:Nat):Int) from rfl,low8_of (v / 256) (by omega)]
  rfl
theorem cs4 (v:Nat) (h:v<4294967296):#[Value.int .u8 ((v:Int) / 16777216),.int .u8 ((v:Int) / 65536 % 256),.int .u8 ((v:Int) / 256 % 256),.int .u8 ((v:Int) % 256)] =
    (([UInt8.ofNat (v / 16777216),UInt8.ofNat (v / 65536),UInt8.ofNat (v / 256),UInt8.ofNat v]:List UInt8).map fun x=>Value.int .u8 (x.toNat:Int)).toArray:=by
  rw [low8 v,show (v:Int) / 256=((v / 256:Nat):Int) from rfl,show (v:Int) / 65536=((v / 65536:Nat):Int) from rfl,show (v:Int) / 16777216=((v / 16777216:Nat):Int) from rfl,
    low8 (v / 256),low8 (v / 65536),low8_of (v / 16777216) (by omega)]
  rfl
end Go.Proofs.YtldnokgdgafphaaGreatDoor
/- The plain mathematics of layer 5: blocks, the bytes that they are, how bytes are read as one. No program's number stands here but the sums' (CrcR). -/
namespace Go.Proofs.YtldnokgdgafphaaGreatDoor
structure Blk where
  typ:Nat
  num:Nat
  flg:Nat
  crc:Int
  dat:List UInt8
def Blk.zero:Blk:=⟨0,0,0,0,[]⟩
def blkOk (b:Blk):Bool:=decide (1≤b.typ∧b.typ≤255)&&(decide (b.num≠0)&&((decide (b.typ≠1)||decide (b.num=1))&&(decide (0≤b.crc∧b.crc≤2)&&decide (b.dat.length≤4096))))
theorem blkOk_iff {b:Blk}:blkOk b=true↔(1≤b.typ∧b.typ≤255)∧b.num≠0∧(b.typ≠1∨b.num=1)∧(0≤b.crc∧b.crc≤2)∧b.dat.length≤4096:=by
  unfold blkOk;simp [Bool.and_eq_true,Bool.or_eq_true]
def Bd (b:Blk):Prop:=b.typ<18446744073709551616∧b.num<18446744073709551616∧b.flg<18446744073709551616
def sumN (k:Int):Nat:=if k=1 then 2 else if k=2 then 4 else 0
theorem sumN_le (k:Int):sumN k≤4:=by unfold sumN;repeat' (split <;> try omega)
theorem crcBytes_len (k:Int) (l:List UInt8):(crcBytes k l).length=sumN k:=by
  unfold crcBytes sumN
  split
  · rw [be_length]
  · split
    · rw [be_length]
    · rfl
def partsB (b:Blk):List Itm:=[.mk 0 b.typ [] [],.mk 0 b.num [] [],.mk 0 b.flg [] [],.mk 0 b.crc.toNat [] [],.mk 2 0 b.dat []]
def itmB (b:Blk) (s:List UInt8):Itm:=.mk 4 0 [] (partsB b++if b.crc=0 then [] else [.mk 2 0 s []])
def bodyB (b:Blk):List UInt8:=hd 4 (if b.crc=0 then 5 else 6)++(wrs (partsB b)++if b.crc=0 then [] else hd 2 (sumN b.crc))
def nulls (b:Blk):List UInt8:=List.replicate (sumN b.crc) 0
theorem nulls_len (b:Blk):(nulls b).length=sumN b.crc:=by simp [nulls]
def sumB (b:Blk):List UInt8:=crcBytes b.crc (bodyB b++nulls b)
def blkW (b:Blk):List UInt8:=bodyB b++sumB b
theorem sumB_len (b:Blk):(sumB b).length=sumN b.crc:=crcBytes_len _ _
theorem wrs_ap:∀ a b:List Itm,wrs (a++b)=wrs a++wrs b
  | [],b=>rfl
  | x::r,b=>by rw [List.cons_append,wrs,wrs,wrs_ap r b,List.append_assoc]
theorem wri_u (n:Nat):wri (.mk 0 n [] [])=hd 0 n:=by rw [wri,if_pos rfl]
theorem wri_b (d:List UInt8):wri (.mk 2 0 d [])=hd 2 d.length++d:=by rw [wri,if_neg (by decide),if_pos (by decide)];rfl
theorem wri_itm (b:Blk) (s:List UInt8) (hs:s.length=sumN b.crc) (_hc:0≤b.crc∧b.crc≤2):wri (itmB b s)=bodyB b++s:=by
  unfold itmB
  rw [wri,if_neg (by decide),if_neg (by decide),if_pos rfl]
  unfold bodyB
  by_cases h0:b.crc=0
  · have:s=[]:=List.eq_nil_of_length_eq_zero (by rw [hs,h0];rfl)
    subst this
    simp only [if_pos h0,List.append_nil]
    rw [show (partsB b).length=5 from rfl]
  · simp only [if_neg h0]
    rw [wrs_ap,show (partsB b++[Itm.mk 2 0 s []]).length=6 from rfl,wrs,wri_b,wrs,hs]
    simp [List.append_assoc]
theorem itm_fits (b:Blk) (s:List UInt8):Fits (itmB b s):=by
  unfold itmB partsB
  by_cases h0:b.crc=0
  · simp only [if_pos h0]
    exact ⟨by simp [right,rights,own],by simp [dep,deps],by simp [par,pars]⟩
  · simp only [if_neg h0]
    exact ⟨by simp [right,rights,own],by simp [dep,deps],by simp [par,pars]⟩
theorem itm_siz (b:Blk) (s:List UInt8) (hb:Bd b) (hc:b.crc≤2) (hd:b.dat.length<18446744073709551616) (hs:s.length<18446744073709551616):Siz (itmB b s):=by
  unfold itmB partsB
  have h3:b.crc.toNat<18446744073709551616:=by omega
  obtain ⟨h1,h2,h4⟩:=hb
  by_cases h0:b.crc=0
  · simp only [if_pos h0]
    refine ⟨by decide,by simp,by simp,⟨h1,by simp,by simp,trivial⟩,⟨h2,by simp,by simp,trivial⟩,⟨h4,by simp,by simp,trivial⟩,⟨h3,by simp,by simp,trivial⟩,⟨by decide,hd,by simp,trivial⟩,trivial⟩
  · simp only [if_neg h0]
    refine ⟨by decide,by simp,by simp,⟨h1,by simp,by simp,trivial⟩,⟨h2,by simp,by simp,trivial⟩,⟨h4,by simp,by simp,trivial⟩,⟨h3,by simp,by simp,trivial⟩,⟨by decide,hd,by simp,trivial⟩,⟨by decide,hs,by simp,trivial⟩,trivial⟩
theorem body_len (b:Blk):(bodyB b).length≤b.dat.length+70:=by
  unfold bodyB partsB
  simp only [wrs,wri_u,wri_b,List.length_append,hd_len,List.append_nil]
  have h1:=hsz_le (if b.crc=0 then 5 else 6)
  have h2:=hsz_le b.typ
  have h3:=hsz_le b.num
  have h4:=hsz_le b.flg
  have h5:=hsz_le b.crc.toNat
  have h6:=hsz_le b.dat.length
  have h7:=hsz_le (sumN b.crc)
  generalize (if b.crc=0 then 5 else 6:Nat)=q at *
  by_cases h0:b.crc=0
  · rw [if_pos h0,List.length_nil];omega
  · rw [if_neg h0,hd_len];omega
theorem body_pos (b:Blk):1≤(bodyB b).length:=by unfold bodyB;simp only [List.length_append,hd_len];omega
def takenB:Itm→Blk
  | .mk _ _ _ (y0::y1::y2::y3::y4::_)=>⟨y0.num,y1.num,y2.num,RowKit.wrap64 (y3.num:Int),y4.data⟩
  | _=>.zero
def cmpB (u w:List UInt8) (s:Nat):Int:=if u.length≠w.length∨u.take (w.length - s)≠w.take (w.length - s) then 50 else if u.drop (w.length - s)≠w.drop (w.length - s) then 51 else 0
def decB (l:List UInt8):Blk×Int×Int :=
  if (decode l).2.2≠0 then (.zero,0,(decode l).2.2)
  else if blkOk (takenB (decode l).1)=false then (.zero,0,50)
  else if cmpB (l.take (decode l).2.1.toNat) (blkW (takenB (decode l).1)) (sumN (takenB (decode l).1).crc)≠0 then (.zero,0,cmpB (l.take (decode l).2.1.toNat) (blkW (takenB (decode l).1)) (sumN (takenB (decode l).1).crc))
  else (takenB (decode l).1,(decode l).2.1,0)
theorem wrap_small (c:Int) (h0:0≤c) (h2:c≤2):RowKit.wrap64 ((c.toNat:Nat):Int)=c:=by
  unfold RowKit.wrap64
  omega
theorem taken_itm (b:Blk) (s:List UInt8) (hc:0≤b.crc∧b.crc≤2):takenB (itmB b s)=b:=by
  have h:=wrap_small b.crc hc.1 hc.2
  obtain ⟨t,n,f,c,d⟩:=b
  unfold itmB partsB
  simp only [List.cons_append,takenB,Itm.num,Itm.data]
  rw [h]
theorem decB_sum (b:Blk) (s m:List UInt8) (hok:blkOk b=true) (hb:Bd b) (hs:s.length=sumN b.crc) :
    decB (bodyB b++s++m)=if s=sumB b then (b,((blkW b).length:Int),0) else (.zero,0,51):=by
  obtain ⟨h1,h2,h3,h4,h5⟩:=blkOk_iff.1 hok
  have hw:=wri_itm b s hs h4
  have hs4:=sumN_le b.crc
  have hd:=decode_wr (itm_fits b s) (itm_siz b s hb h4.2 (by omega) (by omega)) m
  rw [hw] at hd
  have hlen:((bodyB b++s).length)=(blkW b).length:=by unfold blkW;rw [List.length_append,List.length_append,hs,sumB_len]
  unfold decB
  rw [hd]
  simp only [taken_itm b s h4]
  rw [if_neg (by simp),if_neg (by rw [hok];decide),Int.toNat_natCast,List.take_left]
  have hk:(blkW b).length - sumN b.crc=(bodyB b).length:=by unfold blkW;rw [List.length_append,sumB_len];omega
  have hcmp:cmpB (bodyB b++s) (blkW b) (sumN b.crc)=if s=sumB b then 0 else 51:=by
    unfold cmpB
    rw [hk]
    unfold blkW
    rw [List.take_left,List.take_left,List.drop_left,List.drop_left,if_neg (by simp [hs,sumB_len])]
    by_cases he:s=sumB b
    · rw [if_neg (by simp [he]),if_pos he]
    · rw [if_pos he,if_neg he]
  rw [hcmp,hlen]
  by_cases he:s=sumB b
  · rw [if_pos he,if_neg (by simp),if_pos he]
  · rw [if_neg he,if_pos (by simp),if_neg he]
theorem decB_blk (b:Blk) (m:List UInt8) (hok:blkOk b=true) (hb:Bd b):decB (blkW b++m)=(b,((blkW b).length:Int),0):=by
  have:=decB_sum b (sumB b) m hok hb (sumB_len b)
  rw [if_pos rfl] at this
  exact this
end Go.Proofs.YtldnokgdgafphaaGreatDoor
/- What Short, Long and Bytes of layer 2 return. -/
namespace Go.Proofs.YtldnokgdgafphaaGreatDoor
open Go.RowKit
theorem and16 (F:Nat) (h:F<65536):bits BinOp.and .u16 (F:Int) 1=((F % 2:Nat):Int):=by
  have e:=u16_and_nat F 1 h (by decide)
  rw [Nat.and_one_is_mod] at e
  exact e
theorem and32 (F:Nat) (h:F<4294967296):bits BinOp.and .u32 (F:Int) 1=((F % 2:Nat):Int):=by
  have e:=u32_and_nat F 1 h (by decide)
  rw [Nat.and_one_is_mod] at e
  exact e
theorem flip16 (d:BitVec 16):Ending.returned (.int .u16 (bits BinOp.xor .u16 IntKind.u16.max (d.toNat:Int)))=.returned (.int .u16 ((~~~ d).toNat:Int)):=by
  have e:=u16_xor_nat 65535 d.toNat (by decide) d.isLt
  rw [show IntKind.u16.max=((65535:Nat):Int) from rfl,e,show (65535:Nat)=(BitVec.allOnes 16).toNat from rfl,← BitVec.toNat_xor,BitVec.allOnes_xor]
theorem flip32 (d:BitVec 32):Ending.returned (.int .u32 (bits BinOp.xor .u32 IntKind.u32.max (d.toNat:Int)))=.returned (.int .u32 ((~~~ d).toNat:Int)):=by
  have e:=u32_xor_nat 4294967295 d.toNat (by decide) d.isLt
  rw [show IntKind.u32.max=((4294967295:Nat):Int) from rfl,e,show (4294967295:Nat)=(BitVec.allOnes 32).toNat from rfl,← BitVec.toNat_xor,BitVec.allOnes_xor]
set_option maxRecDepth 100000 in
set_option maxHeartbeats 1000000 in
theorem sum16_any (A:Option Addr) (n c B:Nat) (l:List UInt8) (w:World) (h:Rd w B A n l) (hn:n≤140737488355328) :
    Calls Tryz.prog 115 #[.slice A n c,.int .u16 33800] w fun e w'=>e=.returned (.int .u16 ((s16 l).toNat:Int))∧w=w':=by
  have HR:=Lib.hid h
  clear h
  go_enter Tryz.func115,Tryz.ntmps115
  go_wp2
  go_loop [5,13] (fun v i=>∃ (k:Nat) (d:BitVec 16),k≤n∧i=.int .i64 k∧v=.int .u16 (d.toNat:Int)∧Hid (d=fB p16 0xffff#16 (l.take k))) (fun _ i=>n - (intOf i).toNat)
  case atStart=>exact ⟨0,0xffff#16,Nat.zero_le _,rfl,rfl,rfl⟩
  case round =>
    obtain ⟨k,d,hk,rfl,rfl,hd⟩:=hrel
    by_cases hlt:k<n
    · obtain ⟨b,o,rfl,hb,hcell⟩:=HR.out.2 (by omega)
      obtain ⟨x,hx⟩:∃ x,x=l.getD k 0:=⟨_,rfl⟩
      have hcx:w.cell? ⟨b,o+k,none⟩=some (.int .u8 (x.toNat:Int)):=by rw [hx];exact hcell k hlt
      have Hx:=Lib.hid hx
      clear hx hcell
      have hx1:(x.toNat:Int)<256:=by have:=x.toNat_lt;omega
      have hx0:(0:Int)≤(x.toNat:Int):=by omega
      have hd1:(d.toNat:Int)<65536:=by have:=d.isLt;omega
      go_wp2_with fail
      clear hx0 hx1 hd1
      go_loop [5,21] (fun v i=>∃ (j:Nat) (f:BitVec 16),j≤8∧i=.int .i64 j∧v=.int .u16 (f.toNat:Int)∧Hid (f=stpN p16 j (d ^^^ BitVec.ofNat 16 x.toNat))) (fun _ i=>8 - (intOf i).toNat)
      case atStart=>exact ⟨0,d ^^^ BitVec.ofNat 16 x.toNat,by omega,rfl,byte16 d x,rfl⟩
      case round =>
        obtain ⟨j,f,hj,rfl,rfl,hf⟩:=hrel
        by_cases hj8:j<8
        · obtain ⟨F,hF⟩:∃ F,F=f.toNat:=⟨_,rfl⟩
          have hf1:F<65536:=by have:=f.isLt;omega
          rw [← hF]
          have HF:=Lib.hid hF
          clear hF
          rcases Nat.mod_two_eq_zero_or_one F with he | he
          · have ht:(bits BinOp.and .u16 (F:Int) 1==1)=false:=by rw [and16 F hf1,he];rfl
            have HE:=Lib.hid he
            clear he
            go_wp2_with fail
            go_round
            case rel=>exact ⟨j+1,stp p16 f,by omega,by go_num,by rw [stp_even _ _ (by rw [← HF.out];exact HE.out),← HF.out];rfl,by show _=_;rw [stpN_succ,← hf.out]⟩
            case measure=>simp [intOf];omega
          · have ht:(bits BinOp.and .u16 (F:Int) 1==1)=true:=by rw [and16 F hf1,he];rfl
            have HE:=Lib.hid he
            clear he
            go_wp2_with fail
            go_round
            case rel=>exact ⟨j+1,stp p16 f,by omega,by go_num,by rw [HF.out];exact step16 f (by rw [← HF.out];exact HE.out),by show _=_;rw [stpN_succ,← hf.out]⟩
            case measure=>simp [intOf];omega
        · obtain rfl:j=8:=by omega
          go_wp2_with fail
          go_round
          case rel =>
            refine ⟨k+1,f,by omega,by go_num,rfl,?_⟩
            show f=_
            rw [fB_take l 16 _ _ k (by have:=HR.out.1;omega),← hd.out,← Hx.out]
            exact hf.out
          case measure=>simp [intOf];omega
    · obtain rfl:k=n:=by omega
      have hl:=HR.out.1
      have hfin:s16 l = ~~~ d:=by rw [hd.out,List.take_of_length_le (by omega)];rfl
      have HF:=Lib.hid hfin
      have hd1:(d.toNat:Int)<65536:=by have:=d.isLt;omega
      clear hfin hl
      go_wp2_with fail
      go_ret
      exact ⟨by rw [HF.out];exact flip16 d,rfl⟩
set_option maxRecDepth 100000 in
set_option maxHeartbeats 1000000 in
theorem sum32_any (A:Option Addr) (n c B:Nat) (l:List UInt8) (w:World) (h:Rd w B A n l) (hn:n≤140737488355328) :
    Calls Tryz.prog 116 #[.slice A n c,.int .u32 2197175160] w fun e w'=>e=.returned (.int .u32 ((s32 l).toNat:Int))∧w=w':=by
  have HR:=Lib.hid h
  clear h
  go_enter Tryz.func116,Tryz.ntmps116
  go_wp2
  go_loop [5,13] (fun v i=>∃ (k:Nat) (d:BitVec 32),k≤n∧i=.int .i64 k∧v=.int .u32 (d.toNat:Int)∧Hid (d=fB p32 0xffffffff#32 (l.take k))) (fun _ i=>n - (intOf i).toNat)
  case atStart=>exact ⟨0,0xffffffff#32,Nat.zero_le _,rfl,rfl,rfl⟩
  case round =>
    obtain ⟨k,d,hk,rfl,rfl,hd⟩:=hrel
    by_cases hlt:k<n
    · obtain ⟨b,o,rfl,hb,hcell⟩:=HR.out.2 (by omega)
      obtain ⟨x,hx⟩:∃ x,x=l.getD k 0:=⟨_,rfl⟩
      have hcx:w.cell? ⟨b,o+k,none⟩=some (.int .u8 (x.toNat:Int)):=by rw [hx];exact hcell k hlt
      have Hx:=Lib.hid hx
      clear hx hcell
      have hx1:(x.toNat:Int)<256:=by have:=x.toNat_lt;omega
      have hx0:(0:Int)≤(x.toNat:Int):=by omega
      have hd1:(d.toNat:Int)<4294967296:=by have:=d.isLt;omega
      go_wp2_with fail
      clear hx0 hx1 hd1
      go_loop [5,21] (fun v i=>∃ (j:Nat) (f:BitVec 32),j≤8∧i=.int .i64 j∧v=.int .u32 (f.toNat:Int)∧Hid (f=stpN p32 j (d ^^^ BitVec.ofNat 32 x.toNat))) (fun _ i=>8 - (intOf i).toNat)
      case atStart=>exact ⟨0,d ^^^ BitVec.ofNat 32 x.toNat,by omega,rfl,byte32 d x,rfl⟩
      case round =>
        obtain ⟨j,f,hj,rfl,rfl,hf⟩:=hrel
        by_cases hj8:j<8
        · obtain ⟨F,hF⟩:∃ F,F=f.toNat:=⟨_,rfl⟩
          have hf1:F<4294967296:=by have:=f.isLt;omega
          rw [← hF]
          have HF:=Lib.hid hF
          clear hF
          rcases Nat.mod_two_eq_zero_or_one F with he | he
          · have ht:(bits BinOp.and .u32 (F:Int) 1==1)=false:=by rw [and32 F hf1,he];rfl
            have HE:=Lib.hid he
            clear he
            go_wp2_with fail
            go_round
            case rel=>exact ⟨j+1,stp p32 f,by omega,by go_num,by rw [stp_even _ _ (by rw [← HF.out];exact HE.out),← HF.out];rfl,by show _=_;rw [stpN_succ,← hf.out]⟩
            case measure=>simp [intOf];omega
          · have ht:(bits BinOp.and .u32 (F:Int) 1==1)=true:=by rw [and32 F hf1,he];rfl
            have HE:=Lib.hid he
            clear he
            go_wp2_with fail
            go_round
            case rel=>exact ⟨j+1,stp p32 f,by omega,by go_num,by rw [HF.out];exact step32 f (by rw [← HF.out];exact HE.out),by show _=_;rw [stpN_succ,← hf.out]⟩
            case measure=>simp [intOf];omega
        · obtain rfl:j=8:=by omega
          go_wp2_with fail
          go_round
          case rel =>
            refine ⟨k+1,f,by omega,by go_num,rfl,?_⟩
            show f=_
            rw [fB_take l 32 _ _ k (by have:=HR.out.1;omega),← hd.out,← Hx.out]
            exact hf.out
          case measure=>simp [intOf];omega
    · obtain rfl:k=n:=by omega
      have hl:=HR.out.1
      have hfin:s32 l = ~~~ d:=by rw [hd.out,List.take_of_length_le (by omega)];rfl
      have HF:=Lib.hid hfin
      have hd1:(d.toNat:Int)<4294967296:=by have:=d.isLt;omega
      clear hfin hl
      go_wp2_with fail
      go_ret
      exact ⟨by rw [HF.out];exact flip32 d,rfl⟩
theorem short_any (A:Option Addr) (n c B:Nat) (l:List UInt8) (w:World) (h:Rd w B A n l) (hn:n≤140737488355328) :
    Calls Tryz.prog 88 #[.slice A n c] w fun e w'=>e=.returned (.int .u16 ((s16 l).toNat:Int))∧w=w':=by
  have C:=Lib.hid (sum16_any A n c B l w h hn)
  clear h
  go_enter Tryz.func88,Tryz.ntmps88
  go_wp2_with fail
  refine C.out.mono ?_
  rintro e w' ⟨rfl,rfl⟩
  go_wp2_with fail
  go_ret
  exact ⟨rfl,rfl⟩
theorem long_any (A:Option Addr) (n c B:Nat) (l:List UInt8) (w:World) (h:Rd w B A n l) (hn:n≤140737488355328) :
    Calls Tryz.prog 89 #[.slice A n c] w fun e w'=>e=.returned (.int .u32 ((s32 l).toNat:Int))∧w=w':=by
  have C:=Lib.hid (sum32_any A n c B l w h hn)
  clear h
  go_enter Tryz.func89,Tryz.ntmps89
  go_wp2_with fail
  refine C.out.mono ?_
  rintro e w' ⟨rfl,rfl⟩
  go_wp2_with fail
  go_ret
  exact ⟨rfl,rfl⟩
set_option maxRecDepth 100000 in
set_option maxHeartbeats 1000000 in
theorem bytes_any (kind:Int) (A:Option Addr) (n c B:Nat) (l:List UInt8) (w:World) (h:Rd w B A n l) (hn:n≤140737488355328) :
    Calls Tryz.prog 55 #[.int .i64 kind,.slice A n c] w (Gives (crcBytes kind l) w):=by
  have c1:=short_any A n c B l w h hn
  have c2:=long_any A n c B l w h hn
  have v1:=(s16 l).isLt
  have v2:=(s32 l).isLt
  clear h
  by_cases h1:kind=1
  · subst h1
    rw [show crcBytes 1 l=be (s16 l).toNat 2 from rfl,be2]
    generalize (s16 l).toNat=v at *
    have C1:=Lib.hid c1
    clear c1 c2
    go_enter Tryz.func55,Tryz.ntmps55
    go_wp2_with fail
    refine C1.out.mono ?_
    rintro e w' ⟨rfl,rfl⟩
    go_wp2_with fail
    go_ret
    exact gives_lit w _ _ _ 2 rfl (cs2 v v1)
  · by_cases h2:kind=2
    · subst h2
      rw [show crcBytes 2 l=be (s32 l).toNat 4 from rfl,be4]
      generalize (s32 l).toNat=v at *
      have C2:=Lib.hid c2
      clear c1 c2
      go_enter Tryz.func55,Tryz.ntmps55
      go_wp2_with fail
      refine C2.out.mono ?_
      rintro e w' ⟨rfl,rfl⟩
      go_wp2_with fail
      go_ret
      exact gives_lit w _ _ _ 4 rfl (cs4 v v2)
    · rw [show crcBytes kind l=[] by unfold crcBytes;rw [if_neg h1,if_neg h2]]
      have e1:(kind==1)=false:=by simpa using h1
      have e2:(kind==2)=false:=by simpa using h2
      clear h1 h2 c1 c2
      go_enter Tryz.func55,Tryz.ntmps55
      go_wp2_with fail
      go_ret
      exact gives_nil w
end Go.Proofs.YtldnokgdgafphaaGreatDoor
