import Derived.Test.YtbnfkjkoinbkgaaGreatDoorProg
import Derived.Below
namespace Go.Proofs.YtbnfkjkoinbkgaaGreatDoor
open Go.RowKit
abbrev zo0 (x0:Int) (x1:Int) (x2:Int) (x3:ByteArray) (x4:Int) (x5:Int) (x6:Int) (x7:ByteArray) (x8:Int) (x9:Int) (x10:Int) (x11:ByteArray) (x12:Int) (x13:Int) (x14:Int) (x15:Int) (x16:Int) (x17:Option Addr) (y17 z17:Nat):Obj:=.cells #[.int .u64 x0,.int .i64 x1,.int .i64 x2,.string x3,.int .u64 x4,.int .u64 x5,.int .i64 x6,.string x7,.int .u64 x8,.int .u64 x9,.int .i64 x10,.string x11,.int .u64 x12,.int .u64 x13,.int .u64 x14,.int .u64 x15,.int .u64 x16,.slice x17 y17 z17] 28
abbrev zo1 (x0:Int) (x1:Int) (x2:Option Addr) (y2 z2:Nat) (x3:Option Addr) (y3 z3:Nat):Obj:=.cells #[.int .i64 x0,.int .u64 x1,.slice x2 y2 z2,.slice x3 y3 z3] 119
abbrev zo2 (x0:Option Addr) (y0 z0:Nat) (x1:Int) (x2:ByteArray) (x3:Int) (x4:Int) (x5:Int) (x6:Option Addr) (y6 z6:Nat):Obj:=.cells #[.slice x0 y0 z0,.int .i64 x1,.string x2,.int .u64 x3,.int .u64 x4,.int .i64 x5,.slice x6 y6 z6] 35
abbrev zo3 (x0:Int) (x1:ByteArray) (x2:Int) (x3:Int):Obj:=.cells #[.int .i64 x0,.string x1,.int .u64 x2,.int .u64 x3] 25
abbrev zo4 (x0:Int) (x1:Int) (x2:Int) (x3:Int) (x4:Option Addr) (y4 z4:Nat):Obj:=.cells #[.int .u64 x0,.int .u64 x1,.int .u64 x2,.int .i64 x3,.slice x4 y4 z4] 43
abbrev zo5 (x0:Int) (x1:Int) (x2:Option Addr) (y2 z2:Nat) (x3:Option Addr) (y3 z3:Nat) (x4:Int) (x5:Int) (x6:Option Addr) (y6 z6:Nat) (x7:Option Addr) (y7 z7:Nat) (x8:Int) (x9:Int) (x10:Option Addr) (y10 z10:Nat) (x11:Option Addr) (y11 z11:Nat) (x12:Int) (x13:Int) (x14:Option Addr) (y14 z14:Nat) (x15:Option Addr) (y15 z15:Nat) (x16:Int) (x17:Int) (x18:Option Addr) (y18 z18:Nat) (x19:Option Addr) (y19 z19:Nat) (x20:Int) (x21:Int) (x22:Option Addr) (y22 z22:Nat) (x23:Option Addr) (y23 z23:Nat) (x24:Int) (x25:Int) (x26:Option Addr) (y26 z26:Nat) (x27:Option Addr) (y27 z27:Nat) (x28:Int) (x29:Int) (x30:Option Addr) (y30 z30:Nat) (x31:Option Addr) (y31 z31:Nat):Obj:=.cells #[.int .i64 x0,.int .u64 x1,.slice x2 y2 z2,.slice x3 y3 z3,.int .i64 x4,.int .u64 x5,.slice x6 y6 z6,.slice x7 y7 z7,.int .i64 x8,.int .u64 x9,.slice x10 y10 z10,.slice x11 y11 z11,.int .i64 x12,.int .u64 x13,.slice x14 y14 z14,.slice x15 y15 z15,.int .i64 x16,.int .u64 x17,.slice x18 y18 z18,.slice x19 y19 z19,.int .i64 x20,.int .u64 x21,.slice x22 y22 z22,.slice x23 y23 z23,.int .i64 x24,.int .u64 x25,.slice x26 y26 z26,.slice x27 y27 z27,.int .i64 x28,.int .u64 x29,.slice x30 y30 z30,.slice x31 y31 z31] 119
abbrev zv6 (x0:Int) (x1:Int) (x2:Option Addr) (y2 z2:Nat) (x3:Option Addr) (y3 z3:Nat):Value:=.agg #[.int .i64 x0,.int .u64 x1,.slice x2 y2 z2,.slice x3 y3 z3]
abbrev zo7 (x0:Int) (x1:Int) (x2:Option Addr) (y2 z2:Nat) (x3:Option Addr) (y3 z3:Nat) (x4:Int) (x5:Int) (x6:Option Addr) (y6 z6:Nat) (x7:Option Addr) (y7 z7:Nat):Obj:=.cells #[.int .i64 x0,.int .u64 x1,.slice x2 y2 z2,.slice x3 y3 z3,.int .i64 x4,.int .u64 x5,.slice x6 y6 z6,.slice x7 y7 z7] 119
abbrev zo8 (x0:Int) (x1:Int):Obj:=.cells #[.int .u64 x0,.int .u64 x1] 22
abbrev zo9 (x0:Option Addr) (y0 z0:Nat):Obj:=.cells #[.slice x0 y0 z0] 29
abbrev zo10 (x0:Int) (x1:Int) (x2:Int) (x3:Int) (x4:Int) (x5:Int) (x6:Int) (x7:Int) (x8:Option Addr) (y8 z8:Nat) (x9:Int):Obj:=.cells #[.int .u32 x0,.int .u32 x1,.int .u32 x2,.int .u32 x3,.int .u32 x4,.int .u32 x5,.int .u32 x6,.int .u32 x7,.slice x8 y8 z8,.int .i64 x9] 203
abbrev zo11 (x0:Int):Obj:=.cells #[.int .u64 x0] 22
abbrev zo12 (x0:Int) (x1:Int) (x2:Int):Obj:=.cells #[.int .u64 x0,.int .u64 x1,.int .u64 x2] 22
abbrev zk0:Obj:=.cells #[.int .i64 0,.int .u64 0,.slice none 0 0,.slice none 0 0] 119
abbrev zk1:Obj:=.cells #[.int .u64 1,.int .u64 5] 22
abbrev zk2:Obj:=.cells #[.slice none 0 0,.int .i64 0,.string ⟨#[]⟩,.int .u64 0,.int .u64 0,.int .i64 0,.slice none 0 0] 35
abbrev zk3:Obj:=.cells #[.int .u64 0,.int .i64 0,.int .i64 0,.string ⟨#[]⟩,.int .u64 0,.int .u64 0,.int .i64 0,.string ⟨#[]⟩,.int .u64 0,.int .u64 0,.int .i64 0,.string ⟨#[]⟩,.int .u64 0,.int .u64 0,.int .u64 0,.int .u64 0,.int .u64 0,.slice none 0 0] 28
abbrev zk4:Obj:=.cells #[.int .u64 1,.int .u64 0] 22
abbrev zk5:Obj:=.cells #[.int .i64 0,.string ⟨#[]⟩,.int .u64 0,.int .u64 0] 25
abbrev zk6:Obj:=.cells #[.int .u64 0,.int .u64 0,.int .u64 0,.int .i64 0,.slice none 0 0] 43
abbrev zk7:Obj:=.cells #[.int .u32 1779033703,.int .u32 3144134277,.int .u32 1013904242,.int .u32 2773480762,.int .u32 1359893119,.int .u32 2600822924,.int .u32 528734635,.int .u32 1541459225,.slice none 0 0,.int .i64 0] 203
theorem zr {n:Nat}:n≤n:=Nat.le_refl n
theorem zb {w:World} {o:Obj}:Below w.heap.size w (w.alloc o):=(Below.refl _ _).alloc (Nat.le_refl _) _
abbrev LB:=List UInt8
abbrev OA:=Option Addr
theorem zs:(∀ (a:Act) (d:Tmp) (v:Value),a.put (some d) v={a with tmps:=a.tmps.setIfInBounds d v})∧(∀ (a:Act) (v:Value),a.put none v=a)∧(∀ (l:List Value) (i:Nat) (v:Value),l.toArray.setIfInBounds i v=(l.set i v).toArray)∧(∀ (x v:Value) (l:List Value),(x::l).set 0 v=v::l)∧(∀ (x v:Value) (l:List Value) (i:Nat),(x::l).set (i+1) v=x::l.set i v):=⟨fun _ _ _=>rfl,fun _ _=>rfl,fun _ _ _=>by simp,fun _ _ _=>rfl,fun _ _ _ _=>rfl⟩
end Go.Proofs.YtbnfkjkoinbkgaaGreatDoor
