import Derived.Test.YteckeagobafoiaaGreatDoorQBunD
import Derived.Test.YteckeagobafoiaaGreatDoorQRfI
import Derived.Test.YteckeagobafoiaaGreatDoorQBlkW4
import Derived.Test.YteckeagobafoiaaGreatDoorQIpT
import Derived.Test.YteckeagobafoiaaGreatDoorQRfG
import Derived.Test.YteckeagobafoiaaGreatDoorQBihN
import Derived.Test.YteckeagobafoiaaGreatDoorQBunPu
namespace Go.Proofs.YteckeagobafoiaaGreatDoor
open Go.RowKit
end Go.Proofs.YteckeagobafoiaaGreatDoor
namespace Go.Proofs.YteckeagobafoiaaGreatDoor
open Go.RowKit
open Go.Lib (decDigits)
end Go.Proofs.YteckeagobafoiaaGreatDoor
namespace Go.Proofs.YteckeagobafoiaaGreatDoor
set_option maxRecDepth 100000
set_option maxHeartbeats 16000000
open Go.RowKit
theorem IsBun.uniq {l:List UInt8} {a b:Bun} (ha:IsBun l a) (hb:IsBun l b):a=b:=by
 obtain ⟨m,rfl⟩:∃ m,l=0x9f::m:=⟨_,ha.2.2.2.1⟩
 obtain ⟨p1,d1⟩:=ha.prim
 obtain ⟨p2,d2⟩:=hb.prim
 have h3:=p1.uniq p2
 have h4:primW a=primW b:=by
  have:=congrArg primW h3
  exact this
 rw [h4,d2] at d1
 obtain ⟨h5,-⟩:=blkWs_uniq hb.2.2.1 ha.2.2.1 d1
 obtain ⟨af,ac,ad,as_,ar,at_,aq,al,ak⟩:=a
 obtain ⟨bf,bc,bd,bs,br,bt,bq,bl,bk⟩:=b
 simp only at h5
 subst h5
 exact congrArg (fun q:Bun=>{ q with blks:=bk }) h3
theorem RdKs.bd {w:World} {B b:Nat}:∀ {l:List Blk} {o:Nat},RdKs w B b o l→∀ y∈l,Bd y
 | [],_,_,_,h=>by cases h
 | x::r,_,⟨⟨_,_,_,hk⟩,hr⟩,y,hy=>by
  rcases List.mem_cons.1 hy with rfl|hy
  ·
   exact hk.bd
  ·
   exact RdKs.bd hr y hy
theorem RdL.bd {w:World} {B n:Nat} {A:Option Addr} {l:List Blk} (h:RdL w B A n l):∀ y∈l,Bd y:=by
 intro y hy
 have h0:0<n:=by
  rw [← h.1]
  exact List.length_pos_of_mem hy
 obtain ⟨b,o,-,-,hk⟩:=h.2.1 h0
 exact hk.bd y hy
open Go.Lib (decDigits)
theorem wpList_ld18G {w:World} {ops:Array Oper} {rest:List Oper} {o:Oper} {a:Act} {Q:Exit→Act→World→Prop} (hw:Region.wanted o (yielded ops a.tmps)=true) (x:Operand) (ho:o.op=.load 28 x)
  (g:Nat) (hx:a.eval x=.pointer (some ⟨g,0,none⟩)) (t:TypeId) (cs:Array Value) (hg:w.heap[g]?=some (.cells cs t (0,0))) (hs:cs.size=18) (h:wpList Tryz.prog ops Q rest (a.put o.dst (.agg cs)) w):wpList Tryz.prog ops Q (o::rest) a w:=by
 refine wpList_step fun K hK=>?_
 rw [if_pos hw]
 unfold Oper.wp
 rw [exec_ld18 ho hx hg hs]
 exact hK _ _ h
open Go.Lib (hid)
theorem numZ_cauE (b:Bun) (h:cauU b≠0):numZ (cauU b)=cauU b:=by
 unfold cauU at h ⊢
 split
 ·
  rfl
 ·
  rename_i h1
  rw [if_neg h1] at h
  split
  ·
   rename_i h2
   rw [if_pos h2] at h
   exact absurd rfl h
  ·
   rfl
theorem uprimary_any (S:Snt) (h:BH) (l:List Blk) (A:Option Addr) (n c B:Nat) (w:World) (hS:Wd S w) (hd:h.Bd) (hr:RdL w B A n l) (hB:B≤w.heap.size) (hc:n≤c) :
  Calls Tryz.prog 127 #[bunV h A n c] w fun e w'=>Below w.heap.size w w'∧∃ (A':Option Addr) (n' c':Nat),e=.returned (.tuple #[.slice A' n' c',.int .i64 (cauU (h.bun l))])∧n'≤c'∧Rd w' w'.heap.size A' n' (if cauU (h.bun l)=0 then primW (h.bun l) else []):=by
 have HB0:=hid ((Below.refl w.heap.size w).alloc (Nat.le_refl _) (.cells #[.int .u64 (h.flg:Int),.int .i64 h.crc,.int .i64 h.dsc,.string h.dnm,.int .u64 (h.dn:Int),.int .u64 (h.dv:Int),.int .i64 h.ssc,.string h.snm,.int .u64 (h.sn:Int),.int .u64 (h.sv:Int),.int .i64 h.rsc,.string h.rnm,.int .u64 (h.rn:Int),.int .u64 (h.rv:Int),.int .u64 (h.tim:Int),.int .u64 (h.seq:Int),.int .u64 (h.lif:Int),.slice A n c] 28))
 have HW0:Hid (Below (w.heap.size+1) (w.alloc (.cells #[.int .u64 (h.flg:Int),.int .i64 h.crc,.int .i64 h.dsc,.string h.dnm,.int .u64 (h.dn:Int),.int .u64 (h.dv:Int),.int .i64 h.ssc,.string h.snm,.int .u64 (h.sn:Int),.int .u64 (h.sv:Int),.int .i64 h.rsc,.string h.rnm,.int .u64 (h.rn:Int),.int .u64 (h.rv:Int),.int .u64 (h.tim:Int),.int .u64 (h.seq:Int),.int .u64 (h.lif:Int),.slice A n c] 28)) (w.alloc (.cells #[.int .u64 (h.flg:Int),.int .i64 h.crc,.int .i64 h.dsc,.string h.dnm,.int .u64 (h.dn:Int),.int .u64 (h.dv:Int),.int .i64 h.ssc,.string h.snm,.int .u64 (h.sn:Int),.int .u64 (h.sv:Int),.int .i64 h.rsc,.string h.rnm,.int .u64 (h.rn:Int),.int .u64 (h.rv:Int),.int .u64 (h.tim:Int),.int .u64 (h.seq:Int),.int .u64 (h.lif:Int),.slice A n c] 28))):=Below.refl _ _
 have HS0:Hid ((w.alloc (.cells #[.int .u64 (h.flg:Int),.int .i64 h.crc,.int .i64 h.dsc,.string h.dnm,.int .u64 (h.dn:Int),.int .u64 (h.dv:Int),.int .i64 h.ssc,.string h.snm,.int .u64 (h.sn:Int),.int .u64 (h.sv:Int),.int .i64 h.rsc,.string h.rnm,.int .u64 (h.rn:Int),.int .u64 (h.rv:Int),.int .u64 (h.tim:Int),.int .u64 (h.seq:Int),.int .u64 (h.lif:Int),.slice A n c] 28)).heap.size=w.heap.size+1):=by show _=_;simp
 have HRW:=hid (fun (W:World) (hb:Below (w.heap.size+1) (w.alloc (.cells #[.int .u64 (h.flg:Int),.int .i64 h.crc,.int .i64 h.dsc,.string h.dnm,.int .u64 (h.dn:Int),.int .u64 (h.dv:Int),.int .i64 h.ssc,.string h.snm,.int .u64 (h.sn:Int),.int .u64 (h.sv:Int),.int .i64 h.rsc,.string h.rnm,.int .u64 (h.rn:Int),.int .u64 (h.rv:Int),.int .u64 (h.tim:Int),.int .u64 (h.seq:Int),.int .u64 (h.lif:Int),.slice A n c] 28)) W)=>row_of_box (w:=w) rfl hb)
 have HWd:=hid (hS.alloc (.cells #[.int .u64 (h.flg:Int),.int .i64 h.crc,.int .i64 h.dsc,.string h.dnm,.int .u64 (h.dn:Int),.int .u64 (h.dv:Int),.int .i64 h.ssc,.string h.snm,.int .u64 (h.sn:Int),.int .u64 (h.sv:Int),.int .i64 h.rsc,.string h.rnm,.int .u64 (h.rn:Int),.int .u64 (h.rv:Int),.int .u64 (h.tim:Int),.int .u64 (h.seq:Int),.int .u64 (h.lif:Int),.slice A n c] 28))
 have C1:=hid (ucheck_any S h l A n c B (w.alloc (.cells #[.int .u64 (h.flg:Int),.int .i64 h.crc,.int .i64 h.dsc,.string h.dnm,.int .u64 (h.dn:Int),.int .u64 (h.dv:Int),.int .i64 h.ssc,.string h.snm,.int .u64 (h.sn:Int),.int .u64 (h.sv:Int),.int .i64 h.rsc,.string h.rnm,.int .u64 (h.rn:Int),.int .u64 (h.rv:Int),.int .u64 (h.tim:Int),.int .u64 (h.seq:Int),.int .u64 (h.lif:Int),.slice A n c] 28)) (hS.alloc _) hd (hr.below (HB0.out.mono hB)) (Nat.le_trans hB HB0.out.size) hc)
 have q1:=fun (W:World) (u:TypeId) (x:Value)=>run_neq_iface_nil (P:=Tryz.prog) (w:=W) 78 (by kernel_rfl) u x
 have CN:=hid unumber_any
 by_cases hz:cauU (h.bun l)=0
 case neg =>
  have HE:Hid ((if cauU (h.bun l)=0 then primW (h.bun l) else [])=([]:List UInt8)):=if_neg hz
  rw [HE.out]
  have HNZ:=hid (numZ_cauE _ hz)
  clear hr hB hd hc hS HE
  generalize cauU (h.bun l)=z at *
  unfold bunV at *
  go_enter Tryz.func127,Tryz.ntmps127
  go_wp2_with (first
   | (refine wpList_ld18 rfl (.tmp 1) rfl _ rfl _ _ (HRW.out _ HW0.out) rfl ?_)
   | fail)
  refine C1.out.mono ?_
  rintro e w1 ⟨hb,⟨h0,-⟩|⟨-,s,rfl⟩⟩
  ·
   exact absurd h0 hz
  have B1:=hid (HB0.out.trans (hb.mono HB0.out.size))
  clear hb hz
  have C2:=hid (CN.out z s w1)
  rw [HNZ.out] at C2
  unfold ufl at *
  go_wp2_with fail
  refine C2.out.mono ?_
  rintro e w2 ⟨rfl,hb⟩
  have B2:=hid (B1.out.trans (hb.mono B1.out.size))
  clear hb
  go_wp2_with fail
  go_ret2
  exact ⟨B2.out,_,_,_,rfl,Nat.le_refl _,Rd.nil_⟩
 rw [if_pos hz]
 have hwr:Wr (h.bun l):=(primOk_iff.1 (cauU_0.1 hz).2.1).1
 have CP:Hid (∀ W,Below (w.heap.size+1) (w.alloc (.cells #[.int .u64 (h.flg:Int),.int .i64 h.crc,.int .i64 h.dsc,.string h.dnm,.int .u64 (h.dn:Int),.int .u64 (h.dv:Int),.int .i64 h.ssc,.string h.snm,.int .u64 (h.sn:Int),.int .u64 (h.sv:Int),.int .i64 h.rsc,.string h.rnm,.int .u64 (h.rn:Int),.int .u64 (h.rv:Int),.int .u64 (h.tim:Int),.int .u64 (h.seq:Int),.int .u64 (h.lif:Int),.slice A n c] 28)) W→Calls Tryz.prog 176 #[bunV h A n c] W (GivesO 5 (primW (h.bun l)) W)):=fun W hb=>uwriteP_any S h l A n c W (HWd.out.below hb (Nat.le_of_eq HS0.out)) hd hwr
 generalize primW (h.bun l)=PW at *
 generalize cauU (h.bun l)=z at *
 subst hz
 clear hr hB hd hc hS hwr
 unfold bunV at *
 go_enter Tryz.func127,Tryz.ntmps127
 go_wp2_with (first
  | (refine wpList_ld18 rfl (.tmp 1) rfl _ rfl _ _ (HRW.out _ HW0.out) rfl ?_)
  | fail)
 refine C1.out.mono ?_
 rintro e w1 ⟨hb,⟨-,rfl⟩|⟨h0,-⟩⟩
 case inr=>exact absurd rfl h0
 have B1:=hid (Below.push HW0.out (Nat.le_of_eq HS0.out.symm) hb)
 have T1:=hid (HB0.out.trans (B1.out.mono (Nat.le_succ _)))
 clear hb
 go_wp2_with (first
  | (refine wpList_ld18 rfl (.tmp 1) rfl _ rfl _ _ (HRW.out _ B1.out) rfl ?_)
  | fail)
 refine (CP.out _ B1.out).mono ?_
 rintro e w2 ⟨v2,rfl,ho,hb⟩
 obtain ⟨A2,c2,rfl,hc2,-,hr2⟩:=ho.rd
 have HR2:=hid (And.intro hc2 hr2)
 have T2:=hid (T1.out.trans (hb.mono T1.out.size))
 clear hb ho hc2 hr2
 go_wp2_with fail
 go_ret2
 exact ⟨T2.out,_,_,_,rfl,HR2.out.1,HR2.out.2⟩
end Go.Proofs.YteckeagobafoiaaGreatDoor
