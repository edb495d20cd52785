import Derived.Test.YtbnfkjkoinbkgaaGreatDoorVAbb
import Derived.Test.YtbnfkjkoinbkgaaGreatDoorVBunPu
import Derived.Test.YtbnfkjkoinbkgaaGreatDoorVIpT
import Derived.Test.YtbnfkjkoinbkgaaGreatDoorVRfM
import Derived.Test.YtbnfkjkoinbkgaaGreatDoorVRfW
namespace Go.Proofs.YtbnfkjkoinbkgaaGreatDoor
set_option maxRecDepth 100000
set_option maxHeartbeats 16000000
open Go.RowKit
theorem IsBun.uniq{l:LB}{a b:Bun}(ha:IsBun l a)(hb:IsBun l b):a=b:=by
 obtain⟨m,rfl⟩:∃ m,l=0x9f::m:=⟨_,ha.2.2.2.1⟩
 obtain⟨p1,d1⟩:=ha.prim;obtain⟨p2,d2⟩:=hb.prim;have h3:=p1.uniq p2;have h4:Qbx a=Qbx b:=by
  have:=congrArg Qbx h3
  exact this
 rw[h4,d2] at d1
 obtain⟨h5,-⟩:=Qkg hb.2.2.1 ha.2.2.1 d1;obtain⟨af,ac,ad,as_,ar,at_,aq,al,ak⟩:=a;obtain⟨bf,bc,bd,bs,br,bt,bq,bl,bk⟩:=b;simp only at h5;subst h5;exact congrArg (fun q:Bun=>{ q with blks:=bk }) h3
theorem RdKs.bd{w:World}{B b:Nat}:∀ {l:List Blk} {o:Nat},RdKs w B b o l→∀ y∈l,Bd y
 | [],_,_,_,h=>by cases h
 | x::r,_,⟨⟨_,_,_,hk⟩,hr⟩,y,hy=>by
  rcases List.mem_cons.1 hy with rfl|hy
  ·
   exact hk.bd
  ·
   exact RdKs.bd hr y hy
theorem RdL.bd{w:World}{B n:Nat}{A:OA}{l:List Blk}(h:RdL w B A n l):∀ y∈l,Bd y:=by
 intro y hy;have h0:0<n:=by
  rw[← h.1]
  exact List.length_pos_of_mem hy
 obtain⟨b,o,-,-,hk⟩:=h.2.1 h0;exact hk.bd y hy
open Go.Lib (decDigits)
theorem Qlp{w:World}{ops:Array Oper}{rest:List Oper}{o:Oper}{a:Act}{Q:Exit→Act→World→Prop}(hw:Region.wanted o (yielded ops a.tmps)=true)(x:Operand)(ho:o.op=.load 28 x)
  (g:Nat) (hx:a.eval x=.pointer (some ⟨g,0,none⟩)) (t:TypeId) (cs:Array Value) (hg:w.heap[g]?=some (.cells cs t (0,0))) (hs:cs.size=18) (h:wpList Tryz.prog ops Q rest (a.put o.dst (.agg cs)) w):wpList Tryz.prog ops Q (o::rest) a w:=by
 refine wpList_step fun K hK=>?_
 rw[if_pos hw]
 unfold Oper.wp;rw[Qf7 ho hx hg hs]
 exact hK _ _ h
open Go.Lib (hid)
theorem Qud(b:Bun)(h:Qa3 b≠0):Qg3 (Qa3 b)=Qa3 b:=by
 unfold Qa3 at h ⊢;split
 ·
  rfl
 ·
  rename_i h1
  rw[if_neg h1] at h
  split
  ·
   rename_i h2
   rw[if_pos h2] at h
   exact absurd rfl h
  ·
   rfl
theorem Qlv(S:Snt)(h:BH)(l:List Blk)(A:OA)(n c B:Nat)(w:World)(hS:Wd S w)(hd:h.Bd)(hr:RdL w B A n l)(hB:B≤w.heap.size)(hc:n≤c) :
  Calls Tryz.prog 71 #[Qbl h A n c] w fun e w'=>Below w.heap.size w w'∧∃ (A':OA) (n' c':Nat),e=.returned (.tuple #[.slice A' n' c',.int .i64 (Qa3 (h.bun l))])∧n'≤c'∧Rd w' w'.heap.size A' n' (if Qa3 (h.bun l)=0 then Qbx (h.bun l) else []):=by
 have HB0:=hid ((Below.refl w.heap.size w).alloc zr (hbx h h.crc A n c));have HW0:Hid (Below (w.heap.size+1) (w.alloc (hbx h h.crc A n c)) (w.alloc (hbx h h.crc A n c))):=Below.refl _ _;have HS0:Hid ((w.alloc (hbx h h.crc A n c)).heap.size=w.heap.size+1):=by show _=_;simp
 have HRW:=hid (fun (W:World) (hb:Below (w.heap.size+1) (w.alloc (hbx h h.crc A n c)) W)=>Qad (w:=w) rfl hb);have HWd:=hid (hS.alloc (hbx h h.crc A n c));have C1:=hid (Qew S h l A n c B (w.alloc (hbx h h.crc A n c)) (hS.alloc _) hd (hr.below (HB0.out.mono hB)) (Nat.le_trans hB HB0.out.size) hc);have q1:=fun (W:World) (u:TypeId) (x:Value)=>run_neq_iface_nil (P:=Tryz.prog) (w:=W) 53 (by kernel_rfl) u x
 have CN:=hid Qfe;by_cases hz:Qa3 (h.bun l)=0
 case neg =>
  have HE:Hid ((if Qa3 (h.bun l)=0 then Qbx (h.bun l) else [])=([]:LB)):=if_neg hz;rw[HE.out]
  have HNZ:=hid (Qud _ hz);clear hr hB hd hc hS HE;generalize Qa3 (h.bun l)=z at *;unfold Qbl at *;go_enter Tryz.func71,Tryz.ntmps71;go_wp2_with (first
   | (refine Qae rfl (.tmp 1) rfl _ rfl _ _ (HRW.out _ HW0.out) rfl ?_)
   | fail)
  refine C1.out.mono ?_;rintro e w1 ⟨hb,⟨h0,-⟩|⟨-,s,rfl⟩⟩
  ·
   exact absurd h0 hz
  have B1:=hid (HB0.out.trans (hb.mono HB0.out.size));clear hb hz;have C2:=hid (CN.out z s w1);rw[HNZ.out] at C2
  unfold ufl at *;go_wp2_with fail;refine C2.out.mono ?_;rintro e w2 ⟨rfl,hb⟩;have B2:=hid (B1.out.trans (hb.mono B1.out.size));clear hb;go_wp2_with fail;go_ret2
  exact⟨B2.out,_,_,_,rfl,Nat.le_refl _,Rd.nil_⟩
 rw[if_pos hz]
 have hwr:Wr (h.bun l):=(Qc8.1 (Qfa.1 hz).2.1).1;have CP:Hid (∀ W,Below (w.heap.size+1) (w.alloc (hbx h h.crc A n c)) W→Calls Tryz.prog 109 #[Qbl h A n c] W (Qbi 5 (Qbx (h.bun l)) W)):=fun W hb=>Qnv S h l A n c W (HWd.out.below hb (Nat.le_of_eq HS0.out)) hd hwr
 generalize Qbx (h.bun l)=PW at *;generalize Qa3 (h.bun l)=z at *;subst hz;clear hr hB hd hc hS hwr;unfold Qbl at *;go_enter Tryz.func71,Tryz.ntmps71;go_wp2_with (first
  | (refine Qae rfl (.tmp 1) rfl _ rfl _ _ (HRW.out _ HW0.out) rfl ?_)
  | fail)
 refine C1.out.mono ?_;rintro e w1 ⟨hb,⟨-,rfl⟩|⟨h0,-⟩⟩
 case inr=>exact absurd rfl h0
 have B1:=hid (Below.push HW0.out (Nat.le_of_eq HS0.out.symm) hb);have T1:=hid (HB0.out.trans (B1.out.mono (Nat.le_succ _)));clear hb;go_wp2_with (first
  | (refine Qae rfl (.tmp 1) rfl _ rfl _ _ (HRW.out _ B1.out) rfl ?_)
  | fail)
 refine(CP.out _ B1.out).mono ?_;rintro e w2 ⟨v2,rfl,ho,hb⟩;obtain⟨A2,c2,rfl,hc2,-,hr2⟩:=ho.rd;have HR2:=hid (And.intro hc2 hr2);have T2:=hid (T1.out.trans (hb.mono T1.out.size));clear hb ho hc2 hr2;go_wp2_with fail;go_ret2
 exact⟨T2.out,_,_,_,rfl,HR2.out.1,HR2.out.2⟩
end Go.Proofs.YtbnfkjkoinbkgaaGreatDoor
