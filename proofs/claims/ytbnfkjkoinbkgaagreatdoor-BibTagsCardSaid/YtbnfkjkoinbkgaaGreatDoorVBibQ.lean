import Derived.Test.YtbnfkjkoinbkgaaGreatDoorVAbb
import Derived.Test.YtbnfkjkoinbkgaaGreatDoorVBibO
namespace Go.Proofs.YtbnfkjkoinbkgaaGreatDoor
set_option maxRecDepth 100000
set_option maxHeartbeats 16000000
open Go.RowKit
open Go.Lib (hid)
def Q3m(T:Snb)(o:Option Bb)(w:World)(e:Ending)(w':World):Prop:=Below w.heap.size w w' ∧
 ((∃ x v,o=some x∧e=.returned (.tuple #[v,.nilIface])∧RdX (Qap (Qax w.heap.size) w') w'.heap.size v x)∨(o=none∧∃ s,e=.returned (.tuple #[Qq0,Qer T.t s])))
theorem Qu9(S:Snt)(T:Snb)(A:OA)(n c B:Nat)(bs:LB)(w:World)(hS:Wd S w)(hT:Ldb T w)(hB:B≤w.heap.size)(h:Rd w B A n bs)(hc:n≤c)(hn:n≤140737488355328) :
  Calls Tryz.prog 49 #[.slice A n c] w (Q3m T (rdB bs) w):=by
 have HS:=hid (fun (W:World) (hb:Below w.heap.size w W)=>hS.below hb zr);have HT:=hid (fun (W:World) (hb:Below w.heap.size w W)=>hT.below hb zr);have HR:=hid (fun (W:World) (hb:Below w.heap.size w W)=>h.below (hb.mono hB));have HB:=hid hB;have HB0:Hid (Below w.heap.size w (w.alloc zk2)):=zb;have HW0:Hid (Below (w.heap.size+1) (w.alloc zk2) (w.alloc zk2)):=Below.refl _ _;have HS0:Hid ((w.alloc zk2).heap.size=w.heap.size+1):=by show _=_;simp
 have HRZ:=hid (fun (W:World) (hb:Below (w.heap.size+1) (w.alloc zk2) W)=>Qad (w:=w) rfl hb);have CS:=hid (Qr5 T A n c B bs (w.alloc zk2) (HT.out _ HB0.out) (HS.out _ HB0.out).laid (Nat.le_trans hB HB0.out.size) (HR.out _ HB0.out) hc hn);have CN:=hid (fun (t:ByteArray) (W:World) (hb:Below w.heap.size w W)=>Qeq T t W (HT.out W hb));have q1:=fun (W:World) (u:TypeId) (x:Value)=>run_neq_iface_nil (P:=Tryz.prog) (w:=W) 53 (by kernel_rfl) u x
 obtain⟨O,hO⟩:∃ O,O=rdB bs:=⟨_,rfl⟩
 rw[← hO]
 have HO:=hid hO;have HG:Hid (∀ (e:Ending) (w':World),Below w.heap.size w w'→((∃ x v,O=some x∧e=.returned (.tuple #[v,.nilIface])∧RdX (Qap (Qax w.heap.size) w') w'.heap.size v x)∨(O=none∧∃ s,e=.returned (.tuple #[Qq0,Qer T.t s])))→Q3m T O w e w'):=fun _ _ h1 h2=>⟨h1,h2⟩
 clear hS hT hB h hc hn hO;unfold Qer at *;go_enter Tryz.func49,Tryz.ntmps49;go_wp2_with fail;refine CS.out.mono ?_;rintro e w1 ⟨hb,⟨L,r,g,cap,h6,rfl,hg,hris,hl6,hpar⟩|⟨h6,t,rfl⟩⟩
 case inr =>
  have Z1:=hid (Below.push HW0.out (Nat.le_of_eq HS0.out.symm) hb);have T1:=hid (HB0.out.trans (Z1.out.mono (Nat.le_succ _)));have R1:=hid (HRZ.out _ Z1.out);have HE:Hid (O=none):=HO.out.trans (Qpw.2 (Qr8 h6));clear hb h6 CS;try unfold Qer
  go_wp2_with (first
   | (refine Qa2 rfl 35 (.tmp 2) (.tmp 15) rfl _ _ _ _ _ _ _ _ rfl rfl _ _ R1.out Qa8 rfl rfl ?_;intro w8 hst;have ST:=hid hst;clear hst)
   | fail)
  refine bodyPost_ret (Qdl Tryz.results49 _ _ rfl ST.out.1 rfl) rfl ?_;exact HG.out _ _ (ST.out.2.1 _ _ T1.out zr) (.inr ⟨HE.out,_,rfl⟩)
 have Z1:=hid (Below.push HW0.out (Nat.le_of_eq HS0.out.symm) hb);have T1:=hid (HB0.out.trans (Z1.out.mono (Nat.le_succ _)));have CT:=hid (Qr4 S L g cap w1.heap.size (w.alloc zk2).heap.size w1 (HS.out _ T1.out).lds zr hb.size hg hris hl6 hpar);have H6:=hid h6;clear hb h6 hg hris hl6 hpar CS;go_wp2_with fail;refine CT.out.mono ?_;rintro e w2 ⟨v,x,rfl,hx,htk,hsz,hb⟩;have Z2:=hid (Below.push Z1.out (Nat.le_of_eq HS0.out.symm) hb);have T2:=hid (HB0.out.trans (Z2.out.mono (Nat.le_succ _)));have HV:Hid (O=if Qgb x=true∧Qjh x=bs then some x else none):=HO.out.trans (Qt0 H6.out htk hsz)
 have hx2:=hx.unmask;have HXM:=hid hx;obtain⟨A2,n2,c2,sc,s,nd,sv,At,nt,ct,rfl,-⟩:=hx;have BX:Hid (Below w2.heap.size w2 (w2.alloc (zo2 A2 n2 c2 sc s nd sv x.sco At nt ct))):=zb;have T3:Hid (Below w.heap.size w (w2.alloc (zo2 A2 n2 c2 sc s nd sv x.sco At nt ct))):=T2.out.alloc T2.out.size _;have Z3:Hid (Below (w.heap.size+1) (w.alloc zk2) (w2.alloc (zo2 A2 n2 c2 sc s nd sv x.sco At nt ct))):=Below.push Z2.out (Nat.le_of_eq HS0.out.symm) BX.out;have HXR:=hid ((hx2.below BX.out).more BX.out.size);have RB:=hid (fun (W:World) (hb:Below (w2.heap.size+1) (w2.alloc (zo2 A2 n2 c2 sc s nd sv x.sco At nt ct)) W)=>Qad (w:=w2) rfl hb)
 have RB0:=hid (RB.out _ (Below.refl _ _));have CK:=hid (Qka S T x _ (w2.alloc (zo2 A2 n2 c2 sc s nd sv x.sco At nt ct)).heap.size (w2.alloc (zo2 A2 n2 c2 sc s nd sv x.sco At nt ct)) (HS.out _ T3.out).lds (HT.out _ T3.out) HXR.out zr);have CW:=hid (fun (hr:Rgt x) (W:World) (hb:Below (w2.alloc (zo2 A2 n2 c2 sc s nd sv x.sco At nt ct)).heap.size (w2.alloc (zo2 A2 n2 c2 sc s nd sv x.sco At nt ct)) W)=>Qj8 S x _ W.heap.size W (HS.out W (T3.out.trans (hb.mono T3.out.size))).lds ((HXR.out.below hb).more hb.size) zr hr);have HSB:Hid ((w2.alloc (zo2 A2 n2 c2 sc s nd sv x.sco At nt ct)).heap.size=w2.heap.size+1):=by show _=_;simp
 clear hb hx2 htk hsz CT H6;unfold Qlh at *;go_wp2_with (first
  | (refine Qb8 rfl (.tmp 6) rfl _ rfl _ _ RB0.out rfl ?_)
  | fail)
 refine CK.out.mono ?_;rintro e w4 ⟨hb,⟨hr,rfl⟩|⟨hr,t,rfl⟩⟩
 case inr =>
  have Z4:=hid (Below.push Z3.out (Nat.le_of_eq HS0.out.symm) hb);have T4:=hid (HB0.out.trans (Z4.out.mono (Nat.le_succ _)));have R4:=hid (HRZ.out _ Z4.out);have HE:Hid (O=none):=HV.out.trans (if_neg (fun q=>by rw[hr] at q;exact absurd q.1 (by decide)));clear hb hr CK CW;try unfold Qer
  go_wp2_with (first
   | (refine Qa2 rfl 35 (.tmp 2) (.tmp 23) rfl _ _ _ _ _ _ _ _ rfl rfl _ _ R4.out Qa8 rfl rfl ?_;intro w8 hst;have ST:=hid hst;clear hst)
   | fail)
  refine bodyPost_ret (Qdl Tryz.results49 _ _ rfl ST.out.1 rfl) rfl ?_;exact HG.out _ _ (ST.out.2.1 _ _ T4.out zr) (.inr ⟨HE.out,_,rfl⟩)
 have Z4:=hid (Below.push Z3.out (Nat.le_of_eq HS0.out.symm) hb);have T4:=hid (HB0.out.trans (Z4.out.mono (Nat.le_succ _)));have HB4:=hid hb;have RB4:=hid (RB.out _ (hb.mono (Nat.le_of_eq HSB.out.symm)));have CW4:=hid (CW.out (Qb7.1 hr) w4 hb);have HRR:=hid hr;clear hb hr CK;go_wp2_with (first
  | (refine Qb8 rfl (.tmp 6) rfl _ rfl _ _ RB4.out rfl ?_)
  | fail)
 refine CW4.out.mono ?_;rintro e w5 ⟨v5,rfl,hob,hb⟩;obtain⟨A5,c5,rfl,-,-,hr5⟩:=Ob.rdn hob rfl;have Z5:=hid (Below.push Z4.out (Nat.le_of_eq HS0.out.symm) hb);have T5:=hid (HB0.out.trans (Z5.out.mono (Nat.le_succ _)));have HB5:=hid (HB4.out.trans (hb.mono HB4.out.size));have RB5:=hid (RB.out _ (HB5.out.mono (Nat.le_of_eq HSB.out.symm)));have R5:=hid (HRZ.out _ Z5.out);have CE:=hid (Qkh A5 A (Qjh x).length c5 n c w5.heap.size (Qjh x) bs w5 hr5 ((HR.out _ T5.out).more (Nat.le_trans HB.out T5.out.size)));obtain⟨Q,hQ⟩:∃ Q,Q=(Qjh x==bs):=⟨_,rfl⟩
 rw[← hQ] at CE
 have HQ:=hid hQ;have HB25:Hid (Below w2.heap.size w2 w5):=BX.out.trans (HB5.out.mono (Nat.le_trans (Nat.le_succ _) (Nat.le_of_eq HSB.out.symm)));clear hob hb hr5 CW4 hQ;go_wp2_with fail;refine CE.out.mono ?_;rintro e w6 ⟨rfl,rfl⟩;cases Q with
 | false =>
  have HE:Hid (O=none):=HV.out.trans (if_neg (fun q=>by have h:=HQ.out;rw[q.2] at h;simp at h));have CN5:=hid (fun t=>CN.out t _ T5.out);clear CE CW;go_wp2_with fail;refine(CN5.out _).mono ?_;rintro e w7 ⟨rfl,hb⟩;have Z7:=hid (Below.push Z5.out (Nat.le_of_eq HS0.out.symm) hb);have T7:=hid (HB0.out.trans (Z7.out.mono (Nat.le_succ _)));have R7:=hid (HRZ.out _ Z7.out);clear hb;go_wp2_with (first
   | (refine Qa2 rfl 35 (.tmp 2) (.tmp 30) rfl _ _ _ _ _ _ _ _ rfl rfl _ _ R7.out Qa8 rfl rfl ?_;intro w8 hst;have ST:=hid hst;clear hst)
   | fail)
  refine bodyPost_ret (Qdl Tryz.results49 _ _ rfl ST.out.1 rfl) rfl ?_;exact HG.out _ _ (ST.out.2.1 _ _ T7.out zr) (.inr ⟨HE.out,_,rfl⟩)
 | true =>
  have HE:Hid (O=some x):=HV.out.trans (if_pos ⟨HRR.out,by have h:=HQ.out;exact(beq_iff_eq.1 h.symm)⟩);clear CE CW;go_wp2_with (first
   | (refine Qb8 rfl (.tmp 6) rfl _ rfl _ _ RB5.out rfl ?_)
   | (refine Qa2 rfl 35 (.tmp 2) (.tmp 32) rfl _ _ _ _ _ _ _ _ rfl rfl _ _ R5.out Qa8 rfl rfl ?_;intro w8 hst;have ST:=hid hst;clear hst)
   | fail)
  refine bodyPost_ret (Qdl Tryz.results49 _ _ rfl ST.out.1 rfl) rfl ?_;exact HG.out _ _ (ST.out.2.1 _ _ T5.out zr) (.inl ⟨x,_,HE.out,rfl,HXM.out.maskup (Nat.le_trans (Nat.le_succ _) (Nat.le_of_eq HS0.out.symm)) (fun j h1 h2=>(ST.out.2.2.2 j (by have:=HS0.out;omega)).trans (HB25.out.block j h2)) (Nat.le_trans HB25.out.size (Nat.le_of_eq ST.out.2.2.1.symm))⟩)
def cnB(t:Nat)(d:LB):Option Bb:=if t=11 then rdB d else none
theorem Qf3(S:Snt)(T:Snb)(t n f:Nat)(cr:Int)(A:OA)(nb cb B:Nat)(d:LB)(w:World)(hS:Wd S w)(hT:Ldb T w)(hB:B≤w.heap.size)(h:Rd w B A nb d)(hn:nb≤cb∧nb≤140737488355328) :
  Calls Tryz.prog 27 #[Qe3 t n f cr A nb cb] w (Q3m T (cnB t d) w):=by
 have HBK:Hid (Below w.heap.size w (w.alloc (zo4 t n f cr A nb cb))):=zb;have HB0:Hid (Below w.heap.size w ((w.alloc (zo4 t n f cr A nb cb)).alloc zk2)):=HBK.out.alloc (Qaa _ _) _;have HSK:Hid ((w.alloc (zo4 t n f cr A nb cb)).heap.size=w.heap.size+1):=by show _=_;simp
 have HS0:Hid (((w.alloc (zo4 t n f cr A nb cb)).alloc zk2).heap.size=w.heap.size+2):=by show _=_;simp
 have HW0:Hid (Below (w.heap.size+2) ((w.alloc (zo4 t n f cr A nb cb)).alloc zk2) ((w.alloc (zo4 t n f cr A nb cb)).alloc zk2)):=Below.refl _ _;have HRZ:Hid (∀ W,Below (w.heap.size+2) ((w.alloc (zo4 t n f cr A nb cb)).alloc zk2) W→W.heap[w.heap.size+1]?=some (.cells #[.slice none 0 0,.int .i64 0,.string ⟨#[]⟩,.int .u64 0,.int .u64 0,.int .i64 0,.slice none 0 0] 35 (0,0))):=fun W hb=>Qad (w:=(w.alloc (zo4 t n f cr A nb cb))) HSK.out.symm hb
 have HK:Hid (((w.alloc (zo4 t n f cr A nb cb)).alloc zk2).heap[w.heap.size]?=some (.cells #[.int .u64 (t:Int),.int .u64 (n:Int),.int .u64 (f:Int),.int .i64 cr,.slice A nb cb] 43 (0,0))):=Qad (w:=w) rfl ((Below.refl _ _).alloc (Nat.le_of_eq HSK.out.symm) _);have CR:=hid (Qu9 S T A nb cb B d ((w.alloc (zo4 t n f cr A nb cb)).alloc zk2) (hS.below HB0.out zr) (hT.below HB0.out zr) (Nat.le_trans hB HB0.out.size) (h.below (HB0.out.mono hB)) hn.1 hn.2);have CN:=hid (fun (u:ByteArray) (W:World) (hb:Below w.heap.size w W)=>Qeq T u W (hT.below hb zr));obtain⟨O,hO⟩:∃ O,O=cnB t d:=⟨_,rfl⟩
 rw[← hO]
 have HO:=hid hO;have HG:Hid (∀ (e:Ending) (w':World),Below w.heap.size w w'→((∃ x v,O=some x∧e=.returned (.tuple #[v,.nilIface])∧RdX (Qap (Qax w.heap.size) w') w'.heap.size v x)∨(O=none∧∃ s,e=.returned (.tuple #[Qq0,Qer T.t s])))→Q3m T O w e w'):=fun _ _ h1 h2=>⟨h1,h2⟩
 have k0:=Qab HK.out 0 rfl;have k4:=Qab HK.out 4 rfl;clear hS hT hB h hn hO HBK;unfold Qe3 Qer at *;by_cases ht:t=11
 case neg =>
  have t1:((t:Int) != 11)=true:=by rw[bne_iff_ne];omega
  have HE:Hid (O=none):=HO.out.trans (if_neg ht);have CN0:=hid (fun u=>CN.out u _ HB0.out);clear ht CR;go_enter Tryz.func27,Tryz.ntmps27;go_wp2_with fail;refine(CN0.out _).mono ?_;rintro e w1 ⟨rfl,hb⟩;have Z1:=hid (Below.push HW0.out (Nat.le_of_eq HS0.out.symm) hb);have T1:=hid (HB0.out.trans (hb.mono HB0.out.size));have R1:=hid (HRZ.out _ Z1.out);clear hb k0 k4;go_wp2_with (first
   | (refine Qa2 rfl 35 (.tmp 2) (.tmp 7) rfl _ _ _ _ _ _ _ _ rfl rfl _ _ R1.out Qa8 rfl rfl ?_;intro w8 hst;have ST:=hid hst;clear hst)
   | fail)
  refine bodyPost_ret (Qdl Tryz.results27 _ _ rfl ST.out.1 rfl) rfl ?_;exact HG.out _ _ (ST.out.2.1 _ _ T1.out (Nat.le_succ _)) (.inr ⟨HE.out,_,rfl⟩)
 have t1:((t:Int) != 11)=false:=by rw[ht];rfl
 have HE:Hid (O=rdB d):=HO.out.trans (if_pos ht);clear ht CN;go_enter Tryz.func27,Tryz.ntmps27;go_wp2_with fail;refine CR.out.mono ?_;rintro e w1 ⟨hb,⟨x,v,h1,rfl,hx⟩|⟨h1,u,rfl⟩⟩
 ·
  have Z1:=hid (Below.push HW0.out (Nat.le_of_eq HS0.out.symm) hb);have T1:=hid (HB0.out.trans (hb.mono HB0.out.size));have R1:=hid (HRZ.out _ Z1.out);have HX:=hid hx;obtain⟨A2,n2,c2,sc,s,nd,sv,At,nt,ct,rfl,-⟩:=hx;have H1:=hid h1;clear hb h1 k0 k4 CR;unfold Qlh at *;go_wp2_with (first
   | (refine Qa2 rfl 35 (.tmp 2) (.tmp 12) rfl _ _ _ _ _ _ _ _ rfl rfl _ _ R1.out Qa8 rfl rfl ?_;intro w8 hst;have ST:=hid hst;clear hst)
   | fail)
  refine bodyPost_ret (Qdl Tryz.results27 _ _ rfl ST.out.1 rfl) rfl ?_;exact HG.out _ _ (ST.out.2.1 _ _ T1.out (Nat.le_succ _)) (.inl ⟨x,_,HE.out.trans H1.out,rfl,HX.out.maskup (Nat.le_trans (Nat.le_add_right _ 2) (Nat.le_of_eq HS0.out.symm)) (fun j h1 _=>ST.out.2.2.2 j (by have:=HS0.out;omega)) (Nat.le_of_eq ST.out.2.2.1.symm)⟩)
 ·
  have Z1:=hid (Below.push HW0.out (Nat.le_of_eq HS0.out.symm) hb);have T1:=hid (HB0.out.trans (hb.mono HB0.out.size));have R1:=hid (HRZ.out _ Z1.out);have H1:=hid h1;clear hb h1 k0 k4 CR;unfold Qq0;go_wp2_with (first
   | (refine Qa2 rfl 35 (.tmp 2) (.tmp 12) rfl _ _ _ _ _ _ _ _ rfl rfl _ _ R1.out Qa8 rfl rfl ?_;intro w8 hst;have ST:=hid hst;clear hst)
   | fail)
  refine bodyPost_ret (Qdl Tryz.results27 _ _ rfl ST.out.1 rfl) rfl ?_;exact HG.out _ _ (ST.out.2.1 _ _ T1.out (Nat.le_succ _)) (.inr ⟨HE.out.trans H1.out,_,rfl⟩)
def Q4u(o:Option Bb)(z:Int)(w:World)(e:Ending)(w':World):Prop:=Below w.heap.size w w' ∧
 ((∃ x v,o=some x∧e=.returned (.tuple #[v,.int .i64 0])∧RdX (Qap (Qax w.heap.size) w') w'.heap.size v x)∨(o=none∧e=.returned (.tuple #[Qq0,.int .i64 z])))
def Inn(o:Option Bb)(z:Int)(w:World)(e:Ending)(w':World):Prop:=Below w.heap.size w w'∧∃ (A:OA) (n c:Nat) (sc:Int) (s:ByteArray) (nd sv:Nat) (so:Int) (At:OA) (nt ct:Nat) (E:Value) (y:Int),
 e=.returned (.tuple #[Qlh A n c sc s nd sv so At nt ct,E])∧(∀ W,Below w'.heap.size w' W→Calls Tryz.prog 16 #[E] W fun e W'=>e=.returned (.int .i64 y)∧Below W.heap.size W W') ∧
 ((∃ x,o=some x∧y=0∧RdX (Qap (Qax w.heap.size) w') w'.heap.size (Qlh A n c sc s nd sv so At nt ct) x)∨(o=none∧y=z∧Qlh A n c sc s nd sv so At nt ct=Qq0))
end Go.Proofs.YtbnfkjkoinbkgaaGreatDoor
