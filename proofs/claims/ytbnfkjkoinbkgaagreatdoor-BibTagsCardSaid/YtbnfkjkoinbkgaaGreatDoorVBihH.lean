import Derived.Test.YtbnfkjkoinbkgaaGreatDoorVAbb
import Derived.Test.YtbnfkjkoinbkgaaGreatDoorVBibY
import Derived.Test.YtbnfkjkoinbkgaaGreatDoorVBibZ
import Derived.Test.YtbnfkjkoinbkgaaGreatDoorVBihB
import Derived.Test.YtbnfkjkoinbkgaaGreatDoorVBunW6
import Derived.Test.YtbnfkjkoinbkgaaGreatDoorVRfW
namespace Go.Proofs.YtbnfkjkoinbkgaaGreatDoor
set_option maxRecDepth 100000
set_option maxHeartbeats 16000000
open Go.RowKit
open Go.Lib (hid)
theorem Q2n{w:World}{e:Ending}{w':World}(h:Q4t hP9 [bP9] [1,0] 2 7 (ep 2 ⟨#[]⟩ 1 0) [107] w e w') :
  Below w.heap.size w w'∧∃ (A:OA) (c:Nat),e=.returned (.tuple #[Qbl hP9 A 2 c,.int .i64 0])∧RdL w' w'.heap.size A 2 lK∧2≤c:=by
 obtain⟨hb,⟨z,-,hz,-⟩|⟨-,-,-,-,A,n,c,rfl,hr,hc⟩⟩:=h
 ·
  rcases hz with ⟨h1,-⟩|⟨-,h1,-⟩|⟨-,-,h1,-⟩
  ·
   exact absurd Q3j h1
  ·
   exact absurd (hk_rg.symm.trans h1) (by decide)
  ·
   exact absurd ⟨Q1h,Qoz⟩ h1
 ·
  obtain rfl:n=2:=hr.1.symm;exact⟨hb,A,c,rfl,hr.unmask_,hc⟩
theorem Q2q{w:World}{e:Ending}{w':World}(h:Q4u (vrB (hP9.bun lK) 2 [107]).1 (vrB (hP9.bun lK) 2 [107]).2 w e w') :
  Below w.heap.size w w'∧∃ (A:OA) (c:Nat) (sc:Int) (s:ByteArray) (nd sv:Nat) (At:OA) (nt ct:Nat),e=.returned (.tuple #[Qlh A 2 c sc s nd sv 7 At nt ct,.int .i64 0]):=by
 rw[Q4e] at h
 obtain⟨hb,⟨x,v,hx,rfl,hr⟩|⟨hx,-⟩⟩:=h
 ·
  obtain rfl:xK=x:=Option.some.inj hx;obtain⟨A,n,c,sc,s,nd,sv,At,nt,ct,rfl,-,-,hN,-⟩:=hr;obtain rfl:n=2:=hN.1.symm;exact⟨hb,A,c,sc,s,nd,sv,At,nt,ct,rfl⟩
 ·
  cases hx
theorem Qzh{q z:Nat}{k:LB}{w:World}{e:Ending}{w':World}(hv:vrB (hP9.bun lK) q k=(none,(z:Int)))(h:Q4u (vrB (hP9.bun lK) q k).1 (vrB (hP9.bun lK) q k).2 w e w') :
  Below w.heap.size w w'∧e=.returned (.tuple #[Qq0,.int .i64 z]):=by
 rw[hv] at h
 obtain⟨hb,⟨x,v,hx,-⟩|⟨-,rfl⟩⟩:=h
 ·
  cases hx
 ·
  exact⟨hb,rfl⟩
theorem Q2o{L:List Nat}{w:World}{e:Ending}{w':World}(hL:L=[2])(h:Q1e L w e w'):Below w.heap.size w w'∧∃ (A:OA) (c:Nat),e=.returned (.slice A 1 c)∧RdN w' w'.heap.size A 1 [2]:=by
 subst hL;obtain⟨hb,A,n,c,rfl,-,hr⟩:=h;obtain rfl:n=1:=hr.1.symm;exact⟨hb,A,c,rfl,hr⟩
theorem Qxo(w:World)(x:Nat)(t:TypeId):RdN (w.alloc (.cells #[.int .u64 (x:Int)] t)) (w.heap.size+1) (some ⟨w.heap.size,0,none⟩) 1 [x] :=
 ⟨rfl,fun _=>⟨_,0,rfl,Nat.lt_succ_self _,fun i hi=>by
  rw[World.cell?_alloc_at _ _ _ _ rfl]
  obtain rfl:i=0:=by omega
  rfl⟩⟩
theorem Qxn(w:World)(x y:Nat)(t:TypeId):RdN (w.alloc (.cells #[.int .u64 (x:Int),.int .u64 (y:Int)] t)) (w.heap.size+1) (some ⟨w.heap.size,0,none⟩) 2 [x,y] :=
 ⟨rfl,fun _=>⟨_,0,rfl,Nat.lt_succ_self _,fun i hi=>by
  rw[World.cell?_alloc_at _ _ _ _ rfl]
  match i,hi with
  | 0,_=>rfl
  | 1,_=>rfl⟩⟩
theorem Qo0(S:Snt)(T:Snb)(w:World)(hS:Wd S w)(hT:Ldb T w) :
  Calls Tryz.prog 5 #[] w fun e w'=>e=.returned (.bool true)∧Below w.heap.size w w':=by
 have HSW:=hid (fun (W:World) (hb:Below w.heap.size w W)=>And.intro (hS.below hb zr) (hT.below hb zr));have C1:=hid (fun W=>Qoi W);have CS:=hid (fun (W:World) (hb:Below w.heap.size w W) (A At Ak:OA) (hr:RdL W W.heap.size A 1 [bP9]) (hN:RdN W W.heap.size At 2 [1,0]) (hk:Rd W W.heap.size Ak 1 [107]) =>
  (Qu7 S T hP9 [bP9] A 1 1 W.heap.size [1,0] At 2 2 2 7 2 ⟨#[]⟩ 1 0 Ak 1 1 [107] W (HSW.out W hb).1 (HSW.out W hb).2 Qm3 hr zr zr hN zr Qyk (by decide) (by decide) (by decide) (by decide) (by decide) hk ⟨by decide,by decide,by decide⟩ (fun x hx=>by rw[List.mem_singleton.1 hx];decide)).mono fun _ _ h=>Q2n h)
 have CV:=hid (fun (W:World) (hb:Below w.heap.size w W) (A Ak:OA) (c:Nat) (hr:RdL W W.heap.size A 2 lK) (hc:2≤c) (hk:Rd W W.heap.size Ak 1 [107]) =>
  (Qd4 S T hP9 lK A 2 c W.heap.size 2 Ak 1 1 [107] W (HSW.out W hb).1 (HSW.out W hb).2 Qm3 hr zr hc hk ⟨by decide,by decide,by decide⟩ Qvj).mono fun _ _ h=>Q2q h)
 have CL:=hid (fun (W:World) (hb:Below w.heap.size w W) (A Ak:OA) (c:Nat) (hr:RdL W W.heap.size A 2 lK) (hc:2≤c) (hk:Rd W W.heap.size Ak 1 [108]) =>
  (Qd4 S T hP9 lK A 2 c W.heap.size 2 Ak 1 1 [108] W (HSW.out W hb).1 (HSW.out W hb).2 Qm3 hr zr hc hk ⟨by decide,by decide,by decide⟩ Qvj).mono fun _ _ h=>Qzh (z:=101) Q4d h)
 have CO:=hid (fun (W:World) (hb:Below w.heap.size w W) (A Ak:OA) (c:Nat) (hr:RdL W W.heap.size A 2 lK) (hc:2≤c) (hk:Rd W W.heap.size Ak 1 [107]) =>
  (Qd4 S T hP9 lK A 2 c W.heap.size 1 Ak 1 1 [107] W (HSW.out W hb).1 (HSW.out W hb).2 Qm3 hr zr hc hk ⟨by decide,by decide,by decide⟩ Qvj).mono fun _ _ h=>Qzh (z:=100) Q4f h)
 have CC:=hid (fun (W:World) (hb:Below w.heap.size w W) (A:OA) (c:Nat) (hr:RdL W W.heap.size A 2 lK) (hc:2≤c) =>
  (Qor S T hP9 lK A 2 c W.heap.size 0 W (HSW.out W hb).1 (HSW.out W hb).2 Qm3 hr zr hc (by decide)).mono fun _ _ h=>Q2o ((if_pos Qoz).trans Q2r) h)
 have HK0:Hid (Rd (w.alloc (.cells #[.int .u8 107] 5 (1,2))) (w.heap.size+1) (some ⟨w.heap.size,0,none⟩) 1 [107]):=Rd.litm w _ rfl [107] 5 #[.int .u8 107] (1,2) rfl 1 rfl;have B0:=hid ((Below.refl w.heap.size w).alloc zr (.cells #[.int .u8 107] 5 (1,2)));have HKW:=hid (fun (W:World) (hb:Below (w.heap.size+1) (w.alloc (.cells #[.int .u8 107] 5 (1,2))) W)=>(HK0.out.below hb));have E0:Hid (Below (w.heap.size+1) (w.alloc (.cells #[.int .u8 107] 5 (1,2))) (w.alloc (.cells #[.int .u8 107] 5 (1,2)))):=Below.refl _ _;have Z0:Hid ((w.alloc (.cells #[.int .u8 107] 5 (1,2))).heap.size=w.heap.size+1):=by show _=_;simp
 have kc:=Ql7 w #[.int .u8 107] 1 1;clear hS hT;go_enter Tryz.func5,Tryz.ntmps5;go_wp2_with fail;generalize w.alloc (.cells #[.int .u8 107] 5 (1,2))=w0 at *;have L0:Hid (w.heap.size+1≤w0.heap.size):=Nat.le_of_eq Z0.out.symm;refine(C1.out _).mono ?_;rintro e w1 ⟨hb,A1,rfl,hr⟩;have E1:=hid (E0.out.trans (hb.mono (Nat.le_of_eq Z0.out.symm)));have B1:=hid (B0.out.trans (hb.mono B0.out.size));have R1:=hid hr.unmask_;clear hb hr E0;go_wp2_with fail;have D1:Hid (Below w1.heap.size w1 (w1.alloc zk4)):=zb;have NK:Hid (RdN (w1.alloc zk4) (w1.heap.size+1) (some ⟨w1.heap.size,0,none⟩) 2 [1,0]):=Qxn w1 1 0 22
 have Z1:Hid ((w1.alloc zk4).heap.size=w1.heap.size+1):=by show _=_;simp
 generalize w1.alloc zk4=w1b at *;refine(C1.out _).mono ?_;rintro e w2 ⟨hb,A2,rfl,hr⟩;have D2:=hid (D1.out.trans (hb.mono D1.out.size));have B2:=hid (B1.out.trans (D2.out.mono B1.out.size));have E2:=hid (E1.out.trans (D2.out.mono (Nat.le_trans L0.out E1.out.size)));have R2:=hid ((R1.out.below D2.out).more D2.out.size);have N2:=hid ((NK.out.below (hb.mono (Nat.le_of_eq Z1.out.symm))).more (Nat.le_trans (Nat.le_of_eq Z1.out.symm) hb.size));have K2:=hid ((HKW.out _ E2.out).more (Nat.le_trans L0.out E2.out.size));have FE:∀ W,(Instr.field 28 (Qbl hP9 A2 1 1) 3).run Tryz.prog W=.ok (Qbq 2 ⟨#[]⟩ 1 0) W:=fun W=>by kernel_rfl
 have zw1:=hb.size;clear hb hr NK D1 R1 E1;go_wp2_with fail;refine(CS.out w2 B2.out A1 _ _ R2.out N2.out K2.out).mono ?_;rintro e w3 ⟨hb,A3,c3,rfl,hr3,hc3⟩;have B3:=hid (B2.out.trans (hb.mono B2.out.size));have E3:=hid (E2.out.trans (hb.mono (Nat.le_trans L0.out E2.out.size)));have R3:=hid hr3;have HC3:=hid hc3;clear hb hr3 hc3 R2 N2 K2 FE zw1 Z1 D2 E2 B1 B2;unfold Qbl Qlh Qq0 at *;go_wp2_with (first
  | (refine Qbp rfl 28 (.tmp 2) (.tmp 19) rfl _ rfl rfl _ _ (heap_alloc_new w3 _) Qb1 rfl rfl ?_;intro W4 hrow4 _ _ hbel hsz4;have B4:=hid (hbel _ _ (B3.out.alloc B3.out.size _) B3.out.size);have E4:=hid (hbel _ _ (E3.out.alloc (Nat.le_trans L0.out E3.out.size) _) (Nat.le_trans L0.out E3.out.size));have D4:=hid (hbel _ _ ((Below.refl w3.heap.size w3).alloc zr _) zr);have ROW4:=hid hrow4;have SZ4:=hid hsz4;have R4:=hid ((R3.out.below D4.out).more D4.out.size);have K4:=hid ((HKW.out _ E4.out).more (Nat.le_trans L0.out E4.out.size));clear hbel hrow4 hsz4)
  | (refine Qae rfl (.tmp 2) rfl _ rfl _ _ ROW4.out rfl ?_)
  | fail)
 clear R3 E3 B3;refine(CV.out W4 B4.out _ _ c3 R4.out HC3.out K4.out).mono ?_;rintro e w5 ⟨hb,Ax,cx,sc,s,nd,sv,At,nt,ct,rfl⟩;have B5:=hid (B4.out.trans (hb.mono B4.out.size));have E5:=hid (E4.out.trans (hb.mono (Nat.le_trans L0.out E4.out.size)));have ROW5:=hid (Qar ROW4.out hb (Qaf ROW4.out));have R5:=hid ((R4.out.below hb).more hb.size);clear hb CV ROW4 R4 K4 B4 E4 D4 SZ4;go_wp2_with (first
  | (refine Qa2 rfl 35 (.tmp 4) (.tmp 25) rfl _ _ _ _ _ _ _ _ rfl rfl _ _ (heap_alloc_new w5 _) Qa8 rfl rfl ?_;intro W6 hst6;have B6:=hid (hst6.2.1 _ _ (B5.out.alloc B5.out.size _) B5.out.size);have E6:=hid (hst6.2.1 _ _ (E5.out.alloc (Nat.le_trans L0.out E5.out.size) _) (Nat.le_trans L0.out E5.out.size));have D6:=hid (hst6.2.1 _ _ ((Below.refl w5.heap.size w5).alloc zr _) zr);have X6:=hid hst6.1;have ROW6:=hid (Qar ROW5.out D6.out (Qaf ROW5.out));have R6:=hid ((R5.out.below D6.out).more D6.out.size);have kc6:=Ql7 W6 #[.int .u8 108] 1 1;clear hst6)
  | (refine Qae rfl (.tmp 2) rfl _ rfl _ _ ROW6.out rfl ?_)
  | fail)
 have D7:Hid (Below W6.heap.size W6 (W6.alloc (.cells #[.int .u8 108] 5 (1,2)))):=zb;have K7:Hid (Rd (W6.alloc (.cells #[.int .u8 108] 5 (1,2))) (W6.heap.size+1) (some ⟨W6.heap.size,0,none⟩) 1 [108]):=Rd.litm W6 _ rfl [108] 5 #[.int .u8 108] (1,2) rfl 1 rfl;have Z7:Hid ((W6.alloc (.cells #[.int .u8 108] 5 (1,2))).heap.size=W6.heap.size+1):=by show _=_;simp
 generalize W6.alloc (.cells #[.int .u8 108] 5 (1,2))=w7 at *;have B7:=hid (B6.out.trans (D7.out.mono B6.out.size));have E7:=hid (E6.out.trans (D7.out.mono (Nat.le_trans L0.out E6.out.size)));have ROW7:=hid (Qar ROW6.out D7.out (Qaf ROW6.out));have X7:=hid (Qar X6.out D7.out (Qaf X6.out));have R7:=hid ((R6.out.below D7.out).more D7.out.size);clear kc6 ROW5 R5 B5 E5 D6 X6 ROW6 R6 B6 E6 D7;refine(CL.out w7 B7.out _ _ c3 R7.out HC3.out (K7.out.more (Nat.le_of_eq Z7.out.symm))).mono ?_;rintro e w8 ⟨hb,rfl⟩;have B8:=hid (B7.out.trans (hb.mono B7.out.size));have E8:=hid (E7.out.trans (hb.mono (Nat.le_trans L0.out E7.out.size)))
 have ROW8:=hid (Qar ROW7.out hb (Qaf ROW7.out));have X8:=hid (Qar X7.out hb (Qaf X7.out));have R8:=hid ((R7.out.below hb).more hb.size);clear hb CL ROW7 X7 R7 B7 E7 K7 Z7;go_wp2_with (first
  | (refine Qa2 rfl 35 (.tmp 6) (.tmp 32) rfl _ _ _ _ _ _ _ _ rfl rfl _ _ (heap_alloc_new w8 _) Qa8 rfl rfl ?_;intro W9 hst9;have B9:=hid (hst9.2.1 _ _ (B8.out.alloc B8.out.size _) B8.out.size);have E9:=hid (hst9.2.1 _ _ (E8.out.alloc (Nat.le_trans L0.out E8.out.size) _) (Nat.le_trans L0.out E8.out.size));have D9:=hid (hst9.2.1 _ _ ((Below.refl w8.heap.size w8).alloc zr _) zr);have X9:=hid (Qar X8.out D9.out (Qaf X8.out));have ROW9:=hid (Qar ROW8.out D9.out (Qaf ROW8.out));have R9:=hid ((R8.out.below D9.out).more D9.out.size);have K9:=hid ((HKW.out _ E9.out).more (Nat.le_trans L0.out E9.out.size));clear hst9)
  | (refine Qae rfl (.tmp 2) rfl _ rfl _ _ ROW9.out rfl ?_)
  | fail)
 clear ROW8 X8 R8 B8 E8 D9;refine(CO.out W9 B9.out _ _ c3 R9.out HC3.out K9.out).mono ?_;rintro e w10 ⟨hb,rfl⟩;have B10:=hid (B9.out.trans (hb.mono B9.out.size));have ROW10:=hid (Qar ROW9.out hb (Qaf ROW9.out));have X10:=hid (Qar X9.out hb (Qaf X9.out));have R10:=hid ((R9.out.below hb).more hb.size);clear hb CO ROW9 X9 R9 B9 E9 K9;go_wp2_with (first
  | (refine Qa2 rfl 35 (.tmp 8) (.tmp 38) rfl _ _ _ _ _ _ _ _ rfl rfl _ _ (heap_alloc_new w10 _) Qa8 rfl rfl ?_;intro W11 hst11;have B11:=hid (hst11.2.1 _ _ (B10.out.alloc B10.out.size _) B10.out.size);have D11:=hid (hst11.2.1 _ _ ((Below.refl w10.heap.size w10).alloc zr _) zr);have X11:=hid (Qar X10.out D11.out (Qaf X10.out));have ROW11:=hid (Qar ROW10.out D11.out (Qaf ROW10.out));have R11:=hid ((R10.out.below D11.out).more D11.out.size);have q0:=Qab X11.out 0 rfl;have q5:=Qab X11.out 5 rfl;clear hst11)
  | (refine Qlp (by rfl) (.tmp 2) rfl _ rfl _ _ ROW11.out rfl ?_)
  | fail)
 clear ROW10 X10 R10 B10 X11 q0 q5 D11;refine(CC.out W11 B11.out _ c3 R11.out HC3.out).mono ?_;rintro e w12 ⟨hb,Ac,cc,rfl,hrc⟩;have B12:=hid (B11.out.trans (hb.mono B11.out.size));have ROW12:=hid (Qar ROW11.out hb (Qaf ROW11.out));have NC:=hid hrc;clear hb hrc CC ROW11 R11 B11;go_wp2_with fail;have D13:Hid (Below w12.heap.size w12 (w12.alloc (zo11 2))):=zb;refine(Qmd Ac (some ⟨w12.heap.size,0,none⟩) 1 1 cc 1 _ _ [2] [2] _ (NC.out.below D13.out) (Qxo w12 2 22) (by decide) (by decide)).mono ?_;rintro e w14 ⟨rfl,m,hm⟩;have D14:Hid (Below w12.heap.size w12 w14):=by rw[hm];exact D13.out.trans (Qai _ _ _)
 have B14:=hid (B12.out.trans (D14.out.mono B12.out.size));have q17:=Qab (Qar ROW12.out D14.out (Qaf ROW12.out)) 17 rfl;rw[show(([2]:List Nat)==[2])=true from rfl]
 clear hm D13 NC ROW12;go_wp2_with fail;go_ret;exact⟨rfl,B14.out⟩
end Go.Proofs.YtbnfkjkoinbkgaaGreatDoor
