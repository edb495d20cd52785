import Derived.Test.YtbnfkjkoinbkgaaGreatDoorVAbb
import Derived.Test.YtbnfkjkoinbkgaaGreatDoorVCborS
import Derived.Test.YtbnfkjkoinbkgaaGreatDoorVKHead
import Derived.Test.YtbnfkjkoinbkgaaGreatDoorVNumG
import Derived.Deep.RegionHeld3
namespace Go.Proofs.YtbnfkjkoinbkgaaGreatDoor
set_option maxRecDepth 100000
set_option maxHeartbeats 16000000
open Go.RowKit
open Go.Lib (hid)
def Q3e(t:TypeId)(l:LB)(c:Int)(w:World)(e:Ending)(w':World):Prop:=∃ v,e=.returned (.tuple #[v,.int .i64 c])∧Ob w' w.heap.size t v l∧Below w.heap.size w w'
theorem Qcx{w w':World}{c0 c1 c2 c3:Value}{t:TypeId}(h:Below (w.heap.size+1) (w.alloc (.cells #[c0,c1,c2,c3] t)) w') :
  w'.cell? ⟨w.heap.size,0,none⟩=some c0∧w'.cell? ⟨w.heap.size,1,none⟩=some c1∧w'.cell? ⟨w.heap.size,2,none⟩=some c2∧w'.cell? ⟨w.heap.size,3,none⟩=some c3 :=
 ⟨(h.cell (p:=⟨w.heap.size,0,none⟩) (Nat.lt_succ_self _)).trans (by simp),(h.cell (p:=⟨w.heap.size,1,none⟩) (Nat.lt_succ_self _)).trans (by simp),(h.cell (p:=⟨w.heap.size,2,none⟩) (Nat.lt_succ_self _)).trans (by simp),(h.cell (p:=⟨w.heap.size,3,none⟩) (Nat.lt_succ_self _)).trans (by simp)⟩
theorem Qea{w w':World}{o:Obj}(h:Below (w.alloc o).heap.size (w.alloc o) w'):Below (w.heap.size+1) (w.alloc o) w':=h.mono (by simp)
theorem Qh9(x:Itm)(v:Value)(w:World)(B:Nat)(hp:par x≤1000000)(hg:hgt x≤1001)(hlen:Qkk x→(wri x).length≤140737488355328)(hB:B≤w.heap.size)(h:RdI w B v x) :
  Calls Tryz.prog 62 #[v] w (Q3e 5 (enc x).1 (enc x).2 w):=by
 obtain⟨k,n,d,l⟩:=x;have HX:=hid h;obtain⟨A,nd,cd,AL,cl,rfl,h1,h2,h3,h4,h5,h7⟩:=h.open;generalize hX:Itm.mk k n d l=x at *;clear hX;have C1:=hid (fun W (hb:Below w.heap.size w W)=>Qpr (par x+1) x 1000 _ W B (Nat.lt_succ_self _) hg (by omega) (Nat.le_trans hB hb.size) (HX.out.below (hb.mono hB)));have C2:=hid (fun W (hb:Below w.heap.size w W)=>Qpv (par x+1) x _ W B (Nat.lt_succ_self _) hp (Nat.le_trans hB hb.size) (HX.out.below (hb.mono hB)));have C3:=hid (fun W (hb:Below w.heap.size w W)=>Qps (par x+1) x _ W B (Nat.lt_succ_self _) hp (Nat.le_trans hB hb.size) (HX.out.below (hb.mono hB)))
 have C4:=hid (fun W (hb:Below w.heap.size w W) (hr:Qbd x=true) (hl:(wri x).length≤140737488355328)=>Qkr (par x+1) x _ W B (Nat.lt_succ_self _) hr hl (Nat.le_trans hB hb.size) (HX.out.below (hb.mono hB)));have HLEN:=hid hlen;have hdp:=Qvz x;have B0:=hid ((Below.refl w.heap.size w).alloc zr (zo1 k n A nd cd AL l.length cl));generalize l.length=N at *;clear h1 h4 h7 h hlen;rcases hr:Qbd x with _|_
 ·
  rw[show enc x=([],2) by unfold enc;rw[if_pos hr]]
  rw[hr] at C1
  clear hr;go_enter Tryz.func62,Tryz.ntmps62;go_wp2_with fail;refine(C1.out _ B0.out).mono ?_;rintro e w1 ⟨rfl,hb1⟩;have HB1:=hid (B0.out.trans (hb1.mono B0.out.size));clear hb1;go_wp2_with fail;go_ret2
  exact⟨_,rfl,Ob.nil_ _ _ _,HB1.out⟩
 ·
  rw[hr] at C1
  have HR:=hid hr;clear hr;obtain⟨E1,hE1⟩:∃ q,q=(enc x).1:=⟨_,rfl⟩
  obtain⟨E2,hE2⟩:∃ q,q=(enc x).2:=⟨_,rfl⟩
  rw[← hE1,← hE2]
  have HE1:=hid hE1;have HE2:=hid hE2;clear hE1 hE2;go_enter Tryz.func62,Tryz.ntmps62;go_wp2_with fail;refine(C1.out _ B0.out).mono ?_;rintro e w1 ⟨rfl,hb1⟩;have HB1:=hid (B0.out.trans (hb1.mono B0.out.size));have HC1:=hid (Qea hb1);obtain⟨q0,q1,q2,q3⟩:=Qcx HC1.out;clear hb1;go_wp2_with fail;refine(C2.out _ HB1.out).mono ?_;rintro e w2 ⟨rfl,hb2⟩;have HB2:=hid (HB1.out.trans (hb2.mono HB1.out.size));have HZ1:Hid (w.heap.size+1≤w1.heap.size):=by show _≤_;have:=HC1.out.size;simpa using this
  have HC2:=hid (HC1.out.trans (hb2.mono HZ1.out));clear q0 q1 q2 q3 hb2;obtain⟨q0,q1,q2,q3⟩:=Qcx HC2.out;by_cases hd8:8<dep x
  ·
   have hd8':decide (8<dep x)=true:=decide_eq_true hd8;have hd8i:decide ((8:Int)<(dep x:Int))=true:=decide_eq_true (by omega);have he:enc x=([],32):=by unfold enc;rw[if_neg (by rw[HR.out];decide),if_pos (.inl hd8)]
   have h1:=HE1.out;have h2:=HE2.out;rw[he] at h1 h2
   subst h1 h2;clear he;go_wp2_with fail;go_ret2
   exact⟨_,rfl,Ob.nil_ _ _ _,HB2.out⟩
  ·
   have hd8':decide (8<dep x)=false:=decide_eq_false hd8;have hd8i:decide ((8:Int)<(dep x:Int))=false:=decide_eq_false (by omega);go_wp2_with fail;refine(C3.out _ HB2.out).mono ?_;rintro e w3 ⟨rfl,hb3⟩;have HB3:=hid (HB2.out.trans (hb3.mono HB2.out.size));have HZ2:Hid (w.heap.size+1≤w2.heap.size):=by show _≤_;have:=HC2.out.size;simpa using this
   have HC3:=hid (HC2.out.trans (hb3.mono HZ2.out));clear q0 q1 q2 q3 hb3;obtain⟨q0,q1,q2,q3⟩:=Qcx HC3.out;by_cases hp4:4096<par x
   ·
    have he:enc x=([],32):=by unfold enc;rw[if_neg (by rw[HR.out];decide),if_pos (.inr hp4)]
    have h1:=HE1.out;have h2:=HE2.out;rw[he] at h1 h2
    subst h1 h2;clear he;go_wp2_with fail;go_ret2
    exact⟨_,rfl,Ob.nil_ _ _ _,HB3.out⟩
   ·
    have hf:Qkk x:=⟨HR.out,by omega,by omega⟩
    have he:=Qvw hf;have h1:=HE1.out;have h2:=HE2.out;rw[he] at h1 h2
    have HL:=hid (HLEN.out hf);have H1:=hid h1;subst h2;clear he hf h1;go_wp2_with fail;refine(C4.out _ HB3.out HR.out HL.out).mono ?_;rintro e w4 ⟨v,rfl,ho,hb4⟩;rw[← H1.out] at ho
    have HO:=hid (ho.weak HB3.out.size);have HB4:=hid (HB3.out.trans (hb4.mono HB3.out.size));clear ho hb4 q0 q1 q2 q3;go_wp2_with fail;go_ret2
    exact⟨_,rfl,HO.out,HB4.out⟩
theorem Below.drew_{B:Nat}{w:World}:Below B w w.drew:=(Below.refl B w).drew
def Qwr(x:Itm)(w:World)(e:Ending)(w':World):Prop:=∃ v,e=.returned v∧RdI w' w'.heap.size v x∧Below w.heap.size w w'
theorem RdI.mk_uint{w:World}{B n:Nat}(hn:n<18446744073709551616):RdI w B (zv6 0 n none 0 0 none 0 0) (.mk 0 n [] []):=by
 rw[RdI]
 exact⟨none,0,0,none,0,0,rfl,by decide,hn,⟨Nat.le_refl _,by decide⟩,Rd.nil_,⟨Nat.le_refl _,by decide⟩,rfl,fun h=>absurd h (Nat.lt_irrefl _)⟩
theorem RdI.mk_data{w:World}{B nd cd:Nat}{A:OA}{d:LB}{k:Int}(hk:(Lit.int .i64 k).wf=true)(hc:nd≤cd)(hc2:nd≤140737488355328)(h:Rd w B A nd d):RdI w B (zv6 k 0 A nd cd none 0 0) (.mk k 0 d []):=by
 rw[RdI]
 exact⟨A,nd,cd,none,0,0,rfl,hk,by decide,⟨hc,hc2⟩,h,⟨Nat.le_refl _,by decide⟩,rfl,fun h=>absurd h (Nat.lt_irrefl _)⟩
theorem Qa4{w W':World}(h:Below (w.heap.size+1) (w.alloc zk0) W') :
  (W'.cell? ⟨w.heap.size,0,none⟩=some (.int .i64 0)∧W'.cell? ⟨w.heap.size,1,none⟩=some (.int .u64 0)∧W'.cell? ⟨w.heap.size,2,none⟩=some (.slice none 0 0)∧W'.cell? ⟨w.heap.size,3,none⟩=some (.slice none 0 0)) ∧
  (W'.frozen? ⟨w.heap.size,0,none⟩=false∧W'.frozen? ⟨w.heap.size,1,none⟩=false∧W'.frozen? ⟨w.heap.size,2,none⟩=false∧W'.frozen? ⟨w.heap.size,3,none⟩=false) :=
 ⟨Qcx h,(h.frozen (p:=⟨w.heap.size,0,none⟩) (Nat.lt_succ_self _)).trans (by simp),(h.frozen (p:=⟨w.heap.size,1,none⟩) (Nat.lt_succ_self _)).trans (by simp),(h.frozen (p:=⟨w.heap.size,2,none⟩) (Nat.lt_succ_self _)).trans (by simp),(h.frozen (p:=⟨w.heap.size,3,none⟩) (Nat.lt_succ_self _)).trans (by simp)⟩
theorem Rd.set4{W':World}{B n:Nat}{A:OA}{l:LB}{g:Nat}{u0 u1 u2 u3:Value}(h:Rd W' B A n l)(hA:0<n→∀ b o,A=some ⟨b,o,none⟩→b≠g) :
  Rd ((((W'.setCell ⟨g,0,none⟩ u0).setCell ⟨g,1,none⟩ u1).setCell ⟨g,2,none⟩ u2).setCell ⟨g,3,none⟩ u3) B A n l :=
 ⟨h.1,fun hn=>by
  obtain⟨b,o,e,hb,hc⟩:=h.2 hn;have hne:=hA hn b o e;refine⟨b,o,e,hb,fun i hi=>?_⟩;rw[World.cell?_setCell_far _ _ _ _ (fun h=>hne h.symm),World.cell?_setCell_far _ _ _ _ (fun h=>hne h.symm),World.cell?_setCell_far _ _ _ _ (fun h=>hne h.symm),World.cell?_setCell_far _ _ _ _ (fun h=>hne h.symm)]
  exact hc i hi⟩
theorem Qas{B g:Nat}{w W':World}{u0 u1 u2 u3:Value}(h:Below B w W')(hg:B≤g):Below B w ((((W'.setCell ⟨g,0,none⟩ u0).setCell ⟨g,1,none⟩ u1).setCell ⟨g,2,none⟩ u2).setCell ⟨g,3,none⟩ u3) :=
 (((h.setCell (p:=⟨g,0,none⟩) hg _).setCell (p:=⟨g,1,none⟩) hg _).setCell (p:=⟨g,2,none⟩) hg _).setCell (p:=⟨g,3,none⟩) hg _
theorem Qda(A:OA)(n c B:Nat)(l:LB)(w:World)(hB:B≤w.heap.size)(h:Rd w B A n l)(hn:n≤140737488355328) :
  Calls Tryz.prog 91 #[.slice A n c] w (Qbi 5 l w):=by
 have hl:=h.1;rcases A with _|a
 ·
  have h0:n=0:=by
   rcases Nat.eq_zero_or_pos n with h0|h0
   ·
    exact h0
   ·
    obtain⟨_,_,e,_⟩:=h.2 h0;cases e
  subst h0;have e:l=[]:=List.eq_nil_of_length_eq_zero hl;subst e;have q22:=fun (W:World) (a:OA) (n c:Nat)=>Lib.run_eql_slice_nil (P:=Tryz.prog) W 29 5 a n c 0 0 Tryz.underlying29
  go_enter Tryz.func91,Tryz.ntmps91;go_wp2_with fail;go_ret;exact⟨_,rfl,Ob.nil_ _ _ _,Below.refl _ _⟩
 ·
  have HR:=hid (h.alloc hB (.cells #[] 5));have HO:=hid (show Ob (w.alloc (.cells #[] 5)) w.heap.size 5 (.slice (some ⟨w.heap.size,0,none⟩) 0 0) [] from Ob.lit w [] #[] rfl zr 0 rfl (by decide));have HN:Hid (([]:LB).length+n≤140737488355328):=by show _≤_;simp;exact hn
  clear h hn hl hB;have q22:=fun (W:World) (a:OA) (n c:Nat)=>Lib.run_eql_slice_nil (P:=Tryz.prog) W 29 5 a n c 0 0 Tryz.underlying29
  go_enter Tryz.func91,Tryz.ntmps91;go_wp2_with (first
   | (at_builtin;refine Qam rfl (.tmp 5) (.tmp 6) 29 rfl w.heap.size 5 Tryz.underlying29 Qak _ [] rfl HO.out B (some a) n c l rfl HR.out HN.out (by simp) ?_;intro v1 w1 ho1 hb1;have O1:=hid ho1;have B1:=hid (((Below.refl w.heap.size w).alloc zr _).trans hb1);clear ho1 hb1)
   | fail)
  go_ret;exact⟨_,rfl,by have:=O1.out;rwa[List.nil_append] at this,B1.out⟩
theorem Qnd(n:Nat)(w:World)(h:n<18446744073709551616) :
  Calls Tryz.prog 111 #[.int .u64 (n:Int)] w (Qwr (.mk 0 n [] []) w):=by
 go_enter Tryz.func111,Tryz.ntmps111;go_wp2_with fail;have hr:=fun W B=>RdI.mk_uint (w:=W) (B:=B) (n:=n) h
 exact bodyPost_ret (v:=.agg #[.int .i64 0,.int .u64 (n:Int),.slice none 0 0,.slice none 0 0]) (by simp[results,Tryz.results111,go_sem]) rfl ⟨_,rfl,hr _ _,zb⟩
theorem Qso(A:OA)(n c B:Nat)(l:LB)(w:World)(hB:B≤w.heap.size)(h:Rd w B A n l)(hn:n≤140737488355328)(_hc:n≤c) :
  Calls Tryz.prog 76 #[.slice A n c] w (Qwr (.mk 2 0 l []) w):=by
 have C1:=hid (Qda A n c B l (w.alloc zk0) (Nat.le_trans hB (Qaa _ _)) (h.alloc hB _) hn);have HLN:=hid h.1;have HN:=hid hn;clear h hn hB;go_enter Tryz.func76,Tryz.ntmps76;go_wp2_with fail;refine C1.out.mono ?_;rintro e w1 ⟨v,rfl,ho,hb⟩;have hb':=Qea hb;obtain⟨⟨z0,z1,z2,z3⟩,f0,f1,f2,f3⟩:=Qa4 hb';obtain⟨A2,c2,rfl,hc2,hm2,hr2⟩:=ho.rdn HLN.out;have HR2:=hid hr2;have HO2:=hid ho;have B1:=hid hb';clear ho hb hb' hr2;go_wp2_with fail;refine bodyPost_ret (v:=.agg #[.int .i64 2,.int .u64 0,.slice A2 n c2,.slice none 0 0]) (by simp[results,Tryz.results76,go_sem,z0,z1,z2,z3]) rfl ⟨_,rfl,RdI.mk_data (by decide) hc2 HN.out ?_,?_⟩
 ·
  refine Rd.set4 (HR2.out.more (by simp[World.setCell])) (fun hn b o h=>?_);obtain⟨g,cap,hv,hg,_,_⟩:=HO2.out.form (by rw[HLN.out];exact hn);subst h;cases hv
  simp at hg;omega
 ·
  exact Qas (zb.trans (B1.out.mono (Nat.le_succ _))) zr
end Go.Proofs.YtbnfkjkoinbkgaaGreatDoor
