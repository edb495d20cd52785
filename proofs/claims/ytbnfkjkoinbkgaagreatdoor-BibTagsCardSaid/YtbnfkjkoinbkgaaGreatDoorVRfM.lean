import Derived.Test.YtbnfkjkoinbkgaaGreatDoorVAbb
import Derived.Test.YtbnfkjkoinbkgaaGreatDoorVBlkW4
import Derived.Test.YtbnfkjkoinbkgaaGreatDoorVCfBibTags
import Derived.Test.YtbnfkjkoinbkgaaGreatDoorVIpT
import Derived.Test.YtbnfkjkoinbkgaaGreatDoorVRfI
import Derived.Test.YtbnfkjkoinbkgaaGreatDoorVRfJ
namespace Go.Proofs.YtbnfkjkoinbkgaaGreatDoor
set_option maxRecDepth 100000
set_option maxHeartbeats 16000000
open Go.RowKit
open Go.Lib (hid)
theorem Ql9(g m cap:Nat)(its:List Itm)(w:World)(hg:g<w.heap.size)(h:RdIs w w.heap.size g 0 its)(hm:its.length=m)(h0:0<m)(hmx:m≤1000)(hcap:m≤cap)
  (hF:Qkk (.mk 4 0 [] its)) (hp:par (.mk 4 0 [] its)≤1000000) (hh:hgt (.mk 4 0 [] its)≤1001) (hlen:(wri (.mk 4 0 [] its)).length≤1000000) :
  Calls Tryz.prog 35 #[.slice (some ⟨g,0,none⟩) m cap,.int .i64 0] w (Qno (wri (.mk 4 0 [] its)) w):=by
 have C1:=hid (Qjy g 0 m cap w.heap.size its w zr hg h hm h0 (by omega) hcap);have C2:=hid (fun v W (hr:RdI W W.heap.size v (.mk 4 0 [] its))=>Qh9 (.mk 4 0 [] its) v W W.heap.size hp hh (fun _=>Nat.le_trans hlen (by decide)) zr hr);rw[Qvw hF] at C2
 clear hF hp hh hlen h hg hm h0 hmx hcap;generalize wri (.mk 4 0 [] its)=WB at *;generalize Itm.mk 4 0 [] its=X at *;go_enter Tryz.func35,Tryz.ntmps35;go_wp2_with fail;refine C1.out.mono ?_;rintro e w1 ⟨v1,rfl,hv1,hb1⟩;obtain⟨k1,n1,A1,nd1,cd1,AL1,nl1,cl1,rfl⟩:=hv1.form;have B1:=hid hb1;have V1:=hid hv1;clear hb1 hv1 C1;go_wp2_with fail;refine(C2.out _ _ V1.out).mono ?_;rintro e w2 ⟨v2,rfl,ho2,hb2⟩;obtain⟨A2,c2,rfl,hc2,-,hr2⟩:=ho2.rd;have HR2:=hid (And.intro hc2 hr2);have B2:=hid (B1.out.trans (hb2.mono B1.out.size));clear hb2 ho2 hc2 hr2;go_wp2_with fail;go_ret;exact⟨_,_,_,rfl,HR2.out.2,HR2.out.1,B2.out⟩
theorem Qil(e:Epd):hgt (Qal e)≤3:=by
 unfold Qal;split
 ·
  simp[hgt,Qsy]
 ·
  split <;> simp[hgt,Qsy]
theorem Qp6(b:Bun)(s:LB):hgt (Qeb b s)≤1001:=by
 have h1:=Qil b.dst;have h2:=Qil b.src;have h3:=Qil b.rep;unfold Qeb Qb3;by_cases h0:b.crc=0
 ·
  simp only[if_pos h0];simp[hgt,Qsy];omega
 ·
  simp only[if_neg h0];simp[hgt,Qsy];omega
theorem Qp5{b:Bun}(s:LB)(h:Wr b):par (Qeb b s)≤1000000:=by have:=(Qeo s h).2.2;omega
theorem Q2j{b:Bun}(h0:b.crc=0):Qeb b []=.mk 4 0 [] (Qb3 b):=by unfold Qeb;rw[if_pos h0,List.append_nil]
theorem Q2i{b:Bun}(h0:b.crc≠0)(s:LB):Qeb b s=.mk 4 0 [] (Qb3 b++[.mk 2 0 s []]):=by unfold Qeb;rw[if_neg h0]
theorem Qma(b:Bun)(g:Nat)(w:World)(hw:Wr b)(hg:g<w.heap.size)(h:RdIs w w.heap.size g 0 (Qb3 b)) :
  Calls Tryz.prog 35 #[.slice (some ⟨g,0,none⟩) 8 8,.int .i64 b.crc] w (Qno (Qbx b) w):=by
 have hbl:=Qi7 hw;have hc:b.crc=0∨b.crc=1∨b.crc=2:=by have:=hw.1;omega
 rcases hc with h0|h0
 ·
  have e1:(Qpn b)=[]:=List.eq_nil_of_length_eq_zero (by rw[Qfr,h0];rfl);have e2:wri (Qeb b [])=Qbx b:=by rw[Qfn b [] (by rw[h0];rfl)];unfold Qbx;rw[e1]
  have hF:=Qeo [] hw;have hp:=Qp5 [] hw;have hh:=Qp6 b [];have hl:(wri (Qeb b [])).length≤1000000:=by rw[Qfn b [] (by rw[h0];rfl),List.append_nil];omega
  rw[Q2j h0] at e2 hF hp hh hl
  rw[h0,← e2]
  exact Ql9 g 8 8 (Qb3 b) w hg h rfl (by decide) (by decide) zr hF hp hh hl
 ·
  have key:∀ N:Nat,((b.crc=1∧N=2)∨(b.crc=2∧N=4))→Calls Tryz.prog 35 #[.slice (some ⟨g,0,none⟩) 8 8,.int .i64 b.crc] w (Qno (Qbx b) w):=fun N hN=>by
   have hs:Qgx b.crc=N:=by rcases hN with ⟨h1,rfl⟩|⟨h1,rfl⟩ <;> (rw[h1];rfl)
   have hne:b.crc≠0:=by omega
   have hwi:=Qfn b (List.replicate N 0) (by rw[List.length_replicate,hs]);have hF:=Qeo (List.replicate N 0) hw;have hp:=Qp5 (List.replicate N 0) hw;have hh:=Qp6 b (List.replicate N 0);have hl:(wri (Qeb b (List.replicate N 0))).length≤1000000∧N≤(wri (Qeb b (List.replicate N 0))).length:=by
    rw[hwi,List.length_append,List.length_replicate]
    omega
   have hQ:(wri (Qeb b (List.replicate N 0))).take ((wri (Qeb b (List.replicate N 0))).length - N)++Qbb b.crc (wri (Qeb b (List.replicate N 0)))=Qbx b:=by
    rw[hwi,Qjc _ _ N (by simp)]
    unfold Qbx Qpn Qbv;rw[hs]
   rw[Q2i hne] at hF hp hh hl hQ
   have:=Qmb g 8 8 (Qb3 b) b.crc N w hN hg h rfl (by decide) (by decide) (by decide) hF hp hh hl.1 hl.2
   rw[hQ] at this
   exact this
  rcases h0 with h0|h0
  ·
   exact key 2 (.inl ⟨h0,rfl⟩)
  ·
   exact key 4 (.inr ⟨h0,rfl⟩)
theorem Qmc(h:BH)(l:List Blk)(A:OA)(n c B:Nat)(w:World)(hd:h.Bd)(hr:RdL w B A n l)(hB:B≤w.heap.size) :
  Calls Tryz.prog 17 #[Qbl h A n c] w fun e w'=>Below w.heap.size w w'∧∃ (A':OA) (n' c':Nat),e=.returned (.tuple #[.slice A' n' c',.int .i64 (Qa3 (h.bun l))])∧n'≤c'∧Rd w' w'.heap.size A' n' (if Qa3 (h.bun l)=0 then Qbx (h.bun l) else []):=by
 have HB0:=hid ((Below.refl w.heap.size w).alloc zr (hbx h h.crc A n c));have HW0:Hid (Below (w.heap.size+1) (w.alloc (hbx h h.crc A n c)) (w.alloc (hbx h h.crc A n c))):=Below.refl _ _;have HS0:Hid ((w.alloc (hbx h h.crc A n c)).heap.size=w.heap.size+1):=by show _=_;simp
 have HX:=hid (fun (W:World) (hb:Below (w.heap.size+1) (w.alloc (hbx h h.crc A n c)) W)=>Qad (w:=w) rfl hb);have C1:=hid (Qoc h l A n c B (w.alloc (hbx h h.crc A n c)) hd (hr.below (HB0.out.mono hB)) (Nat.le_trans hB HB0.out.size));by_cases hz:Qa3 (h.bun l)=0
 case neg =>
  have HE:Hid ((if Qa3 (h.bun l)=0 then Qbx (h.bun l) else [])=([]:LB)):=if_neg hz;rw[HE.out]
  have hz1:(Qa3 (h.bun l) != 0)=true:=by simp[hz]
  have hz2:(Qa3 (h.bun l)==0)=false:=by simp[hz]
  generalize Qa3 (h.bun l)=z at *;clear hr hB hd hz HE;unfold Qbl at *;go_enter Tryz.func17,Tryz.ntmps17;go_wp2_with (first
   | (refine Qae rfl (.tmp 1) rfl _ rfl _ _ (HX.out _ HW0.out) rfl ?_)
   | fail)
  refine C1.out.mono ?_;rintro e w1 ⟨rfl,hb⟩;have B1:=hid (HB0.out.trans (hb.mono HB0.out.size));clear hb;go_wp2_with fail;go_ret2
  exact⟨B1.out,_,_,_,rfl,Nat.le_refl _,Rd.nil_⟩
 rw[if_pos hz]
 have hwr:Wr (h.bun l):=(Qc8.1 (Qfa.1 hz).2.1).1;have C2:=hid (fun W=>Qoa h l A n c W hd hwr.1 hwr.2.1 hwr.2.2.1 hwr.2.2.2);have C3:=hid (fun g (W:World) (hg:g<W.heap.size) (hi:RdIs W W.heap.size g 0 (Qb3 (h.bun l)))=>Qma (h.bun l) g W hwr hg hi);have hcr:(h.bun l).crc=h.crc:=rfl;rw[hcr] at C3
 generalize Qbx (h.bun l)=PW at *;generalize Qa3 (h.bun l)=z at *;subst hz;clear hr hB hd hwr hcr;unfold Qbl at *;go_enter Tryz.func17,Tryz.ntmps17;go_wp2_with (first
  | (refine Qae rfl (.tmp 1) rfl _ rfl _ _ (HX.out _ HW0.out) rfl ?_)
  | fail)
 refine C1.out.mono ?_;rintro e w1 ⟨rfl,hb⟩;have B1:=hid (Below.push HW0.out (Nat.le_of_eq HS0.out.symm) hb);have T1:=hid (HB0.out.trans (B1.out.mono (Nat.le_succ _)));have R1:=hid (HX.out _ B1.out);clear hb;go_wp2_with fail;refine wp_region_held_drew (S:=fun W=>Below w1.heap.size w1 W) (by kernel_rfl) Below.drew_ (fun hHeld=>?_);have BC:=hid hHeld;refine Qao (i:=0) rfl (by kernel_rfl) (by kernel_rfl) (by kernel_rfl) (fun _ _ _ h=>h) (by rfl) (fun W hW=>Qf7 rfl rfl (Qac R1.out hW (Qaf R1.out)) rfl) (by assumption) ?_;try simp only[zs]
 refine Qao (i:=2) (v:=?v2) rfl (by kernel_rfl) (by kernel_rfl) (by kernel_rfl) (fun _ _ _ h=>h) (by rfl) ?hy2 (by assumption) ?rest2
 case hy2=>(intro W hSw;go_simp;try with_reducible rfl)
 try simp only[zs]
 refine Qao (i:=3) (v:=?v3) rfl (by kernel_rfl) (by kernel_rfl) (by kernel_rfl) (fun _ _ _ h=>h) (by rfl) ?hy3 (by assumption) ?rest3
 case hy3=>(intro W hSw;have x1:=Qab (Qac R1.out hSw (Qaf R1.out)) 1 rfl;go_simp;try with_reducible rfl)
 try simp only[zs]
 refine wpAnyH_ready (rs:=[1]) (by kernel_rfl) (by simp) ?_;refine AllReadyH.cons rfl (fun K hK=>?_) AllReadyH.nil;rw[if_pos (by rfl)]
 go_simp
 refine(C2.out _).mono ?_;rintro e w2 ⟨g,rfl,hg,hit,hb⟩;replace BC:=hid (BC.out.trans (hb.mono BC.out.size));have CS:=hid (C3.out g w2 hg hit);clear hb hg hit;go_simp
 refine hK.out _ _ BC.out (fun hHeld=>?_);try simp only[zs]
 clear hK K;refine wpAnyH_ready (rs:=[4]) (by kernel_rfl) (by simp) ?_;refine AllReadyH.cons rfl (fun K hK=>?_) AllReadyH.nil;rw[if_pos (by rfl)]
 go_simp
 refine(CS.out).mono ?_;rintro e w3 ⟨A3,n3,c3,rfl,hr3,hc3,hb⟩;replace BC:=hid (BC.out.trans (hb.mono BC.out.size));have HR:=hid (And.intro hr3 hc3);clear hb hr3 hc3;go_simp
 refine hK.out _ _ BC.out (fun hHeld=>?_);try simp only[zs]
 clear hK K;refine Qao (i:=5) (v:=?v5) rfl (by kernel_rfl) (by kernel_rfl) (by kernel_rfl) (fun _ _ _ h=>h) (by rfl) ?hy5 (by assumption) ?rest5
 case hy5=>(intro W hSw;go_simp;try with_reducible rfl)
 try simp only[zs]
 refine Qao (i:=6) (v:=?v6) rfl (by kernel_rfl) (by kernel_rfl) (by kernel_rfl) (fun _ _ _ h=>h) (by rfl) ?hy6 (by assumption) ?rest6
 case hy6=>(intro W hSw;go_simp;try with_reducible rfl)
 try simp only[zs]
 refine wpAnyH_done (by kernel_rfl) ?_ _;go_wp2_with fail;go_ret2
 exact⟨T1.out.trans (BC.out.mono T1.out.size),_,_,_,rfl,HR.out.2,HR.out.1⟩
open Go.Lib (decDigits)
end Go.Proofs.YtbnfkjkoinbkgaaGreatDoor
